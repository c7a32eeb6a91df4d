/- A region that draws its order, one of whose operations (number e) turns what its loads have read: the loads, which e waits for, are taken first. -/
import Derived.Deep.RegionHeld3
import Derived.Test.YtkhheooofcpfdaaGreatDoorMgP
import Derived.Test.YtkhheooofcpfdaaGreatDoorMgC
import Derived.Test.YtkhheooofcpfdaaGreatDoorTrkChk
namespace Go.Proofs.YtkhheooofcpfdaaGreatDoor
open Go
set_option linter.unusedVariables false
section
variable {P:Program} {ops:Array Oper} {Q:Exit→Act→World→Prop} {md:Region.Mode} {S:World→Prop} {e:Nat}
def comeB (ls:Array Bool) (e:Nat):Bool:=ls.getD e false
def AnyE (P:Program) (md:Region.Mode) (ops:Array Oper) (Q:Exit→Act→World→Prop) (S:World→Prop) (e:Nat):Nat→Array Bool→Act→World→Prop
 | 0,ls,a,w=>Region.ready md ops ls=[]∧Q .normal a w
 | n+1,ls,a,w=>(Region.ready md ops ls=[]→Q .normal a w)∧∀ i ∈ Region.ready md ops ls,wpOp P ops Q i (fun a' w'=>(comeB (ls.setIfInBounds i true) e=true∨S w')∧AnyE P md ops Q S e n (ls.setIfInBounds i true) a' w') a w
theorem any_of_E:∀ (n:Nat) (ls:Array Bool) (a:Act) (w:World),AnyE P md ops Q S e n ls a w→wpAny P md ops Q n ls a w
 | 0,_,_,_,h=>h
 | n+1,_,_,_,h=>⟨h.1,fun i hi=>wpOp_mono (fun a' w' h'=>any_of_E n _ a' w' h'.2) (h.2 i hi)⟩
theorem up_ne {ls:Array Bool} {i:Nat} (h:i≠e):comeB (ls.setIfInBounds i true) e=comeB ls e:=by unfold comeB;exact _root_.Go.getD_set_ne false h
theorem up_set {ls:Array Bool} {i:Nat} (h:comeB ls e=true):comeB (ls.setIfInBounds i true) e=true:=by unfold comeB at *;exact getD_set_true h
def waitsB (md:Region.Mode) (ops:Array Oper) (e i:Nat):Bool:=match ops[e]? with
 | some oe=>oe.after.any fun x=>Region.binds md x && x.on == i
 | none=>false
theorem not_up {ls:Array Bool} {i:Nat} (hr:i ∈ Region.ready md ops ls):ls.getD i false≠true:=by
 intro h1
 have h0:=(mem_ready.1 hr).1
 rcases Nat.lt_or_ge i ls.size with h'|h'
 ·simp [h'] at h0 h1;rw [h0] at h1;cases h1
 ·simp [Array.getElem?_eq_none h'] at h1
theorem waits_not {ls:Array Bool} {i:Nat} (hw:waitsB md ops e i=true) (hr:i ∈ Region.ready md ops ls):e ∉ Region.ready md ops ls:=by
 intro he
 obtain ⟨_,oe,hoe,hall⟩:=mem_ready.1 he
 unfold waitsB at hw
 rw [hoe] at hw
 simp only [Array.any_eq_true] at hw
 obtain ⟨j,hj,hx⟩:=hw
 simp only [Bool.and_eq_true,beq_iff_eq] at hx
 have h1:=hall oe.after[j] (Array.getElem_mem hj) hx.1
 rw [hx.2] at h1
 exact not_up hr h1
theorem E_first {i:Nat} {oi:Oper} {v:Value} {T:World→Prop} (hi:ops[i]? = some oi) (hie:i≠e) (hsel:∀ (j:Nat) (o:Oper) cs b,ops[j]? = some o→o.op≠.select cs b)
  (hQ:∀ c a w,Q (.panic c) (a.put oi.dst v) w→Q (.panic c) a w) (hT:(∀ w,T w)∨(waitsB md ops e i=true∧∀ w,S w→T w)) (n:Nat) :
  ∀ (ls:Array Bool) (a:Act) (w:World),(∀ j oj,ops[j]? = some oj→j≠i→ls.getD j true=false→(∀ x ∈ oj.after,Region.binds md x=true→x.on≠i)→oi.apart ops oj=true) →
   i ∈ Region.ready md ops ls→YieldsIf P ops T oi v a→T w→(comeB ls e=true∨S w)→((∀ w,T w)∨comeB ls e=false)→AnyE P md ops Q S e n (ls.setIfInBounds i true) (a.put oi.dst v) w→AnyE P md ops Q S e (n+1) ls a w:=by
 induction n with
 | zero =>
  intro ls a w _ hr hy hTw hS hU H
  refine ⟨fun h=>(by rw [h] at hr;cases hr),fun j hj=>?_⟩
  by_cases hji:j=i
  ·subst hji;exact hy.wpOp hi hTw ⟨hS.imp_left up_set,H⟩
  ·have:=ready_mono hj hji
   rw [H.1] at this
   cases this
 | succ n ih =>
  intro ls a w hfree hr hy hTw hS hU H
  refine ⟨fun h=>(by rw [h] at hr;cases hr),fun j hj=>?_⟩
  by_cases hji:j=i
  ·subst hji;exact hy.wpOp hi hTw ⟨hS.imp_left up_set,H⟩
  ·have h1:=H.2 j (ready_mono hj hji)
   obtain ⟨hjun,oj,hoj,hall⟩:=mem_ready.1 hj
   have hnot:∀ x ∈ oj.after,Region.binds md x=true→x.on≠i:=fun x hx hb heq=>not_up hr (heq ▸ hall x hx hb)
   have h2:=wpOp_putIf hoj (hfree j oj hoj hji hjun hnot) (fun cs b=>hsel i oi cs b hi) (fun cs b=>hsel j oj cs b hoj) hQ hy h1
   refine wpOp_mono (fun a' w' h3=>?_) h2
   have hc:comeB (ls.setIfInBounds j true) e=true∨S w':=h3.2.1.imp_left (fun h=>by rw [Array.setIfInBounds_comm _ _ (Ne.symm hji)] at h;rw [up_ne hie] at h;exact h)
   have hT':T w'∧((∀ w,T w)∨comeB (ls.setIfInBounds j true) e=false):=by
    rcases hT with hT|⟨hw,hT⟩
    ·exact ⟨hT w',.inl hT⟩
    ·rcases hU with hU|hU
     ·exact ⟨hU w',.inl hU⟩
     ·have hje:j≠e:=fun h=>waits_not hw hr (h ▸ hj)
      have hn:comeB (ls.setIfInBounds j true) e=false:=by rw [up_ne hje];exact hU
      refine ⟨hT w' (hc.resolve_left (by rw [hn];decide)),.inr hn⟩
   refine ⟨hc,ih (ls.setIfInBounds j true) a' w' (fun k ok hk hki hun hno=>hfree k ok hk hki ?_ hno) (ready_mono hr (Ne.symm hji)) h3.1 hT'.1 hc hT'.2 ?_⟩
   ·by_cases hjk:j=k
    ·subst hjk;exact hjun
    ·rw [_root_.Go.getD_set_ne true hjk] at hun;exact hun
   ·rw [Array.setIfInBounds_comm _ _ hji]
    exact h3.2.2
theorem E_take (i:Nat) {oi:Oper} {v:Value} {n:Nat} {ls:Array Bool} (ls':Array Bool) {a:Act} {w:World} (hi:ops[i]? = some oi) (hie:(i == e)=false) (hwt:waitsB md ops e i=true)
  (hs:Region.noSelect ops=true) (hf:Region.free md ops ls i=true) (hr:(Region.ready md ops ls).contains i=true) (hu:comeB ls e=false)
  (hQ:∀ c a w,Q (.panic c) (a.put oi.dst v) w→Q (.panic c) a w) (hy:YieldsIf P ops S oi v a) (hS:S w) (hls:ls.setIfInBounds i true=ls')
  (h:AnyE P md ops Q S e n ls' (a.put oi.dst v) w):AnyE P md ops Q S e (n+1) ls a w :=
 E_first (T:=S) hi (by simpa using hie) (Region.noSelect_spec hs) hQ (.inr ⟨hwt,fun _ h=>h⟩) n ls a w (Region.free_spec hi hf) (by simpa using hr) hy hS (.inr hS) (.inr hu) (hls ▸ h)
theorem E_free (i:Nat) {oi:Oper} {v:Value} {n:Nat} {ls:Array Bool} (ls':Array Bool) {a:Act} {w:World} (hi:ops[i]? = some oi) (hie:(i == e)=false)
  (hs:Region.noSelect ops=true) (hf:Region.free md ops ls i=true) (hr:(Region.ready md ops ls).contains i=true)
  (hQ:∀ c a w,Q (.panic c) (a.put oi.dst v) w→Q (.panic c) a w) (hy:YieldsIf P ops (fun _=>True) oi v a) (hS:comeB ls e=true∨S w) (hls:ls.setIfInBounds i true=ls')
  (h:AnyE P md ops Q S e n ls' (a.put oi.dst v) w):AnyE P md ops Q S e (n+1) ls a w :=
 E_first (T:=fun _=>True) hi (by simpa using hie) (Region.noSelect_spec hs) hQ (.inl fun _=>trivial) n ls a w (Region.free_spec hi hf) (by simpa using hr) hy trivial hS (.inl fun _=>trivial) (hls ▸ h)
theorem E_one (i:Nat) {oi:Oper} {n:Nat} {ls:Array Bool} (ls':Array Bool) {a:Act} {w:World} (hi:ops[i]? = some oi) (hr:Region.ready md ops ls=[i]) (hls:ls.setIfInBounds i true=ls')
  (h:∀ K':Act→World→Prop,Shut (∀ a' w',(comeB ls' e=true∨S w')→AnyE P md ops Q S e n ls' a' w'→K' a' w')→if Region.wanted oi (yielded ops a.tmps)=true then Oper.wp P oi a w K' Q else K' (a.put oi.dst undef) w):AnyE P md ops Q S e (n+1) ls a w:=by
 subst hls
 refine ⟨(fun h0=>by rw [hr] at h0;cases h0),fun j hj=>?_⟩
 rw [hr] at hj
 obtain rfl:j=i:=by simpa using hj
 exact wpOp_step hi (fun K' hK=>h K' (fun a w hS hW=>hK a w ⟨hS,hW⟩))
theorem E_oneG (i:Nat) {oi:Oper} {n:Nat} {ls:Array Bool} (ls':Array Bool) {a:Act} {w:World} (hi:ops[i]? = some oi) (hg:oi.guard=none) (hr:Region.ready md ops ls=[i]) (hls:ls.setIfInBounds i true=ls')
  (h:∀ K':Act→World→Prop,Shut (∀ a' w',(comeB ls' e=true∨S w')→AnyE P md ops Q S e n ls' a' w'→K' a' w')→Oper.wp P oi a w K' Q):AnyE P md ops Q S e (n+1) ls a w:=by
 refine E_one i ls' hi hr hls (fun K' hK'=>?_)
 rw [if_pos (by simp [Region.wanted,hg])]
 exact h K' hK'
theorem E_done {ls:Array Bool} {a:Act} {w:World} (hr:Region.ready md ops ls=[]) (h:Q .normal a w):∀ n,AnyE P md ops Q S e n ls a w
 | 0=>⟨hr,h⟩
 | _+1=>⟨fun _=>h,by rw [hr];simp⟩
theorem wp_region_E {id:Nat} {a:Act} {w:World} (S:World→Prop) (e n:Nat) (ls:Array Bool) (hm:P.follows .mixedOrders=true) (hn:ops.size=n) (hls:Array.replicate n false=ls)
  (h:AnyE P .any ops Q S e n ls a w.drew):(Code.region id ops true).wp P Q a w:=by
 subst hls
 subst hn
 exact wp_region_any hm (any_of_E _ _ _ _ h)
end
end Go.Proofs.YtkhheooofcpfdaaGreatDoor
namespace Go.Proofs.YtkhheooofcpfdaaGreatDoor
open Go.RowKit Go.Maps
set_option linter.unusedVariables false
theorem Tryz.keyEqG (p q:Ky) (w:World):(Op.equalIn 10000 37 (.agg #[.int .i64 p.kind,.int .i64 p.src,.int .i64 p.frm,.int .i64 p.dst,.int .i64 p.too]) (.agg #[.int .i64 q.kind,.int .i64 q.src,.int .i64 q.frm,.int .i64 q.dst,.int .i64 q.too])).run Tryz.prog w = .ok (decide (p=q)) w:=by
 have h:=run_equalIn_agg (P:=Tryz.prog) w 9999 37 #[.int .i64 p.kind,.int .i64 p.src,.int .i64 p.frm,.int .i64 p.dst,.int .i64 p.too] #[.int .i64 q.kind,.int .i64 q.src,.int .i64 q.frm,.int .i64 q.dst,.int .i64 q.too] Tryz.keyFields Tryz.keyHeld
 refine h.trans ?_
 obtain ⟨a0,a1,a2,a3,a4⟩:=p
 obtain ⟨b0,b1,b2,b3,b4⟩:=q
 simp only [Ky.mk.injEq]
 by_cases h0:a0=b0
 ·by_cases h1:a1=b1
  ·by_cases h2:a2=b2
   ·by_cases h3:a3=b3
    ·by_cases h4:a4=b4
     ·simp [Program.fieldsOf,Tryz.underlying37,Op.eqFields,part,isAgg,underlying,Tryz.underlying3,Result.andThen,run_equalIn_int (P:=Tryz.prog) _ 9998 3 .i64 .i64 _ _ Tryz.underlying3,h0,h1,h2,h3,h4]
     ·simp [Program.fieldsOf,Tryz.underlying37,Op.eqFields,part,isAgg,underlying,Tryz.underlying3,Result.andThen,run_equalIn_int (P:=Tryz.prog) _ 9998 3 .i64 .i64 _ _ Tryz.underlying3,h0,h1,h2,h3,h4]
    ·simp [Program.fieldsOf,Tryz.underlying37,Op.eqFields,part,isAgg,underlying,Tryz.underlying3,Result.andThen,run_equalIn_int (P:=Tryz.prog) _ 9998 3 .i64 .i64 _ _ Tryz.underlying3,h0,h1,h2,h3]
   ·simp [Program.fieldsOf,Tryz.underlying37,Op.eqFields,part,isAgg,underlying,Tryz.underlying3,Result.andThen,run_equalIn_int (P:=Tryz.prog) _ 9998 3 .i64 .i64 _ _ Tryz.underlying3,h0,h1,h2]
  ·simp [Program.fieldsOf,Tryz.underlying37,Op.eqFields,part,isAgg,underlying,Tryz.underlying3,Result.andThen,run_equalIn_int (P:=Tryz.prog) _ 9998 3 .i64 .i64 _ _ Tryz.underlying3,h0,h1]
 ·simp [Program.fieldsOf,Tryz.underlying37,Op.eqFields,part,isAgg,underlying,Tryz.underlying3,Result.andThen,run_equalIn_int (P:=Tryz.prog) _ 9998 3 .i64 .i64 _ _ Tryz.underlying3,h0]
theorem Tryz.keyNeqG (p q:Ky) (w:World):(binOp .neq 37 (.agg #[.int .i64 p.kind,.int .i64 p.src,.int .i64 p.frm,.int .i64 p.dst,.int .i64 p.too]) (.agg #[.int .i64 q.kind,.int .i64 q.src,.int .i64 q.frm,.int .i64 q.dst,.int .i64 q.too])).run Tryz.prog w = .ok (.bool (!decide (p=q))) w:=by
 rw [run_neq_struct,Tryz.keyEqG];rfl
theorem Tryz.keyEqlG (p q:Ky) (w:World):(binOp .eql 37 (.agg #[.int .i64 p.kind,.int .i64 p.src,.int .i64 p.frm,.int .i64 p.dst,.int .i64 p.too]) (.agg #[.int .i64 q.kind,.int .i64 q.src,.int .i64 q.frm,.int .i64 q.dst,.int .i64 q.too])).run Tryz.prog w = .ok (.bool (decide (p=q))) w:=by
 rw [run_eql_struct,Tryz.keyEqG];rfl
def sdK (f:Fl) (k:Ky) (s:Sg):Int:=if (¬ k=f.key)∨(k.kind=3∧k.src=k.dst∧s.frm=1) then 1 else 0
structure Fks (w:World) (f:Fl) (k:Ky) (s:Sg) (bv:Value) (W:World):Prop where
 fl:FlAt W w.heap.size f
 ky:KyAt W (w.heap.size+1) k
 sg:SgAt W (w.heap.size+2) s bv
 bel:Below w.heap.size w W
theorem Fks.start (w:World) (f:Fl) (k:Ky) (s:Sg) (bv:Value):Fks w f k s bv (((w.alloc (.cells #[.int .i64 f.key.kind,.int .i64 f.key.src,.int .i64 f.key.frm,.int .i64 f.key.dst,.int .i64 f.key.too,.int .i64 f.st,.int .i64 f.unt,.int .i64 f.stp,.int .i64 f.h0,.int .i64 f.h1,.int .i64 f.w0,.int .i64 f.w1,.bool f.d0,.bool f.d1,.int .i64 f.num] 45)).alloc (.cells #[.int .i64 k.kind,.int .i64 k.src,.int .i64 k.frm,.int .i64 k.dst,.int .i64 k.too] 37)).alloc (.cells #[.int .i64 s.frm,.int .i64 s.too,.int .i64 s.seq,.int .i64 s.ack,.int .i64 s.win,.int .i64 s.flg,bv] 41)):=by
 have h1:=FlAt.new w f
 have s1:(w.alloc (.cells #[.int .i64 f.key.kind,.int .i64 f.key.src,.int .i64 f.key.frm,.int .i64 f.key.dst,.int .i64 f.key.too,.int .i64 f.st,.int .i64 f.unt,.int .i64 f.stp,.int .i64 f.h0,.int .i64 f.h1,.int .i64 f.w0,.int .i64 f.w1,.bool f.d0,.bool f.d1,.int .i64 f.num] 45)).heap.size=w.heap.size+1:=by simp
 have b1:Below w.heap.size w (w.alloc (.cells #[.int .i64 f.key.kind,.int .i64 f.key.src,.int .i64 f.key.frm,.int .i64 f.key.dst,.int .i64 f.key.too,.int .i64 f.st,.int .i64 f.unt,.int .i64 f.stp,.int .i64 f.h0,.int .i64 f.h1,.int .i64 f.w0,.int .i64 f.w1,.bool f.d0,.bool f.d1,.int .i64 f.num] 45)):=(Below.refl _ _).alloc (Nat.le_refl _) _
 generalize w.alloc (.cells #[.int .i64 f.key.kind,.int .i64 f.key.src,.int .i64 f.key.frm,.int .i64 f.key.dst,.int .i64 f.key.too,.int .i64 f.st,.int .i64 f.unt,.int .i64 f.stp,.int .i64 f.h0,.int .i64 f.h1,.int .i64 f.w0,.int .i64 f.w1,.bool f.d0,.bool f.d1,.int .i64 f.num] 45)=w1 at h1 s1 b1 ⊢
 have h2:=KyAt.new w1 k
 rw [s1] at h2
 have h1':=h1.alloc (.cells #[.int .i64 k.kind,.int .i64 k.src,.int .i64 k.frm,.int .i64 k.dst,.int .i64 k.too] 37)
 have b2:=b1.alloc b1.size (.cells #[.int .i64 k.kind,.int .i64 k.src,.int .i64 k.frm,.int .i64 k.dst,.int .i64 k.too] 37)
 have s2:(w1.alloc (.cells #[.int .i64 k.kind,.int .i64 k.src,.int .i64 k.frm,.int .i64 k.dst,.int .i64 k.too] 37)).heap.size=w.heap.size+2:=by simp [s1]
 generalize w1.alloc (.cells #[.int .i64 k.kind,.int .i64 k.src,.int .i64 k.frm,.int .i64 k.dst,.int .i64 k.too] 37)=w2 at h1' s2 b2 h2 ⊢
 have h3:=SgAt.new w2 s bv
 rw [s2] at h3
 exact ⟨h1'.alloc _,h2.alloc _,h3,b2.alloc b2.size _⟩
set_option maxRecDepth 100000 in
set_option maxHeartbeats 16000000 in
theorem side_any (f:Fl) (k:Ky) (s:Sg) (a:Option Addr) (l c:Nat) (w:World) :
  Calls Tryz.prog 36 #[flV f,keyV k,segV s (.slice a l c)] w fun e w'=>e = .returned (.int .i64 (sdK f k s))∧Below w.heap.size w w':=by
 have h1:=Fks.start w f k s (.slice a l c)
 obtain ⟨W1,hW1⟩:∃ W1,((w.alloc (.cells #[.int .i64 f.key.kind,.int .i64 f.key.src,.int .i64 f.key.frm,.int .i64 f.key.dst,.int .i64 f.key.too,.int .i64 f.st,.int .i64 f.unt,.int .i64 f.stp,.int .i64 f.h0,.int .i64 f.h1,.int .i64 f.w0,.int .i64 f.w1,.bool f.d0,.bool f.d1,.int .i64 f.num] 45)).alloc (.cells #[.int .i64 k.kind,.int .i64 k.src,.int .i64 k.frm,.int .i64 k.dst,.int .i64 k.too] 37)).alloc (.cells #[.int .i64 s.frm,.int .i64 s.too,.int .i64 s.seq,.int .i64 s.ack,.int .i64 s.win,.int .i64 s.flg,.slice a l c] 41)=W1:=⟨_,rfl⟩
 rw [hW1] at h1
 have hne:=Tryz.keyNeqG k f.key
 obtain ⟨r,hr⟩:∃ r,sdK f k s=r:=⟨_,rfl⟩
 rw [hr]
 obtain ⟨d,hd⟩:∃ d,decide (k=f.key)=d:=⟨_,rfl⟩
 rw [hd] at hne
 have HRR:Hid (r=if d=false∨(k.kind=3∧k.src=k.dst∧s.frm=1) then 1 else 0):=by
  show r=_
  rw [← hr]
  unfold sdK
  cases d <;> simp at hd <;> simp [hd]
 have HB:=hidE h1.bel
 obtain ⟨k0,k1,k2,k3,k4⟩:=h1.ky.cells
 obtain ⟨s0,s1,s2,s3,s4,s5,s6⟩:=h1.sg.cells
 obtain ⟨e0,e1,e2,e3,e4,_⟩:=h1.fl.cells
 unfold keyV flV segV
 clear hr hd h1
 by_cases q0:k.kind=3
 ·by_cases q1:k.src=k.dst
  ·by_cases q2:s.frm=1
   ·have i0:(k.kind == 3)=true:=by simpa using q0
    have i1:(k.src == k.dst)=true:=by simpa using q1
    have i2:(s.frm == 1)=true:=by simpa using q2
    have HR2:Hid (r=1):=by show r=1;rw [HRR.out,if_pos (.inr ⟨q0,q1,q2⟩)]
    clear q0 q1 q2 HRR
    cases d
    all_goals
     go_enter Tryz.func36,Tryz.ntmps36
     go_upto_region 1 with fail
     try rw [hW1]
     go_wp2_with fail
     go_ret
     exact ⟨by rw [HR2.out];rfl,HB.out⟩
   ·have i0:(k.kind == 3)=true:=by simpa using q0
    have i1:(k.src == k.dst)=true:=by simpa using q1
    have i2:(s.frm == 1)=false:=by simpa using q2
    have HR2:Hid (r=if d=false then 1 else 0):=by show r=_;rw [HRR.out];simp [q2]
    clear q0 q1 q2 HRR
    cases d
    all_goals
     go_enter Tryz.func36,Tryz.ntmps36
     go_upto_region 1 with fail
     try rw [hW1]
     go_wp2_with fail
     go_ret
     exact ⟨by rw [HR2.out];rfl,HB.out⟩
  ·have i0:(k.kind == 3)=true:=by simpa using q0
   have i1:(k.src == k.dst)=false:=by simpa using q1
   have HR2:Hid (r=if d=false then 1 else 0):=by show r=_;rw [HRR.out];simp [q1]
   clear q0 q1 HRR
   cases d
   all_goals
    go_enter Tryz.func36,Tryz.ntmps36
    go_upto_region 1 with fail
    try rw [hW1]
    go_wp2_with fail
    go_ret
    exact ⟨by rw [HR2.out];rfl,HB.out⟩
 ·have i0:(k.kind == 3)=false:=by simpa using q0
  have HR2:Hid (r=if d=false then 1 else 0):=by show r=_;rw [HRR.out];simp [q0]
  clear q0 HRR
  cases d
  all_goals
   go_enter Tryz.func36,Tryz.ntmps36
   go_upto_region 1 with fail
   try rw [hW1]
   go_wp2_with fail
   go_ret
   exact ⟨by rw [HR2.out];rfl,HB.out⟩
end Go.Proofs.YtkhheooofcpfdaaGreatDoor
