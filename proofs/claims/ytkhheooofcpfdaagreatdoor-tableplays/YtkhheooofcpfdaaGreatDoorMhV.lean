/- maps.Keys of a table's flows: an iterator that gives the keys, each once, in some order. -/
import Derived.Test.YtkhheooofcpfdaaGreatDoorMgQ
import Derived.RangeFuncNested
import Derived.RangeFuncBound
import Derived.RangeFuncCalls
import Derived.RangeFuncLeaves
import Derived.RangeFuncFrom
import Derived.Sort.MapsRangeIn
import Derived.Shelf.Abstract
import Derived.Shelf.RegionOpen
import Derived.WalkKit
import Derived.OwnWalkIn
import Derived.TacticsInMore
import Derived.RegionIn
import Derived.LoopNIn
import Derived.LoopIn
import Derived.Test.YtkhheooofcpfdaaGreatDoorMhS
import Derived.Test.YtkhheooofcpfdaaGreatDoorMgB
import Derived.Test.YtkhheooofcpfdaaGreatDoorMgX
import Derived.Test.YtkhheooofcpfdaaGreatDoorMhW
import Derived.Test.YtkhheooofcpfdaaGreatDoorMgR
import Derived.Deep.RegionLaw
import Derived.Deep.AppendLies
import Derived.Deep.LoopGhost
namespace Go.Proofs.YtkhheooofcpfdaaGreatDoor
open Go.RowKit Go.Maps
set_option linter.unusedVariables false
attribute [local go_sem] Oper.semAt_some
noncomputable def cmK (fs:List Fl) (left:Lit→Bool):List Ky:=(fs.filter fun f=>!left (litK (firstK f.key))).map fun f=>firstK f.key
theorem cmK_done {fs:List Fl} {left:Lit→Bool} (h:∀ kl,left kl=false):cmK fs left=fs.map fun f=>firstK f.key:=by
 unfold cmK
 rw [List.filter_eq_self.2 (fun f _=>by rw [h];rfl)]
set_option maxRecDepth 100000 in
theorem cmK_start {W:World} {m n:Nat} {fs:List Fl} {es0:List (Lit × DataW Value)} (hp:es0.Perm (heldL (flsL fs))) (hown:W.ownsMap Tryz.prog 37 rawR m n (.map es0)):cmK fs (has (DataW.map es0))=[]:=by
 unfold cmK
 rw [List.filter_eq_nil_iff.2,List.map_nil]
 intro f hf
 have hm:=hp.mem_iff.2 (heldL_mem.2 (fls_mem.2 ⟨f,hf,rfl⟩))
 obtain ⟨es1,he,_,hk⟩:=hown.entries lawK
 injection he with he
 subst he
 have:has (DataW.map es0) (litK (firstK f.key))=true:=by
  rw [has_eq,List.any_eq_true]
  refine ⟨_,hm,?_⟩
  have h2:=hk _ hm
  generalize litK (firstK f.key)=q at h2 ⊢
  exact WideAt.sameKey_self h2
 rw [this];simp
theorem cmK_step {fs:List Fl} {left:Lit→Bool} {ks:List Ky} {f:Fl} (hok:∀ g ∈ fs,KyOk g.key) (hap:fs.Pairwise fun f g=>firstK f.key≠firstK g.key) (hf:f ∈ fs) (hl:left (litK (firstK f.key))=true) (h:ks.Perm (cmK fs left)) :
  (ks++[firstK f.key]).Perm (cmK fs fun z=>left z && !z.sameKey (litK (firstK f.key))):=by
 have hun:∀ g ∈ fs,g≠f→firstK g.key≠firstK f.key:=by
  intro g hg hne e
  have hx:∀ {l:List Fl},l.Pairwise (fun f g=>firstK f.key≠firstK g.key)→f ∈ l→g ∈ l→False:=by
   intro l hl
   induction l with
   | nil=>intro h;cases h
   | cons a r ih =>
    intro h1 h2
    rw [List.pairwise_cons] at hl
    rcases List.mem_cons.1 h1 with rfl|h1' <;> rcases List.mem_cons.1 h2 with rfl|h2'
    ·exact hne rfl
    ·exact hl.1 _ h2' e.symm
    ·exact hl.1 _ h1' e
    ·exact ih hl.2 h1' h2'
  exact hx hap hf hg
 have hm:=filter_more (p:=fun g=>!left (litK (firstK g.key))) (q:=fun g=>!(left (litK (firstK g.key)) && !(litK (firstK g.key)).sameKey (litK (firstK f.key)))) hf (nodup_of_apart hap) (by simp [hl])
  (by rw [same_lit (hok f hf).first (hok f hf).first];simp)
  (fun g hg hne=>by rw [same_lit (hok g hg).first (hok f hf).first,decide_eq_false (hun g hg hne)];simp)
 unfold cmK
 refine List.Perm.trans ?_ (hm.map fun f=>firstK f.key).symm
 rw [List.map_cons]
 exact (List.perm_append_comm (l₁:=ks) (l₂:=[firstK f.key])).trans (List.Perm.cons _ h)
theorem cmK_len (fs:List Fl) (left:Lit→Bool):(cmK fs left).length≤fs.length:=by
 unfold cmK
 rw [List.length_map]
 exact List.length_filter_le _ _
set_option maxRecDepth 100000 in
set_option maxHeartbeats 8000000 in
theorem keysK_gives (n Bm m:Nat) (fs:List Fl) (w:World) (hBm:Bm < w.heap.size) (hm:w.cell? ⟨Bm,0,none⟩=some (.map (some m))) (hmap:MapIs Tryz.prog 37 w m (flsL fs)) (hok:∀ f ∈ fs,KyOk f.key) (hap:fs.Pairwise fun f g=>firstK f.key≠firstK g.key) :
  SeqStopsK Fence.wide n Tryz.prog 73 #[.pointer (some ⟨Bm,0,none⟩)] (fun k:Ky=>#[.agg #[.int .i64 k.kind,.int .i64 k.src,.int .i64 k.frm,.int .i64 k.dst,.int .i64 k.too]]) KeepsWalks (fun ks=>ks.Perm (fs.map fun f=>firstK f.key)) (fun _=>True) fs.length w:=by
 intro l J Jx W hW hJ hJx hY h0
 have hm':W.cell? ⟨Bm,0,none⟩=some (.map (some m)):=(hW.cell (p:=⟨Bm,0,none⟩) hBm).trans hm
 obtain ⟨es0,hown,hperm⟩:=hmap.block (hW.block m hmap.lt)
 have hst:=cmK_start hperm hown
 have HP:Hid (es0.Perm (heldL (flsL fs))):=hperm
 have HOK:Hid (∀ f ∈ fs,KyOk f.key):=hok
 have HAP:Hid (fs.Pairwise fun f g=>firstK f.key≠firstK g.key):=hap
 have HJ:Hid (AbidesFrom W.heap.size J):=hJ
 have HY:=hY
 clear hm hmap hok hap hperm hW hJ hJx hY
 refine callsIn_of_wp Tryz.func73 rfl trivial ?_ rfl
 simp only [Tryz.ntmps73,List.size_toArray,List.length_cons,List.length_nil,Nat.reduceAdd,Nat.reduceSub,Array.replicate_succ,Array.replicate_zero,List.push_toArray,List.append_toArray,List.nil_append,List.cons_append]
 gi_wp2_with (first
  | (gi_at_range;refine wpListIn_range_own _ rfl _ 72 rfl 37 45 lawK Tryz.underlying72 rawR m _ _ rfl hown ?_;intro w0 hrg0 hg0 hs0)
  | gi_in)
 try go_frame
 obtain ⟨fs0,hfs0⟩:∃ X9,(flsL fs).length=X9:=⟨_,rfl⟩
 rw [hfs0] at hrg0
 clear hfs0
 gi_loopw [3] (fun _ wr=>∃ (left:Lit→Bool) (cnt:Nat) (ks:List Ky),wr.ranges Tryz.prog 37 rawR m W.heap.size fs0 (.map es0) left cnt∧Hid (ks.Perm (cmK fs left))∧Hid (J ks wr)) (fun _ wr=>wr.rangeLeft m W.heap.size)
 case atStart =>
  exact ⟨_,_,[],hrg0,by show _;rw [hst];exact .refl _,HJ.out [] W w0 none h0 hg0 (fun r e=>by cases e)⟩
 case round =>
  clear hrg0 hg0 hs0 h0 hst hown
  obtain ⟨left,cnt,ks,hrg,HC,HJs⟩:=hrel
  gi_wp2_with (first
   | (gi_at_next;refine wpListIn_next_ranges _ rfl _ rfl 37 lawK rawR id id (fun key _ _=>⟨key,rfl⟩) (fun v _ _=>⟨v,rfl⟩) m W.heap.size fs0 _ _ _ rfl hrg ?_ ?_)
   | gi_in)
  ·intro hc0 hl0
   have hC:=HC.out
   rw [cmK_done hl0] at hC
   have HC2:Hid (ks.Perm (fs.map fun f=>firstK f.key)):=hC
   clear hC hl0 hrg
   gi_wp2
   go_end0
   exact ⟨⟨_,rfl⟩,.inl ⟨ks,HC2.out,HJs.out⟩⟩
  ·intro x c kl yd yp w2 cnt2 hkey hlk hv hat hrg2 hlt hg2 hs2 hen
   obtain ⟨rfl,rfl⟩:yd=DataW.held c∧yp=[]:=by
    have h1:rawR c=some (DataW.held c,[]):=rfl
    rw [h1] at hv
    simp only [Option.some.injEq,Prod.mk.injEq] at hv
    exact ⟨hv.1.symm,hv.2.symm⟩
   have hml:=at_mem HP.out hat
   obtain ⟨f,hf,hkl,hcv⟩:=fls_find hml
   subst hkl hcv
   have hxk:=lawK.inj hkey (keyK ((HOK.out f hf).first))
   try simp only [id] at hxk
   have HJ2:Hid (J ks w2):=HJ.out ks wr w2 (some W.heap.size) HJs.out hg2 (fun r e=>by cases e;exact ⟨Nat.le_refl _,hrg.iter_walk⟩)
   have HST:=cmK_step HOK.out HAP.out hf hlk HC.out
   have hlen:ks.length < fs.length:=by
    have h1:=HST.length_eq
    have h2:=cmK_len fs (fun z=>left z && !z.sameKey (litK (firstK f.key)))
    rw [List.length_append] at h1
    simp at h1
    omega
   have HST2:Hid ((ks++[firstK f.key]).Perm (cmK fs fun z=>left z && !z.sameKey (litK (firstK f.key)))):=HST
   obtain ⟨q,hq⟩:∃ q,firstK f.key=q:=⟨_,rfl⟩
   have HQE:Hid (firstK f.key=q):=hq
   rw [hq] at hxk HST2
   unfold keyV at hxk
   subst hxk
   try simp only [id] at hen
   have HM:Hid (wr.rangeLeft m W.heap.size=cnt):=hrg.left_eq
   clear hml hkey hlk hv hat HST hrg hg2
   have HR3:Hid ((w2.alloc (.cells #[.int .i64 q.kind,.int .i64 q.src,.int .i64 q.frm,.int .i64 q.dst,.int .i64 q.too] 37)).ranges Tryz.prog 37 rawR m W.heap.size fs0 (.map es0) (fun z=>left z && !z.sameKey (litK (firstK f.key))) cnt2):=hrg2.of_walks (KeepsWalks.alloc _ _)
   have HJ3:J ks (w2.alloc (.cells #[.int .i64 q.kind,.int .i64 q.src,.int .i64 q.frm,.int .i64 q.dst,.int .i64 q.too] 37)):=HJ.out ks w2 _ none HJ2.out (World.grownBy_alloc w2 _ none) (fun r e=>by cases e)
   obtain ⟨fn,tmps,assign,body,hy,hR⟩:=HY ks q _ HJ3 hlen
   clear hs2 HJ2 HJ3 hrg2
   gi_wp2
   first
    | refine ⟨(fun h=>by cases h),hR.mono ?_⟩
    | refine hR.mono ?_
   rintro e W3 (⟨rfl,hJ4,hk3⟩|⟨rfl,hJx4⟩)
   ·gi_wp2
    have hrg4:=HR3.out.of_walks hk3
    have HRL:Hid (W3.rangeLeft m W.heap.size=cnt2):=hrg4.left_eq
    go_roundw
    case rel=>exact ⟨_,cnt2,ks++[q],hrg4,by show List.Perm _ _;rw [HQE.out];exact HST2.out,hJ4⟩
    case measure=>rw [HRL.out,HM.out];exact hlt
   ·gi_wp2
    refine bodyPost_ret (results_none rfl _ _ _) rfl ?_
    exact ⟨⟨_,rfl⟩,.inr ⟨ks++[q],trivial,hJx4⟩⟩
end Go.Proofs.YtkhheooofcpfdaaGreatDoor
namespace Go.Proofs.YtkhheooofcpfdaaGreatDoor
open Go.RowKit Go.Maps
set_option linter.unusedVariables false
set_option maxRecDepth 10000
attribute [local go_sem] Oper.semAt_some
theorem cells_grownK {W W':World} {row:Option Nat} {S b:Nat} {cs:Array Value} {T:TypeId} {z:Nat × Nat} (hg:W.grownBy W' row) (hr:∀ r,row=some r→S≤r∧∃ o:Obj,W.heap[r]? = some o∧o.isCells=false) (h:W.heap[b]? = some (.cells cs T z)):W'.heap[b]? = some (.cells cs T z):=by
 rw [hg.block b (Array.getElem?_eq_some_iff.1 h).1 (fun e=>?_)]
 ·exact h
 ·obtain ⟨_,o,ho,hc⟩:=hr b e.symm
  rw [h] at ho
  cases ho
  cases hc
theorem own_cells {W:World} {base q:Nat} {v:Value} {ks:List Ky} (h:OwnKy W base v ks) (hq:v.ownBlock=some q):∃ cs,W.heap[q]? = some (.cells cs 37 (0,0)):=by
 obtain ⟨_,h1⟩:=h
 rcases h1 with ⟨rfl,_⟩|⟨g,cap,cur,rfl,_,hh,_⟩
 ·cases hq
 ·simp only [Value.ownBlock,Option.some.injEq] at hq
  subst hq
  exact ⟨_,hh⟩
structure ApS (w:World) (S:Nat) (ks:List Ky) (W:World):Prop where
 box:∃ v,W.heap[S]? = some (.cells #[v] 58 (0,0))∧OwnKy W S v ks
 bel:Below S w W
 sz:S+1≤W.heap.size
theorem ApS.turn {w W W':World} {S:Nat} {ks:List Ky} {row:Option Nat} (h:ApS w S ks W) (hg:W.grownBy W' row) (hr:∀ r,row=some r→S+1≤r∧∃ o:Obj,W.heap[r]? = some o∧o.isCells=false):ApS w S ks W':=by
 obtain ⟨v,hv,ho⟩:=h.box
 have hs:=h.sz
 refine ⟨⟨v,cells_grownK hg hr hv,OwnN.blk ho (fun q hq=>?_)⟩,h.bel.trans ?_,Nat.le_trans h.sz hg.size⟩
 ·obtain ⟨cs,hc⟩:=own_cells ho hq
  rw [cells_grownK hg hr hc,hc]
 ·exact (Below.refl S W).grown hg (by omega) (fun k e=>by have:=(hr k e).1;omega)
def apI (w:World) (S:Nat) (ks:List Ky) (W:World):Prop:=ApS w S ks W
def apX (c:Code) (ks:List Ky) (W:World):Prop:=False
theorem apI_own (w:World) (S:Nat):OwnFrom (S+1) (apI w S):=fun s W W' row h hg hr=>h.turn hg hr
theorem apX_own (S:Nat) (c:Code):OwnFrom S (apX c):=fun s W W' row h hg hr=>h.elim
theorem ky_box {w:World} {b:Nat} {v:Value} {T:TypeId} (h:w.heap[b]? = some (.cells #[v] T (0,0))):w.cell? ⟨b,0,none⟩=some v∧w.frozen? ⟨b,0,none⟩=false :=
 ⟨by rw [cell_of_row w b _ _ _ _ h];rfl,frozen_of_row w b 0 _ _ h⟩
theorem ApS.app {w W w2 w3:World} {S:Nat} {ks:List Ky} {k:Ky} {v v':Value} (h:ApS w S ks W) (hv:W.heap[S]? = some (.cells #[v] 58 (0,0))) (ho:OwnKy W S v ks)
  (h2:Below W.heap.size W w2) (hg:w2.grownBy w3 v.ownBlock) (ho3:OwnKy w3 S v' (ks++[k])) :
  ApS w S (ks++[k]) (w3.setCell ⟨S,0,none⟩ v')∧KeepsOthers W (w3.setCell ⟨S,0,none⟩ v')∧KeepsWalks W (w3.setCell ⟨S,0,none⟩ v'):=by
 have hs:=h.sz
 have hS2:w2.heap[S]? = some (.cells #[v] 58 (0,0)):=(h2.block S (by omega)).trans hv
 have hne:v.ownBlock≠some S:=fun e=>by
  obtain ⟨cs,hc⟩:=own_cells ho e
  rw [hv] at hc
  cases hc
 have hS3:w3.heap[S]? = some (.cells #[v] 58 (0,0)):=(hg.block S (by have:=h2.size;omega) (fun e=>hne e.symm)).trans hS2
 have o4:Only S w3 (w3.setCell ⟨S,0,none⟩ v'):=(Only.refl _ _).setCell _ _
 have hS4:(w3.setCell ⟨S,0,none⟩ v').heap[S]? = some (.cells #[v'] 58 (0,0)):=by
  have:=heap_setCell_same _ S 0 _ _ v' hS3
  simpa using this
 have hin:∀ q,v.ownBlock=some q→S≤q∧q < W.heap.size:=fun q hq=>OwnN.block ho q hq
 have hbl:∀ i,i < W.heap.size→v.ownBlock≠some i→i≠S→(w3.setCell ⟨S,0,none⟩ v').heap[i]? = W.heap[i]?:=fun i hi h1 h3=>by
  rw [o4.block i h3,hg.block i (by have:=h2.size;omega) (fun e=>h1 e.symm),h2.block i hi]
 have hoth:∀ (i:Nat) (o:Obj),W.heap[i]? = some o→o.isCells=false→(w3.setCell ⟨S,0,none⟩ v').heap[i]? = some o:=fun i o hi hc=>by
  rw [hbl i (Array.getElem?_eq_some_iff.1 hi).1 ?_ ?_,hi]
  ·intro e
   obtain ⟨cs,hcc⟩:=own_cells ho e
   rw [hi] at hcc;cases hcc;cases hc
  ·intro e
   subst e
   rw [hv] at hi;cases hi;cases hc
 have hsz:W.heap.size≤(w3.setCell ⟨S,0,none⟩ v').heap.size:=by
  rw [o4.size];exact Nat.le_trans h2.size hg.size
 refine ⟨⟨⟨v',hS4,OwnN.blk ho3 (fun q hq=>o4.block q (fun e=>?_))⟩,⟨?_,?_,?_,?_,fun i hi=>?_⟩,Nat.le_trans hs hsz⟩,⟨hsz,fun i o hi hc=>hoth i o hi hc⟩,⟨hsz,fun i o hi hc=>hoth i o hi (Obj.not_cells_of_walk hc)⟩⟩
 ·subst e
  obtain ⟨cs,hc⟩:=own_cells ho3 hq
  rw [hS3] at hc
  cases hc
 ·exact o4.os.trans (hg.os.trans (h2.os.trans h.bel.os))
 ·exact o4.tape.trans (hg.tape.trans (h2.tape.trans h.bel.tape))
 ·exact o4.output.trans (hg.output.trans (h2.output.trans h.bel.output))
 ·exact Nat.le_trans h.bel.size hsz
 ·rw [hbl i (by omega) (fun e=>by have:=(hin i e).1;omega) (by omega),h.bel.block i hi]
end Go.Proofs.YtkhheooofcpfdaaGreatDoor
namespace Go.Proofs.YtkhheooofcpfdaaGreatDoor
open Go.RowKit
set_option linter.unusedVariables false
variable {F:Fence} {n:Nat} {P:Program}
set_option maxHeartbeats 4000000 in
theorem wp_range_new {α:Type} {g:Operand} {ps:Array Tmp} {assign body:Code} {Q:Exit→Act→World→Prop} {a:Act} {w:World}
  (hro:F.round=none) (h1:1≤n) {gf:Nat} {lb:Array Value} (hg:a.eval g = .func (.func gf) #[] lb) (hFg:F.fn gf) (eg:∀ args w,(callFunc gf args).run P w = .ok (.enter gf args) w)
  {encs:α→Array Value} {S Sp:List α→Prop} {N:Nat} {w0:World} (hseq:SeqStopsK F (n - 1) P gf lb encs KeepsWalks S Sp N w0) (hb0:Below w0.heap.size w0 w) (hps:∀ x,(encs x).size=ps.size)
  (I:List α→World→Prop) (Ix:Code→List α→World→Prop) (hI:OwnFrom w.heap.size I) (hIx:∀ c,OwnFrom w.heap.size (Ix c)) (h0:I [] w) (obj:α→Obj) (a₁:α→Nat→Act)
  (hassign:∀ (l:Nat) (x:α) (W:World) (K:Act→World→Prop),K (a₁ x W.heap.size) (W.alloc (obj x)) →
   assign.wpIn (F.inRound l) (n - 1 - 1) P (Exit.then K (fun _ _ _=>False)) { tmps:=(ps.zip (encs x)).foldl (fun t (p,v)=>t.setIfInBounds p v) a.tmps,defers:=[] } W)
  (hbody:∀ (l:Nat) (pre:List α) (x:α) (B:Nat) (W:World),I pre W→pre.length < N→w.heap.size+1 < B→W.heap[B]? = some (obj x)→body.wpIn (F.inRound l) (n - 1 - 1) P (ownPostK KeepsWalks I Ix (pre++[x]) W) (a₁ x B) W)
  (hdone:∀ (D:Nat) (xs:List α) (W:World),w.heap.size≤D→S xs→I xs W→W.heap[D]? = some (.deferred (some []))→Q .normal { a with defers:={ target:=.collected D,args:=#[] } :: a.defers } W)
  (hstop:∀ (D:Nat) (c:Code) (pre:List α) (W:World),w.heap.size≤D→Sp pre→Ix c pre W→W.heap[D]? = some (.deferred (some []))→c.wpIn F n P Q { a with defers:={ target:=.collected D,args:=#[] } :: a.defers } W) :
  (Code.rangeFunc g ps assign body).wpIn F n P Q a w:=by
 refine wpIn_rangeFunc fun fn hfn=>?_
 rw [hro]
 -- the loop's record stands at L, the block for what its rounds defer at D
 obtain ⟨D,hD⟩:∃ D,w.heap.size=D:=⟨_,rfl⟩
 obtain ⟨L,hL⟩:∃ L,D+1=L:=⟨_,rfl⟩
 obtain ⟨lp,hlp⟩:∃ lp:LoopState→Option Code→Loop,lp=fun s j=>{ state:=s,pending:=j,fn,tmps:=a.tmps,params:=ps,assign,body,defers:=w.heap.size }:=⟨_,rfl⟩
 obtain ⟨V,hV⟩:∃ V,(w.alloc (.deferred (some []))).alloc (.loop (lp .ready none))=V:=⟨_,rfl⟩
 have sz:(w.alloc (.deferred (some []))).heap.size=L:=by rw [World.size_alloc,hD,hL]
 have vL:V.heap[L]? = some (.loop (lp .ready none)):=by
  have:=World.alloc_heap_new (w.alloc (.deferred (some []))) (.loop (lp .ready none))
  rw [sz,hV] at this;exact this
 have vD:V.heap[D]? = some (.deferred (some [])):=by
  have h2:=Below.heap_alloc (w.alloc (.deferred (some []))) (.loop (lp .ready none)) D (by rw [sz];omega)
  have h3:=World.alloc_heap_new w (.deferred (some []))
  rw [hD] at h3
  rw [hV] at h2
  exact h2.trans h3
 have vB:Below w0.heap.size w0 V:=by
  rw [← hV]
  exact hb0.trans ((((Below.refl _ w).alloc (Nat.le_refl _) _).alloc (by simp) _).mono hb0.size)
 have vS:V.heap.size=w.heap.size+2:=by rw [← hV];simp
 have vI:I [] V:=by rw [← hV];exact hI.alloc _ (hI.alloc _ h0)
 have hnw:∀ {A:World} {row:Option Nat},(∀ r,row=some r→V.heap.size≤r∧∃ o:Obj,A.heap[r]? = some o∧o.isWalk=true)→(∀ r,row=some r→w.heap.size≤r∧∃ o:Obj,A.heap[r]? = some o∧o.isCells=false):=fun hr r e=>by
  obtain ⟨h3,o,ho,hw⟩:=hr r e
  exact ⟨by omega,o,ho,Obj.not_cells_of_walk hw⟩
 refine ⟨L,[{ target:=.collected D,args:=#[] }],V,{ target:=.fn (.func gf) lb,args:=#[.func (.yield L) #[] #[]] },V,gf,#[.func (.yield L) #[] #[]]++lb,V,?_,?_,?_,?_,fun _=>h1,?_⟩
 ·have:=run_enterLoop_outer (P:=P) fn a.tmps ps assign body (w:=w)
  rw [← hL,← hD,← hV,hlp];exact run_enterLoop_outer _ _ _ _ _
 ·simp only [resolve,hg]
  simp [go_sem]
 ·intro f' hf';simp [Target.leads] at hf';subst hf';exact hFg
 ·simp [invoke,go_sem,eg]
 -- the iterator, at the caller's invariant and the two blocks
 refine (hseq L (fun pre W=>I pre W∧W.heap[L]? = some (.loop (lp .ready none))∧W.heap[D]? = some (.deferred (some [])))
  (fun pre W=>∃ c,Ix c pre W∧W.heap[L]? = some (.loop (lp .done (some c)))∧W.heap[D]? = some (.deferred (some [])))
  V vB (fun s A A' row h hg hr=>⟨hI s A A' row h.1 hg (hnw hr),(grownBy_keeps hg (fun r e=>(hr r e).2) h.2.1 rfl).trans h.2.1,(grownBy_keeps hg (fun r e=>(hr r e).2) h.2.2 rfl).trans h.2.2⟩)
  (fun s A A' row h hg hr=>by
   obtain ⟨c,h1,h2,h3⟩:=h
   exact ⟨c,hIx c s A A' row h1 hg (hnw hr),(grownBy_keeps hg (fun r e=>(hr r e).2) h2 rfl).trans h2,(grownBy_keeps hg (fun r e=>(hr r e).2) h3 rfl).trans h3⟩) ?_ ⟨vI,vL,vD⟩).mono ?_
 ·rintro pre x W ⟨hi,hl,hd⟩ hpre
  have hlt:L < W.heap.size:=(Array.getElem?_eq_some_iff.1 hl).1
  have hy:=run_yield (P:=P) (args:=encs x) hl (by rw [hlp];exact hps x)
  rw [hlp] at hy
  have hl1:(W.alloc (obj x)).heap[L]? = some (.loop (lp .ready none)):=(Below.heap_alloc _ _ L hlt).trans hl
  have hd1:(W.alloc (obj x)).heap[D]? = some (.deferred (some [])):=(Below.heap_alloc _ _ D (by omega)).trans hd
  have hx1:(W.alloc (obj x)).heap[W.heap.size]? = some (obj x):=World.alloc_heap_new W _
  have hs1:(W.alloc (obj x)).heap.size=W.heap.size+1:=by simp
  refine ⟨fn,_,assign,body,hy,roundIn_of_wpIn hfn (hassign _ x W _ ⟨_,run_beginRound hl1 (by rw [hlp]),?_⟩)⟩
  have wL:((W.alloc (obj x)).putObj L (.loop { lp .ready none with state:=.busy })).heap[L]? = some (.loop { lp .ready none with state:=.busy }):=World.putObj_heap_same (by omega)
  have wD:((W.alloc (obj x)).putObj L (.loop { lp .ready none with state:=.busy })).heap[D]? = some (.deferred (some [])):=(World.putObj_heap_other (by omega)).trans hd1
  have wX:((W.alloc (obj x)).putObj L (.loop { lp .ready none with state:=.busy })).heap[W.heap.size]? = some (obj x):=(World.putObj_heap_other (by omega)).trans hx1
  have wB:KeepsWalks W ((W.alloc (obj x)).putObj L (.loop { lp .ready none with state:=.busy })):=(KeepsWalks.alloc W _).trans (KeepsWalks.putObj _ hl1 rfl)
  have wI:=hI.putObj (.loop { lp .ready none with state:=.busy }) (hI.alloc (obj x) hi) (by omega) hl1 rfl
  generalize (W.alloc (obj x)).putObj L (.loop { lp .ready none with state:=.busy })=W' at wL wD wB wI wX
  refine wpIn_mono (hbody _ pre x W.heap.size _ wI hpre (by omega) wX) ?_
  have fin:∀ (j:Option Code) (U:World),KeepsOthers W' U→∃ U',(Instr.endRound L j).run P U = .ok (.bool j.isNone) U'∧U'=U.putObj L (.loop (lp (if j.isNone then .ready else .done) j))∧U.heap[L]? = some (.loop { lp .ready none with state:=.busy })∧U'.heap[L]? = some (.loop (lp (if j.isNone then .ready else .done) j))∧U'.heap[D]? = some (.deferred (some [])):=fun j U hk=>by
   have uL:=hk.same _ _ wL rfl
   have:=run_endRound (P:=P) j uL
   rw [hlp] at this ⊢
   exact ⟨_,this,rfl,by rw [hlp] at uL;exact uL,World.putObj_heap_same (Array.getElem?_eq_some_iff.1 uL).1,(World.putObj_heap_other (by omega)).trans (hk.same _ _ wD rfl)⟩
  rintro e a3 U hp
  cases e with
  | normal =>
   obtain ⟨hk,hb,hi⟩:=hp
   obtain ⟨U',hr,rfl,uL,u1,u2⟩:=fin none U hk
   refine ⟨_,_,hr,.inl ⟨rfl,⟨hI.putObj _ hi (by omega) uL rfl,u1,u2⟩,?_⟩⟩
   exact wB.trans (hb.trans (KeepsWalks.putObj _ uL rfl))
  | ret =>
   obtain ⟨hk,hi⟩:=hp
   obtain ⟨U',hr,rfl,uL,u1,u2⟩:=fin (some .ret) U hk
   exact ⟨_,_,hr,.inr ⟨rfl,.ret,(hIx _).putObj _ hi (by omega) uL rfl,u1,u2⟩⟩
  | exit id =>
   obtain ⟨hk,hi⟩:=hp
   obtain ⟨U',hr,rfl,uL,u1,u2⟩:=fin (some (.exit id)) U hk
   exact ⟨_,_,hr,.inr ⟨rfl,.exit id,(hIx _).putObj _ hi (by omega) uL rfl,u1,u2⟩⟩
  | goto t =>
   obtain ⟨hk,hi⟩:=hp
   obtain ⟨U',hr,rfl,uL,u1,u2⟩:=fin (some (.goto t)) U hk
   exact ⟨_,_,hr,.inr ⟨rfl,.goto t,(hIx _).putObj _ hi (by omega) uL rfl,u1,u2⟩⟩
  | panic ch=>exact hp.elim
  | outgrown=>exact hp.elim
 ·rintro e U ⟨⟨v,rfl⟩,⟨xs,hxs,hi,hl,hd⟩|⟨pre,hp,c,hi,hl,hd⟩⟩
  ·exact ⟨none,_,by have:=run_endLoop (P:=P) hl (by rw [hlp];simp);rw [hlp] at this;exact this,hdone _ xs _ (Nat.le_of_eq hD) hxs (hI.putObj _ hi (by omega) hl rfl) ((World.putObj_heap_other (by omega)).trans hd)⟩
  ·exact ⟨some c,_,by have:=run_endLoop (P:=P) hl (by rw [hlp];simp);rw [hlp] at this;exact this,hstop _ c pre _ (Nat.le_of_eq hD) hp ((hIx c).putObj _ hi (by omega) hl rfl) ((World.putObj_heap_other (by omega)).trans hd)⟩
end Go.Proofs.YtkhheooofcpfdaaGreatDoor
namespace Go.Proofs.YtkhheooofcpfdaaGreatDoor
open Go.RowKit Go.Maps
set_option linter.unusedVariables false
set_option maxRecDepth 10000
attribute [local go_sem] Oper.semAt_some
theorem wpListIn_append_ky {F:Fence} {n:Nat} {w:World} {ops:Array Oper} {rest:List Oper} {o:Oper} {a:Act} {Q:Exit→Act→World→Prop} (hgd:o.guard=none) (s x:Operand)
  (ho:o.op = .call { callee:=.builtin .append,args:=#[s,x],argTypes:=#[58,58] })
  (base:Nat) (v:Value) (ks:List Ky) (hs:a.eval s=v) (hown:OwnKy w base v ks) (k:Ky) (hx:a.eval x = .slice (some ⟨w.heap.size,0,none⟩) 1 1)
  (hlen:ks.length≤4398046511) (hbase:base≤w.heap.size)
  (h:∀ v' w',OwnKy w' base v' (ks++[k])→(w.alloc (.cells #[.int .i64 k.kind,.int .i64 k.src,.int .i64 k.frm,.int .i64 k.dst,.int .i64 k.too] 37)).grownBy w' v.ownBlock→wpListIn F n Tryz.prog ops Q rest (a.put o.dst v') w') :
  wpListIn F n Tryz.prog ops Q (o :: rest) a (w.alloc (.cells #[.int .i64 k.kind,.int .i64 k.src,.int .i64 k.frm,.int .i64 k.dst,.int .i64 k.too] 37)):=by
 obtain ⟨i0,hi,hz0,hz1,hz2⟩:=info_parts Tryz.infoKey
 refine wpListIn_append_own _ hgd s x 58 ho base 37 i0 _ 5 40 Tryz.underlying58 hi hz0 hz1 hz2 rfl (by decide) v ks.length (ks.flatMap kyRow) hs (OwnN.alloc hown _) ⟨w.heap.size,0,none⟩ 1 1 (kyRow k) hx rfl ?_ ?_ (by unfold maxLen;omega) (by omega) (by simp;omega) ?_
 ·intro j u hj
  match j,hj with
  | 0,hj=>simp [kyRow] at hj;subst hj;simp [Addr.add]
  | 1,hj=>simp [kyRow] at hj;subst hj;simp [Addr.add]
  | 2,hj=>simp [kyRow] at hj;subst hj;simp [Addr.add]
  | 3,hj=>simp [kyRow] at hj;subst hj;simp [Addr.add]
  | 4,hj=>simp [kyRow] at hj;subst hj;simp [Addr.add]
  | j+5,hj=>simp [kyRow] at hj
 ·intro u hu
  simp only [kyRow,List.mem_cons,List.not_mem_nil,or_false] at hu
  rcases hu with rfl|rfl|rfl|rfl|rfl <;> rfl
 ·intro v' w' h1 h2 _
  refine h v' w' ?_ h2
  unfold OwnKy OwnN
  rw [List.length_append,List.flatMap_append]
  simpa using h1
theorem ApS.new (w:World):ApS w w.heap.size [] (w.alloc (.cells #[.slice none 0 0] 58)) :=
 ⟨⟨_,heap_alloc_new _ _,OwnN.nil _ _⟩,(Below.refl _ _).alloc (Nat.le_refl _) _,by simp⟩
set_option maxHeartbeats 16000000 in
theorem apSeq_any (Bm m:Nat) (fs:List Fl) (w:World) (hBm:Bm < w.heap.size) (hm:w.cell? ⟨Bm,0,none⟩=some (.map (some m))) (hmap:MapIs Tryz.prog 37 w m (flsL fs)) (hok:∀ f ∈ fs,KyOk f.key) (hap:fs.Pairwise fun f g=>firstK f.key≠firstK g.key) (hlen:fs.length≤1000) :
    Calls Tryz.prog 99 #[.slice none 0 0,.func (.func 73) #[] #[.pointer (some ⟨Bm,0,none⟩)]] w fun e w'=>∃ v ks,e = .returned v∧ks.Perm (fs.map fun f=>firstK f.key)∧OwnKy w' w.heap.size v ks∧Below w.heap.size w w':=by
  have hgv:=keysK_gives 2 Bm m fs w hBm hm hmap hok hap
  obtain ⟨Q,hQ⟩:∃ Q:Ending→World→Prop,Q=fun e w'=>∃ v ks,e = .returned v∧ks.Perm (fs.map fun f=>firstK f.key)∧OwnKy w' w.heap.size v ks∧Below w.heap.size w w':=⟨_,rfl⟩
  have HQ:Hid (∀ v ks w',ks.Perm (fs.map fun f=>firstK f.key)→OwnKy w' w.heap.size v ks→Below w.heap.size w w'→Q (.returned v) w'):=by rw [hQ];exact fun v ks w' h1 h2 h3=>⟨v,ks,rfl,h1,h2,h3⟩
  rw [← hQ]
  clear hQ hm hmap hok hap
  refine (callsIn_wide (n:=3)).1 ?_
  have R0:=ApS.new w
  have hb0:Below w.heap.size w (w.alloc (.cells #[.slice none 0 0] 58)):=(Below.refl _ _).alloc (Nat.le_refl _) _
  obtain ⟨W0,hW0⟩:∃ W0,w.alloc (.cells #[.slice none 0 0] 58)=W0:=⟨_,rfl⟩
  have z0:W0.heap.size=w.heap.size+1:=by rw [← hW0];simp
  rw [hW0] at R0 hb0
  refine callsIn_of_wp_marks Tryz.func99 rfl trivial ?_ rfl
  simp only [Tryz.ntmps99,List.size_toArray,List.length_cons,List.length_nil,Nat.reduceAdd,Nat.reduceSub,Array.replicate_succ,Array.replicate_zero,List.push_toArray,List.append_toArray,List.nil_append,List.cons_append]
  gi_wp2
  try rw [hW0]
  clear hW0
  obtain ⟨S,hS⟩:∃ S,w.heap.size=S:=⟨_,rfl⟩
  have HS:Hid (w.heap.size=S):=hS
  rw [hS] at R0 z0 ⊢
  clear hS
  refine wp_range_new rfl (by decide) (gf:=73) (lb:=#[.pointer (some ⟨Bm,0,none⟩)]) rfl trivial (enters_of Tryz.func73 (by kernel_rfl) rfl) hgv hb0 (fun x=>rfl)
    (apI w S) apX (by rw [z0];exact apI_own w S) (fun c=>by rw [z0];exact apX_own _ c) R0 (fun k=>.cells #[.int .i64 k.kind,.int .i64 k.src,.int .i64 k.frm,.int .i64 k.dst,.int .i64 k.too] 37)
    (fun k B=>{ tmps:=#[.slice none 0 0,.func (.func 73) #[] #[.pointer (some ⟨Bm,0,none⟩)],.pointer (some ⟨S,0,none⟩),undef,.slice none 0 0,.pointer (some ⟨B,0,none⟩),.func (.func 73) #[] #[.pointer (some ⟨Bm,0,none⟩)],.agg #[.int .i64 k.kind,.int .i64 k.src,.int .i64 k.frm,.int .i64 k.dst,.int .i64 k.too],undef,undef,undef,undef,undef],defers:=[] }) ?assign ?body ?done ?stop
  case assign =>
    intro l x W K hK
    gi_wp2
    exact hK
  case body =>
    rintro l pre x B W R hpre hB hX
    have hR:ApS w S pre W:=R
    have HR:Hid (ApS w S pre W):=hR
    obtain ⟨v,hv,ho⟩:=hR.box
    have HV:Hid (W.heap[S]? = some (.cells #[v] 58 (0,0))):=hv
    have HO:Hid (OwnKy W S v pre):=ho
    obtain ⟨c0,fz⟩:=ky_box hv
    have hbx:KyAt W B x:=hX
    obtain ⟨k0,k1,k2,k3,k4⟩:=hbx.cells
    have hl0:pre.length≤4398046511:=by omega
    have hSW:S≤W.heap.size:=by have:=hR.sz;omega
    clear R hgv R0 hR hv hX hbx hpre
    gi_wp2_with (first
      | (gi_at_builtin;refine wpListIn_append_ky rfl _ _ rfl S v pre rfl HO.out x rfl hl0 hSW ?_;intro v' w3 hown3 hg3
         obtain ⟨a9,c9,rfl⟩:=OwnN.len hown3
         have hne:v.ownBlock≠some S:=fun e=>by
           obtain ⟨cs,hc⟩:=own_cells HO.out e
           rw [HV.out] at hc
           cases hc
         have hlS:S < W.heap.size:=by have:=HR.out.sz;omega
         have fz3:w3.frozen? ⟨S,0,none⟩=false:=(ky_box ((hg3.block S (by simp;omega) (fun e=>hne e.symm)).trans ((Below.heap_alloc _ _ S hlS).trans HV.out))).2
         have cc3:w3.cell? ⟨S,0,none⟩=some v:=(ky_box ((hg3.block S (by simp;omega) (fun e=>hne e.symm)).trans ((Below.heap_alloc _ _ S hlS).trans HV.out))).1
         clear hne hlS)
      | gi_in)
    obtain ⟨r1,r2,r3⟩:=HR.out.app HV.out HO.out ((Below.refl _ _).alloc (Nat.le_refl _) _) hg3 hown3
    have hle:(pre++[x]).length=pre.length+1:=by simp
    rw [hle] at r1 r2 r3
    exact ⟨r2,r3,r1⟩
  case done =>
    rintro D xs W hD hxs R hK
    have hR:ApS w S xs W:=R
    obtain ⟨v,hv,ho⟩:=hR.box
    obtain ⟨c0,fz⟩:=ky_box hv
    have HO:Hid (OwnKy W S v xs):=ho
    have HR:Hid (ApS w S xs W):=hR
    have HXS:Hid (xs.Perm (fs.map fun f=>firstK f.key)):=hxs
    have HK2:Hid (W.heap[D]? = some (.deferred (some []))):=hK
    clear R hR ho hxs hK hgv R0 hv
    gi_wp2
    refine ⟨by simp,.inl ⟨_,_,rfl,run_takeDeferred HK2.out,?_⟩⟩
    have hgr:=grownBy_putObj' W D (.deferred none)
    have hz:=HR.out.sz
    have bel10:Below S w (W.putObj D (.deferred none)):=HR.out.bel.trans ((Below.refl S W).grown hgr (by omega) (fun k hk=>by cases hk;omega))
    have own10:OwnKy (W.putObj D (.deferred none)) S v xs:=OwnN.blk HO.out (fun q hq=>by
      obtain ⟨cs,hc⟩:=own_cells HO.out hq
      refine hgr.block q (Array.getElem?_eq_some_iff.1 hc).1 (fun e=>?_)
      cases e
      rw [HK2.out] at hc
      cases hc)
    generalize W.putObj D (.deferred none)=W10 at bel10 own10 ⊢
    have hq:=HQ.out v xs W10 HXS.out (by rw [HS.out];exact own10) (by rw [HS.out];exact bel10)
    exact ⟨v,by simp [results,Tryz.results99,go_sem],hq⟩
  case stop =>
    rintro D c pre W hD hpre R hK
    exact R.elim
set_option maxHeartbeats 4000000 in
theorem collect_any (Bm m:Nat) (fs:List Fl) (w:World) (hBm:Bm < w.heap.size) (hm:w.cell? ⟨Bm,0,none⟩=some (.map (some m))) (hmap:MapIs Tryz.prog 37 w m (flsL fs)) (hok:∀ f ∈ fs,KyOk f.key) (hap:fs.Pairwise fun f g=>firstK f.key≠firstK g.key) (hlen:fs.length≤1000) :
  Calls Tryz.prog 72 #[.func (.func 73) #[] #[.pointer (some ⟨Bm,0,none⟩)]] w fun e w'=>∃ v ks,e = .returned v∧ks.Perm (fs.map fun f=>firstK f.key)∧OwnKy w' w.heap.size v ks∧Below w.heap.size w w':=by
 have hc:=apSeq_any Bm m fs w hBm hm hmap hok hap hlen
 clear hBm hm hmap hok hap hlen
 go_enter Tryz.func72,Tryz.ntmps72
 go_wp2_with (go_at_call 99;go_must (with_reducible refine hc.mono ?_;rintro e W1 ⟨v,ks,rfl,h1,h2,h3⟩))
 go_ret
 exact ⟨v,ks,rfl,h1,h2,h3⟩
set_option maxHeartbeats 4000000 in
theorem keysF_any (m:Nat) (w:World) :
  Calls Tryz.prog 45 #[.map (some m)] w fun e w'=>e = .returned (.func (.func 73) #[] #[.pointer (some ⟨w.heap.size,0,none⟩)])∧w'=w.alloc (.cells #[.map (some m)] 72):=by
 go_enter Tryz.func45,Tryz.ntmps45
 go_wp2_with fail
 go_ret
 exact ⟨rfl,rfl⟩
set_option maxHeartbeats 4000000 in
theorem sortedF_any (Bm m:Nat) (fs:List Fl) (w:World) (hBm:Bm < w.heap.size) (hm:w.cell? ⟨Bm,0,none⟩=some (.map (some m))) (hmap:MapIs Tryz.prog 37 w m (flsL fs)) (hok:∀ f ∈ fs,KyOk f.key) (hap:fs.Pairwise fun f g=>firstK f.key≠firstK g.key) (hlen:fs.length≤1000) :
  Calls Tryz.prog 44 #[.func (.func 73) #[] #[.pointer (some ⟨Bm,0,none⟩)],.func (.func 43) #[] #[]] w fun e w'=>∃ v qs,e = .returned v∧qs.Perm (fs.map fun f=>firstK f.key)∧qs.Pairwise (fun p q=>¬ LtK q p)∧Kys w' v qs∧Below w.heap.size w w':=by
 have hc:=collect_any Bm m fs w hBm hm hmap hok hap hlen
 clear hBm hm hmap hok hap
 go_enter Tryz.func44,Tryz.ntmps44
 go_upto_region 2 with (go_at_call 72;go_must (with_reducible refine hc.mono ?_;rintro e W1 ⟨v,ks,rfl,h1,h2,h3⟩))
 have hs:=ksort_keeps W1 w.heap.size v ks h2 (by rw [h1.length_eq,List.length_map];exact hlen) h3.size
 have H1:Hid (ks.Perm (fs.map fun f=>firstK f.key)):=h1
 have H3:Hid (Below w.heap.size w W1):=h3
 clear h1 h2 h3 hc hlen
 go_wp2_with (go_at_call 42;go_must (with_reducible refine hs.mono ?_;rintro e W2 ⟨rfl,qs,g1,g2,g3,g4,g5⟩))
 go_ret
 exact ⟨v,qs,rfl,g1.trans H1.out,g2,g3,H3.out.trans g4⟩
end Go.Proofs.YtkhheooofcpfdaaGreatDoor
namespace Go.Proofs.YtkhheooofcpfdaaGreatDoor
open Go.RowKit Go.Maps
set_option linter.unusedVariables false
theorem step_append_fl {w:World} {ops:Array Oper} {o:Oper} {a:Act} {K:Act→World→Prop} {Q:Exit→Act→World→Prop} {E:Prop} (hgd:o.guard=none) (s x:Operand)
  (ho:o.op = .call { callee:=.builtin .append,args:=#[s,x],argTypes:=#[23,23] })
  (base:Nat) (v:Value) (fs:List Fl) (hs:a.eval s=v) (hown:OwnFl w base v fs) (f:Fl) (hx:a.eval x = .slice (some ⟨w.heap.size,0,none⟩) 1 1)
  (hlen:fs.length≤1000000) (hbase:base≤w.heap.size)
  (h:∀ g cap w',OwnFl w' base (.slice (some ⟨g,0,none⟩) (fs.length+1) cap) (fs++[f])→(w.alloc (.cells #[.int .i64 f.key.kind,.int .i64 f.key.src,.int .i64 f.key.frm,.int .i64 f.key.dst,.int .i64 f.key.too,.int .i64 f.st,.int .i64 f.unt,.int .i64 f.stp,.int .i64 f.h0,.int .i64 f.h1,.int .i64 f.w0,.int .i64 f.w1,.bool f.d0,.bool f.d1,.int .i64 f.num] 45)).grownBy w' v.ownBlock→K (a.put o.dst (.slice (some ⟨g,0,none⟩) (fs.length+1) cap)) w') :
  if Region.wanted o (yielded ops a.tmps)=true then Oper.wp Tryz.prog o a (w.alloc (.cells #[.int .i64 f.key.kind,.int .i64 f.key.src,.int .i64 f.key.frm,.int .i64 f.key.dst,.int .i64 f.key.too,.int .i64 f.st,.int .i64 f.unt,.int .i64 f.stp,.int .i64 f.h0,.int .i64 f.h1,.int .i64 f.w0,.int .i64 f.w1,.bool f.d0,.bool f.d1,.int .i64 f.num] 45)) K Q else E:=by
 obtain ⟨i0,hi,hz0,hz1,hz2⟩:=info_parts Tryz.infoFl
 refine step_append_lies _ hgd s x 23 ho base 45 i0 _ 15 (_) Tryz.underlying23 hi hz0 hz1 hz2 rfl (by decide) v fs.length (fs.flatMap flRow) hs (World.ownsRow.alloc hown _) ⟨w.heap.size,0,none⟩ 1 1 (flRow f) hx rfl ?_ ?_ (by decide) (by unfold maxLen;omega) (by omega) (by simp;omega) (w.heap.size+1) (by simp) ?_
 ·intro j u hj
  match j,hj with
  | 0,hj=>simp [flRow] at hj;subst hj;simp [Addr.add]
  | 1,hj=>simp [flRow] at hj;subst hj;simp [Addr.add]
  | 2,hj=>simp [flRow] at hj;subst hj;simp [Addr.add]
  | 3,hj=>simp [flRow] at hj;subst hj;simp [Addr.add]
  | 4,hj=>simp [flRow] at hj;subst hj;simp [Addr.add]
  | 5,hj=>simp [flRow] at hj;subst hj;simp [Addr.add]
  | 6,hj=>simp [flRow] at hj;subst hj;simp [Addr.add]
  | 7,hj=>simp [flRow] at hj;subst hj;simp [Addr.add]
  | 8,hj=>simp [flRow] at hj;subst hj;simp [Addr.add]
  | 9,hj=>simp [flRow] at hj;subst hj;simp [Addr.add]
  | 10,hj=>simp [flRow] at hj;subst hj;simp [Addr.add]
  | 11,hj=>simp [flRow] at hj;subst hj;simp [Addr.add]
  | 12,hj=>simp [flRow] at hj;subst hj;simp [Addr.add]
  | 13,hj=>simp [flRow] at hj;subst hj;simp [Addr.add]
  | 14,hj=>simp [flRow] at hj;subst hj;simp [Addr.add]
  | j+15,hj=>simp [flRow] at hj
 ·intro u hu
  simp only [flRow,List.mem_cons,List.not_mem_nil,or_false] at hu
  rcases hu with rfl|rfl|rfl|rfl|rfl|rfl|rfl|rfl|rfl|rfl|rfl|rfl|rfl|rfl|rfl <;> rfl
 ·intro g cap w' h1 h2 h3 _
  refine h g cap w' ?_ h2
  unfold OwnFl OwnN
  rw [List.length_append,List.flatMap_append]
  simpa using h1
theorem last_of (E:Exit→Act→World→Prop):∀ e a w,Exit.then (fun a w=>E .normal a w) (fun _ _ _=>False) e a w→E e a w:=by
 intro e a w h
 cases e <;> first|exact h|exact h.elim
noncomputable def allReg (n:Nat):Code:=(regAt n (Tryz.f22.body.getD .skip)).getD .skip
set_option maxRecDepth 100000 in
set_option maxHeartbeats 32000000 in
theorem all_r5 (b B m base LN ca:Nat) (ao:Option Addr) (q:Ky) (f:Fl) (fs:List Fl) (x0 x1:Value) (W0:World) (E:Exit→Act→World→Prop) (C:Code) (hC:C=allReg 5)
  (hx:W0.heap[b]? = some (.cells #[x0,x1,.map (some m)] 76 (0,0))) (hk:KyAt W0 B q)
  (hlook:(Instr.lookup 72 (.map (some m)) (.agg #[.int .i64 q.kind,.int .i64 q.src,.int .i64 q.frm,.int .i64 q.dst,.int .i64 q.too]) false).run Tryz.prog W0.drew = .ok (.agg #[.int .i64 f.key.kind,.int .i64 f.key.src,.int .i64 f.key.frm,.int .i64 f.key.dst,.int .i64 f.key.too,.int .i64 f.st,.int .i64 f.unt,.int .i64 f.stp,.int .i64 f.h0,.int .i64 f.h1,.int .i64 f.w0,.int .i64 f.w1,.bool f.d0,.bool f.d1,.int .i64 f.num]) W0.drew)
  (hown:OwnFl W0 base (.slice ao LN ca) fs) (hl:fs.length≤1000000) (hb:base≤W0.heap.size)
  (v1 v2 v4 v6 v7 v8 v9 v10 v11 v12 v13 v14 v15 v16 v17 v18 v19 v20 v21 v22 v23 v24 v25 v26 v27:Value)
  (hK:∀ (g cap:Nat) (W9:World) (u17 u18 u19 u20 u21 u22 u23 u24 u25:Value),OwnFl W9 base (.slice (some ⟨g,0,none⟩) (fs.length+1) cap) (fs++[f])→(W0.drew.alloc (.cells #[.int .i64 f.key.kind,.int .i64 f.key.src,.int .i64 f.key.frm,.int .i64 f.key.dst,.int .i64 f.key.too,.int .i64 f.st,.int .i64 f.unt,.int .i64 f.stp,.int .i64 f.h0,.int .i64 f.h1,.int .i64 f.w0,.int .i64 f.w1,.bool f.d0,.bool f.d1,.int .i64 f.num] 45)).grownBy W9 (Value.slice ao LN ca).ownBlock→E .normal { tmps:=#[.pointer (some ⟨b,0,none⟩),v1,v2,.slice (some ⟨g,0,none⟩) (fs.length+1) cap,v4,.pointer (some ⟨B,0,none⟩),v6,v7,v8,v9,v10,v11,v12,v13,v14,v15,v16,u17,u18,u19,u20,u21,u22,u23,u24,u25,v26,v27],defers:=[] } W9) :
  Code.wp Tryz.prog C E { tmps:=#[.pointer (some ⟨b,0,none⟩),v1,v2,.slice ao LN ca,v4,.pointer (some ⟨B,0,none⟩),v6,v7,v8,v9,v10,v11,v12,v13,v14,v15,v16,v17,v18,v19,v20,v21,v22,v23,v24,v25,v26,v27],defers:=[] } W0:=by
 subst hC
 conv =>
  arg 2
  unfold allReg
  unfold Tryz.f22
  simp only [Option.getD_some,regAt]
 conv =>
  arg 4
  zeta
 try simp (maxSteps:=10000000) only at hK
 have HK:=hidE hK
 clear hK
 obtain ⟨t0,t1,t2⟩:=tab_cells hx
 obtain ⟨k0,k1,k2,k3,k4⟩:=hk.cells
 have hownX:OwnFl W0.drew base (.slice ao LN ca) fs:=hown
 have hb':base≤W0.drew.heap.size:=hb
 clear hx hk hown hb t0 t1
 refine wp_mono (Q:=Exit.then (fun a w=>E .normal a w) fun _ _ _=>False) ?_ (last_of E)
 go_region_law (refine step_append_fl rfl (.tmp 17) (.tmp 24) rfl base (.slice ao LN ca) fs rfl hownX f rfl hl hb' ?_;intro g6 c6 W6 own6 gr6;have HO6:=hidE own6;have HG6:=hidE gr6;clear own6 gr6)
 all_goals
  go_wp2_with fail
  exact HK.out _ _ _ _ _ _ _ _ _ _ _ _ HO6.out HG6.out
end Go.Proofs.YtkhheooofcpfdaaGreatDoor
namespace Go.Proofs.YtkhheooofcpfdaaGreatDoor
open Go.RowKit Go.Maps
set_option linter.unusedVariables false
theorem first_idem (k:Ky):firstK (firstK k)=firstK k:=by
 unfold firstK
 by_cases h:k.dst < k.src∨(k.dst=k.src∧k.too < k.frm)
 ·rw [if_pos h,if_neg]
  simp only [turnK]
  omega
 ·rw [if_neg h,if_neg h]
theorem kys_len {w:World} {v:Value} {ks:List Ky} (h:Kys w v ks):∃ a c,v = .slice a ks.length c:=by
 rcases h with ⟨rfl,a,c,rfl⟩|⟨b,len,cap,rfl,_,_,rfl,_⟩
 ·exact ⟨a,c,rfl⟩
 ·exact ⟨_,_,rfl⟩
theorem kys_at {w:World} {a:Option Addr} {N c:Nat} {ks:List Ky} (h:Kys w (.slice a N c) ks) (n:Nat) (hn:n < ks.length):∃ b,a=some ⟨b,0,none⟩∧N=ks.length∧N≤c∧c≤9223372036854775807∧w.cell? ⟨b,n * 5,none⟩=some (.int .i64 ks[n].kind)∧w.cell? ⟨b,n * 5+1,none⟩=some (.int .i64 ks[n].src)∧w.cell? ⟨b,n * 5+2,none⟩=some (.int .i64 ks[n].frm)∧w.cell? ⟨b,n * 5+3,none⟩=some (.int .i64 ks[n].dst)∧w.cell? ⟨b,n * 5+4,none⟩=some (.int .i64 ks[n].too):=by
 rcases h with ⟨rfl,_⟩|⟨b,len,cap,e,h1,h2,h3,h4,h5⟩
 ·simp at hn
 ·simp only [Value.slice.injEq] at e
  obtain ⟨rfl,rfl,rfl⟩:=e
  exact ⟨b,rfl,h3.symm,h1,h2,h5 n hn⟩
set_option maxRecDepth 100000 in
set_option maxHeartbeats 32000000 in
theorem all_any (b m:Nat) (t:Tb) (w:World) (h:TbAt w b m t) (hap:t.fs.Pairwise fun f g=>firstK f.key≠firstK g.key) (hlen:t.fs.length≤1000) :
  Calls Tryz.prog 22 #[.pointer (some ⟨b,0,none⟩)] w fun e w'=>∃ (v:Value) (qs:List Ky),e = .returned v∧OwnFl w' w.heap.size v (qs.map (getK t.fs))∧qs.Perm (t.fs.map fun f=>firstK f.key)∧qs.Pairwise (fun p q=>¬ LtK q p)∧Below w.heap.size w w':=by
 obtain ⟨Q,hQ⟩:∃ Q:Ending→World→Prop,Q=fun e w'=>∃ (v:Value) (qs:List Ky),e = .returned v∧OwnFl w' w.heap.size v (qs.map (getK t.fs))∧qs.Perm (t.fs.map fun f=>firstK f.key)∧qs.Pairwise (fun p q=>¬ LtK q p)∧Below w.heap.size w w':=⟨_,rfl⟩
 have HQ:=hidE hQ
 rw [← hQ]
 have hc1:=keysF_any m w
 have h1:=h.alloc (.cells #[.map (some m)] 72)
 have b1:Below w.heap.size w (w.alloc (.cells #[.map (some m)] 72)):=(Below.refl _ _).alloc (Nat.le_refl _) _
 have x1:=heap_alloc_new w (.cells #[.map (some m)] 72)
 have s1:w.heap.size < (w.alloc (.cells #[.map (some m)] 72)).heap.size:=by simp
 obtain ⟨W1,hW1⟩:∃ W1,w.alloc (.cells #[.map (some m)] 72)=W1:=⟨_,rfl⟩
 rw [hW1] at h1 b1 x1 s1 hc1
 have hc2:=sortedF_any w.heap.size m t.fs W1 s1 (ky_box x1).1 h1.map h.oks hap hlen
 obtain ⟨c0,c1,c2⟩:=tab_cells h.tab
 have HT1:=hidE h1
 have HB1:=hidE b1
 have HOK:=hidE h.oks
 clear hQ h h1 b1 x1 s1 hap c0 c1
 go_enter Tryz.func22,Tryz.ntmps22
 go_upto_region 3 with (first
  | (go_at_call 45;go_must (with_reducible refine hc1.mono ?_;rintro e W9 ⟨rfl,hw⟩;rw [hw];clear hw))
  | (go_at_call 44;go_must (with_reducible refine hc2.mono ?_;rintro e W2 ⟨v,qs,rfl,hp,hs,hk,hb⟩;obtain ⟨a9,c9,rfl⟩:=kys_len hk)))
 clear hc1 hc2 hW1 c2
 obtain ⟨N,hN⟩:∃ N,qs.length=N:=⟨_,rfl⟩
 rw [hN] at hk ⊢
 have HN:=hidE hN
 have HP:=hidE hp
 have HS:=hidE hs
 have HKY:=hidE hk
 have HT2:=hidE (HT1.out.below hb)
 have HB2:=hidE (HB1.out.trans (hb.mono HB1.out.size))
 have hNl:N≤1000:=by rw [← hN,hp.length_eq,List.length_map];exact hlen
 clear hN hp hs hk hb hlen HT1 HB1
 go_loopw [3,13] (fun v3 i wr=>∃ n:Nat,n≤N∧i = .int .i64 (n:Int)∧Hid (Below W2.heap.size W2 wr)∧Hid (OwnFl wr W2.heap.size v3 ((qs.take n).map (getK t.fs)))) (fun _ i _=>((N:Int) - intOf i).toNat)
 case atStart=>exact ⟨0,by omega,rfl,Below.refl _ _,(by show OwnFl _ _ _ _;exact OwnN.nil _ _)⟩
 case round =>
  obtain ⟨n,hn,rfl,HB,HO⟩:=hrel
  by_cases hnN:n < N
  case neg =>
   have j1:¬ (n:Int) < (N:Int):=by omega
   have HF:Hid (Q (.returned u3) wr):=by
    have ho:=HO.out
    rw [List.take_of_length_le (by have:=HN.out;omega)] at ho
    show Q _ _
    rw [HQ.out]
    exact ⟨u3,qs,rfl,OwnN.rebase ho HB2.out.size,HP.out,HS.out,HB2.out.trans (HB.out.mono HB2.out.size)⟩
   clear HO
   go_wp2_with fail
   first|exact HF.out|(simp;exact HF.out)|(go_ret;exact HF.out)
  have j1:(n:Int) < (N:Int):=by omega
  have j2:(0:Int)≤(n:Int):=by omega
  have hnl:n < qs.length:=by have:=HN.out;omega
  obtain ⟨g9,ha9,_,hlc,hcm,k0,k1,k2,k3,k4⟩:=kys_at (HKY.out.below HB.out) n hnl
  subst ha9
  have HTK:Hid ((qs.take (n+1)).map (getK t.fs)=(qs.take n).map (getK t.fs)++[getK t.fs qs[n]]):=by
   show _=_
   rw [List.take_succ_eq_append_getElem hnl,List.map_append,List.map_cons,List.map_nil]
  have hmem:qs[n] ∈ t.fs.map (fun f=>firstK f.key):=HP.out.mem_iff.1 (List.getElem_mem hnl)
  obtain ⟨q,hq⟩:∃ q,qs[n]=q:=⟨_,rfl⟩
  rw [hq] at k0 k1 k2 k3 k4 HTK hmem
  clear hq
  obtain ⟨f0,hf0,hfq⟩:=List.mem_map.1 hmem
  have hqo:KyOk q:=by rw [← hfq];exact (HOK.out f0 hf0).first
  have hqi:firstK q=q:=by rw [← hfq];exact first_idem _
  obtain ⟨f,hf⟩:∃ f,getK t.fs q=f:=⟨_,rfl⟩
  rw [hf] at HTK
  have t3:=(HT2.out.below HB.out).alloc (.cells #[.int .i64 q.kind,.int .i64 q.src,.int .i64 q.frm,.int .i64 q.dst,.int .i64 q.too] 37)
  have hk3:=KyAt.new wr q
  have hlook:=look_get HOK.out hqo m (wr.alloc (.cells #[.int .i64 q.kind,.int .i64 q.src,.int .i64 q.frm,.int .i64 q.dst,.int .i64 q.too] 37)).drew (t3.map.block rfl)
  rw [hqi,hf] at hlook
  have own3:OwnFl (wr.alloc (.cells #[.int .i64 q.kind,.int .i64 q.src,.int .i64 q.frm,.int .i64 q.dst,.int .i64 q.too] 37)) W2.heap.size u3 ((qs.take n).map (getK t.fs)):=OwnN.alloc HO.out _
  have hb3:W2.heap.size≤(wr.alloc (.cells #[.int .i64 q.kind,.int .i64 q.src,.int .i64 q.frm,.int .i64 q.dst,.int .i64 q.too] 37)).heap.size:=by have:=HB.out.size;simp;omega
  have b3:Below W2.heap.size W2 (wr.alloc (.cells #[.int .i64 q.kind,.int .i64 q.src,.int .i64 q.frm,.int .i64 q.dst,.int .i64 q.too] 37)):=HB.out.alloc HB.out.size _
  obtain ⟨W3,hW3⟩:∃ W3,wr.alloc (.cells #[.int .i64 q.kind,.int .i64 q.src,.int .i64 q.frm,.int .i64 q.dst,.int .i64 q.too] 37)=W3:=⟨_,rfl⟩
  rw [hW3] at t3 hk3 hlook own3 hb3 b3
  have hx3:=t3.tab
  have hl3:((qs.take n).map (getK t.fs)).length≤1000000:=by rw [List.length_map];have:=List.length_take_le n qs;omega
  obtain ⟨ao,ca,hu3⟩:=OwnN.len own3
  obtain ⟨LN,hLN⟩:∃ LN,((qs.take n).map (getK t.fs)).length=LN:=⟨_,rfl⟩
  rw [hLN] at hu3
  subst hu3
  have HOB:=hidE (OwnN.block own3)
  have HB3:=hidE b3
  unfold keyV flV at hlook
  clear hmem hf0 hfq hqo hqi hf hLN b3 t3 HO
  go_upto_region 5 with fail
  try rw [hW3]
  clear hW3 k0 k1 k2 k3 k4
  refine all_r5 b wr.heap.size m W2.heap.size LN ca ao q f ((qs.take n).map (getK t.fs)) _ _ W3  _ _ (by kernel_rfl) hx3 hk3 hlook own3 hl3 hb3 _ _ _ _ _ _ _ _ _ _ _ _ _ _ _ _ _ _ _ _ _ _ _ _ _ ?_
  intro g cap W9
  iterate 9 intro _
  intro own9 gr9
  conv =>
   arg 1
   zeta
  try go_step
  have HO9:=hidE own9
  have HB9:Hid (Below W2.heap.size W2 W9):=(HB3.out.drew.alloc hb3 _).grown gr9 (Nat.le_trans hb3 (by simp)) (fun k e=>(HOB.out k e).1)
  clear own9 gr9 hlook own3 hx3 hk3 hl3
  go_wp2_with fail
  go_roundw
  case rel=>exact ⟨n+1,by omega,by simp,HB9,by show OwnFl _ _ _ _;rw [HTK.out];exact HO9.out⟩
  case measure=>simp only [intOf];omega
end Go.Proofs.YtkhheooofcpfdaaGreatDoor
