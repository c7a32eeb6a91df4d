/- Rows of the call's own of things that are n cells each ('OwnN'): where they lie, what append and a store leave of them. Conditions: lengths within what the model lets grow. -/
import Derived.Test.YtkhheooofcpfdaaGreatDoorMgC
import Derived.Deep.AppendLies
import Derived.Test.YtkhheooofcpfdaaGreatDoorMgP
import Derived.Test.YtkhheooofcpfdaaGreatDoorSegFst
import Derived.Test.YtkhheooofcpfdaaGreatDoorMgH
import Derived.Test.YtkhheooofcpfdaaGreatDoorMgV
import Derived.Laws.Externs
import Derived.MapKept
import Derived.Deep.RegionHeld3
import Derived.Test.YtkhheooofcpfdaaGreatDoorTrkChk
import Derived.Deep.DeepMust
import Derived.Deep.DeepCutAuto
import Derived.Deep.LoopGhost
import Derived.Test.YtkhheooofcpfdaaGreatDoorMgM
namespace Go.Proofs.YtkhheooofcpfdaaGreatDoor
open Go.RowKit
set_option linter.unusedVariables false
section
variable {α:Type} {e:TypeId} {n:Nat} {enc:α→List Value}
def OwnN (e:TypeId) (n:Nat) (enc:α→List Value) (w:World) (base:Nat) (v:Value) (xs:List α):Prop:=w.ownsRow base e n v xs.length (xs.flatMap enc)
theorem encs_len (hn:∀ x,(enc x).length=n) (xs:List α):(xs.flatMap enc).length=xs.length * n:=by
 induction xs with
 | nil=>simp
 | cons p r ih=>rw [List.flatMap_cons,List.length_append,ih,hn,List.length_cons,Nat.add_mul];omega
theorem encs_get (hn:∀ x,(enc x).length=n):∀ (xs:List α) (i:Nat) (h:i < xs.length) (j:Nat),j < n→(xs.flatMap enc)[i * n+j]? = (enc xs[i])[j]?
 | [],i,h,j,hj=>by simp at h
 | x :: r,0,h,j,hj=>by
   rw [List.flatMap_cons,Nat.zero_mul,Nat.zero_add,List.getElem?_append_left (by rw [hn];exact hj)];rfl
 | x :: r,i+1,h,j,hj=>by
   have ih:=encs_get hn r i (by simpa using h) j hj
   have e:(i+1) * n+j - n=i * n+j:=by rw [Nat.add_mul];omega
   rw [List.flatMap_cons,List.getElem?_append_right (by rw [hn,Nat.add_mul];omega),hn,e,ih]
   rfl
theorem encs_set (hn:∀ x,(enc x).length=n):∀ (xs:List α) (i:Nat) (h:i < xs.length) (j:Nat) (u:Value) (y:α),j < n→(enc xs[i]).set j u=enc y→(xs.flatMap enc).set (i * n+j) u=(xs.set i y).flatMap enc
 | [],i,h,j,u,y,hj,hy=>by simp at h
 | x :: r,0,h,j,u,y,hj,hy=>by
   rw [List.flatMap_cons,Nat.zero_mul,Nat.zero_add,List.set_append_left _ _ (by rw [hn];exact hj)]
   simp only [List.getElem_cons_zero] at hy
   rw [hy];rfl
 | x :: r,i+1,h,j,u,y,hj,hy=>by
   have ih:=encs_set hn r i (by simpa using h) j u y hj (by simpa using hy)
   have e:(i+1) * n+j - n=i * n+j:=by rw [Nat.add_mul];omega
   rw [List.flatMap_cons,List.set_append_right _ _ (by rw [hn,Nat.add_mul];omega),hn,e,ih]
   rfl
theorem OwnN.nil (w:World) (base:Nat):OwnN e n enc w base (.slice none 0 0) []:=World.ownsRow_nil _ _ _ _
variable {w w':World} {base:Nat} {v:Value} {xs:List α}
theorem OwnN.alloc (h:OwnN e n enc w base v xs) (o:Obj):OwnN e n enc (w.alloc o) base v xs:=World.ownsRow.alloc h o
theorem OwnN.block (h:OwnN e n enc w base v xs):∀ k,v.ownBlock=some k→base≤k∧k < w.heap.size:=fun k hk=>World.ownsRow.lt h k hk
theorem OwnN.blk (h:OwnN e n enc w base v xs) (hb:∀ k,v.ownBlock=some k→w'.heap[k]? = w.heap[k]?):OwnN e n enc w' base v xs:=by
 obtain ⟨h1,h2⟩:=h
 refine ⟨h1,?_⟩
 rcases h2 with h2|⟨g,cap,cur,hv,hbg,hh,rest⟩
 ·exact .inl h2
 ·refine .inr ⟨g,cap,cur,hv,hbg,?_,rest⟩
  rw [hb g (by rw [hv];rfl)];exact hh
theorem OwnN.below (h:OwnN e n enc w base v xs) (hb:Below w.heap.size w w'):OwnN e n enc w' base v xs:=h.blk (fun k hk=>hb.block k (h.block k hk).2)
theorem OwnN.rebase {b':Nat} (h:OwnN e n enc w base v xs) (hb:b'≤base):OwnN e n enc w b' v xs:=by
 obtain ⟨h1,h2⟩:=h
 refine ⟨h1,?_⟩
 rcases h2 with h2|⟨g,cap,cur,hv,hbg,rest⟩
 ·exact .inl h2
 ·exact .inr ⟨g,cap,cur,hv,Nat.le_trans hb hbg,rest⟩
theorem OwnN.shape (h:OwnN e n enc w base v xs) (hz:0 < xs.length) :
  ∃ g cap,v = .slice (some ⟨g,0,none⟩) xs.length cap∧base≤g∧g < w.heap.size∧xs.length≤cap∧cap≤maxLen:=by
 obtain ⟨_,h2⟩:=h
 rcases h2 with ⟨_,h0⟩|⟨g,cap,cur,rfl,hb,hh,hl,hm,_,_⟩
 ·omega
 ·refine ⟨g,cap,rfl,hb,?_,hl,hm⟩
  rcases Nat.lt_or_ge g w.heap.size with h1|h1
  ·exact h1
  ·simp [Array.getElem?_eq_none h1] at hh
theorem OwnN.len (h:OwnN e n enc w base v xs):∃ a c,v = .slice a xs.length c:=by
 obtain ⟨_,h2⟩:=h
 rcases h2 with ⟨rfl,h0⟩|⟨g,cap,cur,rfl,_⟩
 ·exact ⟨none,0,by rw [h0]⟩
 ·exact ⟨_,_,rfl⟩
theorem OwnN.cell {g m cap:Nat} (h:OwnN e n enc w base (.slice (some ⟨g,0,none⟩) m cap) xs) (hn:∀ x,(enc x).length=n) (i:Nat) (hi:i < xs.length) (j:Nat) (u:Value) (hj:(enc xs[i])[j]? = some u):w.cell? ⟨g,i * n+j,none⟩=some u:=by
 have hc:=World.ownsRow.cells h (g:=g) rfl
 have add:∀ j,Addr.add ⟨g,0,none⟩ j=⟨g,j,none⟩:=fun j=>by by_cases hj:j=0 <;> simp [Addr.add,hj]
 have hjn:j < n:=by
  rcases Nat.lt_or_ge j n with h|h
  ·exact h
  ·rw [List.getElem?_eq_none (by rw [hn];exact h)] at hj;cases hj
 have:=hc _ _ ((encs_get hn xs i hi j hjn).trans hj)
 rw [add] at this;exact this
theorem OwnN.free {g m cap:Nat} (h:OwnN e n enc w base (.slice (some ⟨g,0,none⟩) m cap) xs) (hm:m=xs.length) (j:Nat):w.frozen? ⟨g,j,none⟩=false:=by
 subst hm;exact World.ownsRow.frozenAt h j
theorem OwnN.store {g m cap:Nat} (h:OwnN e n enc w base (.slice (some ⟨g,0,none⟩) m cap) xs) (hm:m=xs.length) (hn:∀ x,(enc x).length=n) (i:Nat) (hi:i < xs.length) (j:Nat) (u:Value) (y:α) (hj:j < n) (hy:(enc xs[i]).set j u=enc y) :
  OwnN e n enc (w.setCell ⟨g,i * n+j,none⟩ u) base (.slice (some ⟨g,0,none⟩) m cap) (xs.set i y):=by
 subst hm
 have:=(World.ownsRow.stored h (i * n+j) u).1
 rw [encs_set hn xs i hi j u y hj hy] at this
 unfold OwnN
 rw [List.length_set];exact this
theorem OwnN.other {g off:Nat} (h:OwnN e n enc w base v xs) (hne:v.ownBlock≠some g) (u:Value):OwnN e n enc (w.setCell ⟨g,off,none⟩ u) base v xs:=ownsRow_setCell_other h hne u
theorem wpList_append_own1 {P:Program} {ops:Array Oper} {rest:List Oper} {o:Oper} {a:Act} {Q:Exit→Act→World→Prop} (hgd:o.guard=none) (s x:Operand) (t:TypeId)
  (ho:o.op = .call { callee:=.builtin .append,args:=#[s,x],argTypes:=#[t,t] })
  (i:TypeInfo) (z:Value) (bytes:Nat) (ht:P.underlying t=some (.slice e)) (hi:P.info? e=some i) (hz:i.zero=some z)
  (hsize:i.size=n) (hby:i.bytes=bytes) (hzs:z.cells.size=n) (hsz:0 < n) (hn:∀ x,(enc x).length=n)
  (hs:a.eval s=v) (hown:OwnN e n enc w base v xs) (y:α) (ad:Addr) (hx:a.eval x = .slice (some ad) 1 1) (hnews:∀ j u,(enc y)[j]? = some u→w.cell? (ad.add j)=some u) (h1:∀ u ∈ enc y,u.oneCell'=true)
  (h63:xs.length+1≤maxLen) (hbytes:(xs.length+1) * bytes≤140737488355328) (hbase:base≤w.heap.size)
  (h:∀ v' w',OwnN e n enc w' base v' (xs++[y])→w.grownBy w' v.ownBlock→(v'.ownBlock=v.ownBlock∨v'.ownBlock=some w.heap.size)→wpList P ops Q rest (a.put o.dst v') w'):wpList P ops Q (o :: rest) a w:=by
 refine wpList_append_at hgd s x t ho base e i z n bytes ht hi hz hsize hby hzs hsz v xs.length (xs.flatMap enc) hs hown ad 1 1 (enc y) hx (by rw [hn];omega) hnews h1 h63 hbytes hbase ?_
 intro v' w' h2 h3 h4
 refine h v' w' ?_ h3 h4
 unfold OwnN
 rw [List.length_append,List.flatMap_append]
 simpa using h2
end
end Go.Proofs.YtkhheooofcpfdaaGreatDoor
namespace Go.Proofs.YtkhheooofcpfdaaGreatDoor
open Go.RowKit Go.Maps
set_option linter.unusedVariables false
noncomputable def flsL (fs:List Fl):List (Lit × Value):=fs.map fun f=>(litK (firstK f.key),flV f)
structure TbAt (w:World) (b m:Nat) (t:Tb):Prop where
 tab:w.heap[b]? = some (.cells #[.int .i64 t.max,.int .i64 t.now,.map (some m)] 76 (0,0))
 map:MapIs Tryz.prog 37 w m (flsL t.fs)
 oks:∀ f ∈ t.fs,KyOk f.key
theorem blk_lt {w:World} {b:Nat} {o:Obj} (h:w.heap[b]? = some o):b < w.heap.size:=(Array.getElem?_eq_some_iff.1 h).1
theorem TbAt.lt {w:World} {b m:Nat} {t:Tb} (h:TbAt w b m t):b < w.heap.size:=blk_lt h.tab
theorem TbAt.blk {w w':World} {b m:Nat} {t:Tb} (h:TbAt w b m t) (hb:w'.heap[b]? = w.heap[b]?) (hm:w'.heap[m]? = w.heap[m]?):TbAt w' b m t:=⟨hb.trans h.tab,h.map.block hm,h.oks⟩
theorem TbAt.below {w w':World} {b m:Nat} {t:Tb} (h:TbAt w b m t) (hb:Below w.heap.size w w'):TbAt w' b m t:=h.blk (hb.block _ h.lt) (hb.block _ h.map.lt)
theorem TbAt.alloc {w:World} {b m:Nat} {t:Tb} (h:TbAt w b m t) (o:Obj):TbAt (w.alloc o) b m t:=h.below ((Below.refl _ _).alloc (Nat.le_refl _) _)
theorem TbAt.ne {w:World} {b m:Nat} {t:Tb} (h:TbAt w b m t):b≠m:=fun e=>by
 have hm:=h.map
 rw [← e] at hm
 exact hm.not_cells h.tab
theorem tab_cells {w:World} {b:Nat} {x y z:Value} (h:w.heap[b]? = some (.cells #[x,y,z] 76 (0,0))):w.cell? ⟨b,0,none⟩=some x∧w.cell? ⟨b,1,none⟩=some y∧w.cell? ⟨b,2,none⟩=some z:=by
 refine ⟨?_,?_,?_⟩ <;> (rw [cell_of_row w b _ _ _ _ h];rfl)
theorem tab_frees {w:World} {b:Nat} {x y z:Value} (h:w.heap[b]? = some (.cells #[x,y,z] 76 (0,0))):w.frozen? ⟨b,0,none⟩=false∧w.frozen? ⟨b,1,none⟩=false∧w.frozen? ⟨b,2,none⟩=false :=
 ⟨frozen_of_row w b 0 _ _ h,frozen_of_row w b 1 _ _ h,frozen_of_row w b 2 _ _ h⟩
theorem tab_set {w:World} {b:Nat} {x y z:Value} (h:w.heap[b]? = some (.cells #[x,y,z] 76 (0,0))) (x' y' z':Value) :
  ∃ w',((w.setCell ⟨b,0,none⟩ x').setCell ⟨b,1,none⟩ y').setCell ⟨b,2,none⟩ z'=w'∧w'.heap[b]? = some (.cells #[x',y',z'] 76 (0,0))∧Only b w w':=by
 refine ⟨_,rfl,?_,(((Only.refl _ _).setCell _ _).setCell _ _).setCell _ _⟩
 exact heap_setCell_same _ b 2 _ _ z' (heap_setCell_same _ b 1 _ _ y' (heap_setCell_same _ b 0 _ _ x' h))
theorem tab_set1 {w:World} {b:Nat} {x y z:Value} (h:w.heap[b]? = some (.cells #[x,y,z] 76 (0,0))) (y':Value) :
  ∃ w',w.setCell ⟨b,1,none⟩ y'=w'∧w'.heap[b]? = some (.cells #[x,y',z] 76 (0,0))∧Only b w w' :=
 ⟨_,rfl,heap_setCell_same _ b 1 _ _ y' h,(Only.refl _ _).setCell _ _⟩
theorem tab_set2 {w:World} {b:Nat} {x y z:Value} (h:w.heap[b]? = some (.cells #[x,y,z] 76 (0,0))) (z':Value) :
  ∃ w',w.setCell ⟨b,2,none⟩ z'=w'∧w'.heap[b]? = some (.cells #[x,y,z'] 76 (0,0))∧Only b w w' :=
 ⟨_,rfl,heap_setCell_same _ b 2 _ _ z' h,(Only.refl _ _).setCell _ _⟩
theorem zeroFl (w:World):(zeroValue 45).run Tryz.prog w = .ok (flV zeroF) w:=by
 have h:(Tryz.prog.info? 45).map (fun i=>i.zero)=some (some (flV zeroF)):=by kernel_rfl
 obtain ⟨i0,hi,hz0⟩:=Option.map_eq_some_iff.1 h
 simp [zeroValue,typeInfo,hi,hz0]
theorem fls_mem {fs:List Fl} {x:Lit × Value}:x ∈ flsL fs ↔ ∃ f ∈ fs,x=(litK (firstK f.key),flV f):=by
 unfold flsL
 rw [List.mem_map]
 exact ⟨fun ⟨f,hf,e⟩=>⟨f,hf,e.symm⟩,fun ⟨f,hf,e⟩=>⟨f,hf,e.symm⟩⟩
theorem look_has {fs:List Fl} (hok:∀ f ∈ fs,KyOk f.key) {k:Ky} (hk:KyOk k) (m:Nat) :
  ∃ g:Fl,(hasK fs k=true→g ∈ fs∧firstK g.key=firstK k)∧(hasK fs k=false→g=zeroF)∧∀ X,MapIs Tryz.prog 37 X m (flsL fs)→(Instr.lookup 72 (.map (some m)) (keyV (firstK k)) true).run Tryz.prog X = .ok (.tuple #[flV g,.bool (hasK fs k)]) X:=by
 cases hh:hasK fs k
 ·refine ⟨zeroF,(fun h=>by cases h),fun _=>rfl,fun X hX=>?_⟩
  refine hX.look_ok_no lawK Tryz.underlying72 (zeroFl X) (keyK hk.first) (fun x hx e=>?_)
  obtain ⟨f,hf,rfl⟩:=fls_mem.1 hx
  simp only at e
  exact hasK_not hh f hf (litK_inj (hok f hf).first hk.first e)
 ·obtain ⟨g,hg,e⟩:=hasK_of hh
  refine ⟨g,fun _=>⟨hg,e⟩,(fun h=>by cases h),fun X hX=>?_⟩
  refine hX.look_ok lawK Tryz.underlying72 (zeroFl X) (keyK hk.first) (fls_mem.2 ⟨g,hg,by rw [e]⟩)
/-! ### maps.Clone -/
section
variable {P:Program} (w:World)
theorem eqlIn_map_nil (d:Nat) (t k e:TypeId) (p:Option Nat) (h:P.underlying t=some (.map k e)) :
  (Op.equalIn (d+1) t (.map p) (.map none)).run P w = .ok p.isNone w:=by
 cases p <;> simp [Op.equalIn,run_underlying h]
theorem eql_map_nil (t k e:TypeId) (p:Option Nat) (h:P.underlying t=some (.map k e)) :
  (binOp .eql t (.map p) (.map none)).run P w = .ok (.bool p.isNone) w:=by
 simp only [binOp]
 simp [show Op.equal t (.map p) (.map none)=Op.equalIn (9999+1) t (.map p) (.map none) from rfl,eqlIn_map_nil w 9999 t k e p h]
theorem assert_map (t xT k e:TypeId) (v:Value) (h:P.underlying t=some (.map k e)):(Instr.typeAssert (.iface t v) xT t false).run P w = .ok v w:=by
 simp [Instr.typeAssert,run_underlying h,go_sem,Result.andThen]
theorem clone_run {r:Nat} {es:Array MapEntry} {clock:Nat} (t:TypeId) (hb:w.heap[r]? = some (.map es clock)) :
  (Extern.MapsClone.clone #[.iface t (.map (some r))]).run P w = .ok (.iface t (.map (some w.heap.size))) (w.alloc (.map es clock)):=by
 have e:Extern.MapsClone.clone #[.iface t (.map (some r))]=(getObj r >>= fun o=>match o with
   | .map entries clock=>(newObj (.map entries clock) >>= fun n=>pure (.iface t (.map (some n))))
   | _ => stuck "maps.clone: a map expected") := rfl
 rw [e]
 simp [MapKept.run_getObj_map hb,Result.andThen,go_sem]
end
theorem MapIs.cloned {P:Program} {k:TypeId} {w:World} {b:Nat} {l:List (Lit × Value)} (h:MapIs P k w b l) :
  ∃ es clock,w.heap[b]? = some (.map es clock)∧MapIs P k (w.alloc (.map es clock)) w.heap.size l:=by
 obtain ⟨es0,⟨es,clock,hb,F⟩,hp⟩:=h
 exact ⟨es,clock,hb,es0,⟨es,clock,(MapKept.heap_alloc w _).1,F⟩,hp⟩
set_option maxRecDepth 100000 in
set_option maxHeartbeats 2000000 in
theorem clone_any (b:Nat) (es:Array MapEntry) (clock:Nat) (w:World) (hb:w.heap[b]? = some (.map es clock)) :
  Calls Tryz.prog 55 #[.map (some b)] w fun e w'=>e = .returned (.map (some w.heap.size))∧w'=w.alloc (.map es clock):=by
 have hq:=fun w=>eql_map_nil (P:=Tryz.prog) w 72 _ _ (some b) Tryz.underlying72
 go_enter Tryz.func55,Tryz.ntmps55
 go_wp2
 rw [run_callFunc_extern Tryz.func80 (by kernel_rfl) (by kernel_rfl) (by kernel_rfl) (e:=Extern.MapsClone.clone) (by kernel_rfl),clone_run w 72 hb]
 simp only [Result.andThen]
 rw [Oper.upon_value]
 go_wp2
 rw [assert_map _ 72 _ _ _ _ Tryz.underlying72]
 simp only [Result.andThen]
 rw [Oper.upon_value]
 go_wp2
 go_ret
 exact ⟨rfl,rfl⟩
/-! ### small functions -/
set_option maxHeartbeats 2000000 in
theorem tnew_bad (max:Int) (w:World) (h:max < 1∨30 < max) :
  Calls Tryz.prog 4 #[.int .i64 max] w fun e w'=>e = .returned (.tuple #[.pointer none,.iface 71 (.int .i64 1)])∧w'=w:=by
 by_cases h1:max < 1
 ·go_enter Tryz.func4,Tryz.ntmps4
  go_wp2_with fail
  go_ret2
  exact ⟨rfl,rfl⟩
 ·have h2:30 < max:=by omega
  go_enter Tryz.func4,Tryz.ntmps4
  go_wp2_with fail
  go_ret2
  exact ⟨rfl,rfl⟩
set_option maxHeartbeats 2000000 in
theorem tnew_good (max:Int) (w:World) (h1:¬ max < 1) (h2:¬ 30 < max) :
  Calls Tryz.prog 4 #[.int .i64 max] w fun e w'=>e = .returned (.tuple #[.pointer (some ⟨w.heap.size+1,0,none⟩),.nilIface])∧w'=(w.alloc (.map #[] 0)).alloc (.cells #[.int .i64 max,.int .i64 0,.map (some w.heap.size)] 76):=by
 have hmm:=@run_makeMap Tryz.prog
 go_enter Tryz.func4,Tryz.ntmps4
 go_wp2_with fail
 go_ret2
 exact ⟨by simp,rfl⟩
theorem tnew_at (max:Int) (w:World):TbAt ((w.alloc (.map #[] 0)).alloc (.cells #[.int .i64 max,.int .i64 0,.map (some w.heap.size)] 76)) (w.heap.size+1) w.heap.size { max:=max,now:=0,fs:=[] }:=by
 refine ⟨?_,?_,fun f hf=>by cases hf⟩
 ·have e:=heap_alloc_new (w.alloc (.map #[] 0)) (.cells #[.int .i64 max,.int .i64 0,.map (some w.heap.size)] 76)
  simpa using e
 ·exact (MapIs.made Tryz.prog 37 w).block (Below.heap_alloc _ _ _ (by simp))
set_option maxHeartbeats 2000000 in
theorem move_bad (b o:Nat) (t:Tb) (now z:Int) (w:World) (hz:timE t now=z) (h0:¬ z=0) (hc:w.cell? ⟨b,o,none⟩=some (.int .i64 t.now)) :
  Calls Tryz.prog 54 #[.pointer (some ⟨b,o,none⟩),.int .i64 now] w fun e w'=>e = .returned (.iface 71 (.int .i64 z))∧w'=w:=by
 unfold timE at hz
 by_cases h1:now < 0
 ·rw [if_pos (.inl h1)] at hz
  subst hz
  go_enter Tryz.func54,Tryz.ntmps54
  go_wp2_with fail
  go_ret
  exact ⟨rfl,rfl⟩
 ·by_cases h2:1000000 < now
  ·rw [if_pos (.inr h2)] at hz
   subst hz
   go_enter Tryz.func54,Tryz.ntmps54
   go_wp2_with fail
   go_ret
   exact ⟨rfl,rfl⟩
  ·rw [if_neg (by omega)] at hz
   by_cases h3:now < t.now
   ·rw [if_pos h3] at hz
    subst hz
    go_enter Tryz.func54,Tryz.ntmps54
    go_wp2_with fail
    go_ret
    exact ⟨rfl,rfl⟩
   ·rw [if_neg h3] at hz
    exact absurd hz.symm h0
set_option maxHeartbeats 2000000 in
theorem move_ok (b o:Nat) (t:Tb) (now:Int) (w:World) (hz:timE t now=0) (hc:w.cell? ⟨b,o,none⟩=some (.int .i64 t.now)) (hf:w.frozen? ⟨b,o,none⟩=false) :
  Calls Tryz.prog 54 #[.pointer (some ⟨b,o,none⟩),.int .i64 now] w fun e w'=>e = .returned .nilIface∧w'=w.setCell ⟨b,o,none⟩ (.int .i64 now):=by
 obtain ⟨h1,h2,h3⟩:=timE_ok hz
 have i1:¬ now < 0:=by omega
 have i2:¬ 1000000 < now:=by omega
 have i3:¬ now < t.now:=by omega
 clear hz h1 h2 h3
 go_enter Tryz.func54,Tryz.ntmps54
 go_wp2_with fail
 go_ret
 exact ⟨rfl,rfl⟩
set_option maxHeartbeats 2000000 in
theorem tlen_any (b m:Nat) (t:Tb) (w:World) (h:TbAt w b m t) :
  Calls Tryz.prog 23 #[.pointer (some ⟨b,0,none⟩)] w fun e w'=>e = .returned (.int .i64 (t.fs.length:Int))∧w'=w:=by
 have hl:=fun ty=>h.map.len Tryz.underlying72 ty
 rw [show (flsL t.fs).length=t.fs.length by unfold flsL;rw [List.length_map]] at hl
 obtain ⟨c0,c1,c2⟩:=tab_cells h.tab
 generalize t.fs.length=n at hl ⊢
 clear h
 go_enter Tryz.func23,Tryz.ntmps23
 go_wp2_with fail
 go_ret
 exact ⟨rfl,rfl⟩
set_option maxHeartbeats 4000000 in
theorem gone_any (f:Fl) (now:Int) (w:World) :
  Calls Tryz.prog 40 #[flV f,.int .i64 now] w fun e w'=>e = .returned (.bool (goneB now f))∧Below w.heap.size w w':=by
 have hb:Below w.heap.size w (w.alloc (.cells #[.int .i64 f.key.kind,.int .i64 f.key.src,.int .i64 f.key.frm,.int .i64 f.key.dst,.int .i64 f.key.too,.int .i64 f.st,.int .i64 f.unt,.int .i64 f.stp,.int .i64 f.h0,.int .i64 f.h1,.int .i64 f.w0,.int .i64 f.w1,.bool f.d0,.bool f.d1,.int .i64 f.num] 45)):=(Below.refl _ _).alloc (Nat.le_refl _) _
 have HB:Hid _:=hb
 unfold flV
 by_cases h:f.unt≤now
 ·have e:goneB now f=true:=decide_eq_true h
  rw [e]
  clear hb e
  go_enter Tryz.func40,Tryz.ntmps40
  go_wp2_with fail
  go_ret
  exact ⟨rfl,HB.out⟩
 ·have e:goneB now f=false:=decide_eq_false h
  rw [e]
  clear hb e
  go_enter Tryz.func40,Tryz.ntmps40
  go_wp2_with fail
  go_ret
  exact ⟨rfl,HB.out⟩
end Go.Proofs.YtkhheooofcpfdaaGreatDoor
namespace Go.Proofs.YtkhheooofcpfdaaGreatDoor
open Go.RowKit Go.Maps
set_option linter.unusedVariables false
def kyRow (k:Ky):List Value:=[.int .i64 k.kind,.int .i64 k.src,.int .i64 k.frm,.int .i64 k.dst,.int .i64 k.too]
def OwnKy (w:World) (base:Nat) (v:Value) (ks:List Ky):Prop:=OwnN 37 5 kyRow w base v ks
theorem Tryz.infoKey:(Tryz.prog.info? 37).map (fun i=>(i.zero,i.size,i.bytes))=some (some (.agg #[.int .i64 0,.int .i64 0,.int .i64 0,.int .i64 0,.int .i64 0]),5,40):=by kernel_rfl
theorem wpList_append_ky {w:World} {ops:Array Oper} {rest:List Oper} {o:Oper} {a:Act} {Q:Exit→Act→World→Prop} (hgd:o.guard=none) (s x:Operand)
  (ho:o.op = .call { callee:=.builtin .append,args:=#[s,x],argTypes:=#[58,58] })
  (base:Nat) (v:Value) (ks:List Ky) (hs:a.eval s=v) (hown:OwnKy w base v ks) (k:Ky) (hx:a.eval x = .slice (some ⟨w.heap.size,0,none⟩) 1 1)
  (hlen:ks.length≤4398046511 ) (hbase:base≤w.heap.size)
  (h:∀ v' w',OwnKy w' base v' (ks++[k])→(w.alloc (.cells #[.int .i64 k.kind,.int .i64 k.src,.int .i64 k.frm,.int .i64 k.dst,.int .i64 k.too] 37)).grownBy w' v.ownBlock→wpList Tryz.prog ops Q rest (a.put o.dst v') w') :
  wpList Tryz.prog ops Q (o :: rest) a (w.alloc (.cells #[.int .i64 k.kind,.int .i64 k.src,.int .i64 k.frm,.int .i64 k.dst,.int .i64 k.too] 37)):=by
 obtain ⟨i0,hi,hz0,hz1,hz2⟩:=info_parts Tryz.infoKey
 refine wpList_append_own1 (enc:=kyRow) (xs:=ks) (base:=base) (v:=v) hgd s x 58 ho i0 _ 40 Tryz.underlying58 hi hz0 hz1 hz2 rfl (by decide) (fun _=>rfl) hs (OwnN.alloc hown _) k ⟨w.heap.size,0,none⟩ hx ?_ ?_ (by unfold maxLen;omega) (by omega) (by simp;omega) ?_
 ·intro j u hj
  match j,hj with
  | 0,hj=>simp [kyRow] at hj;subst hj;simp [Addr.add]
  | 1,hj=>simp [kyRow] at hj;subst hj;simp [Addr.add]
  | 2,hj=>simp [kyRow] at hj;subst hj;simp [Addr.add]
  | 3,hj=>simp [kyRow] at hj;subst hj;simp [Addr.add]
  | 4,hj=>simp [kyRow] at hj;subst hj;simp [Addr.add]
  | j+5,hj=>simp [kyRow] at hj
 ·intro u hu
  simp only [kyRow,List.mem_cons,List.not_mem_nil,or_false] at hu
  rcases hu with rfl|rfl|rfl|rfl|rfl <;> rfl
 ·intro v' w' h1 h2 _
  exact h v' w' h1 h2
def goneV (now:Int) (v:Value):Bool:=match v with
 | .agg cs=>(match (cs[6]? : Option Value) with
  | some (Value.int _ u)=>decide (u≤now)
  | _=>false)
 | _=>false
theorem goneV_fl (now:Int) (f:Fl):goneV now (flV f)=goneB now f:=rfl
theorem fls_left {now:Int} {fs:List Fl}:(flsL fs).filter (fun x=>!goneV now x.2)=flsL (leftL now fs):=by
 unfold flsL leftL
 rw [List.filter_map];rfl
theorem filter_more {α:Type} {l:List α} {p q:α→Bool} {f:α} (hf:f ∈ l) (hn:l.Nodup) (h0:p f=false) (h1:q f=true) (h2:∀ x ∈ l,x≠f→q x=p x):(l.filter q).Perm (f :: l.filter p):=by
 induction l with
 | nil=>cases hf
 | cons a r ih =>
  rw [List.nodup_cons] at hn
  rcases List.mem_cons.1 hf with rfl|hf'
  ·rw [List.filter_cons_of_pos (by simpa using h1),List.filter_cons_of_neg (by simp [h0])]
   refine List.Perm.cons _ ?_
   rw [List.filter_congr (fun x hx=>h2 x (List.mem_cons_of_mem _ hx) (fun e=>hn.1 (e ▸ hx)))]
  ·have hne:a≠f:=fun e=>hn.1 (e ▸ hf')
   have ih':=ih hf' hn.2 (fun x hx=>h2 x (List.mem_cons_of_mem _ hx))
   have ha:=h2 a List.mem_cons_self hne
   cases hp:p a
   ·rw [List.filter_cons_of_neg (by simp [ha,hp]),List.filter_cons_of_neg (by simp [hp])];exact ih'
   ·rw [List.filter_cons_of_pos (by simp [ha,hp]),List.filter_cons_of_pos (by simpa using hp)]
    exact (List.Perm.cons a ih').trans (List.Perm.swap f a _)
theorem nodup_of_apart {fs:List Fl} (h:fs.Pairwise fun f g=>firstK f.key≠firstK g.key):fs.Nodup:=by
 refine List.Pairwise.imp ?_ h
 intro a b hab e
 exact hab (by rw [e])
structure AtS (w:World) (t:Tb) (now:Int) (X m' R:Nat) (left:Lit→Bool) (v:Value) (ks:List Ky) (W:World):Prop where
 cur:W.heap[X]? = some (.cells #[.int .i64 t.max,.int .i64 now,.map (some m')] 76 (0,0))
 map:MapIs Tryz.prog 37 W m' ((flsL t.fs).filter fun x=>left x.1 || !goneV now x.2)
 own:OwnKy W (R+1) v ks
 pm:ks.Perm ((t.fs.filter fun f=>goneB now f && !left (litK (firstK f.key))).map Fl.key)
 bel:Below w.heap.size w W
 lx:w.heap.size≤X
 lm:w.heap.size≤m'
 xr:X < R
 mr:m' < R
 rs:R < W.heap.size
theorem AtS.ne {w W:World} {t:Tb} {now:Int} {X m' R:Nat} {left:Lit→Bool} {v:Value} {ks:List Ky} (h:AtS w t now X m' R left v ks W):X≠m':=fun e=>by
 have hm:=h.map
 rw [← e] at hm
 exact hm.not_cells h.cur
theorem AtS.grown {w W W':World} {t:Tb} {now:Int} {X m' R:Nat} {left:Lit→Bool} {v:Value} {ks:List Ky} (h:AtS w t now X m' R left v ks W) (hg:W.grownBy W' (some R)):AtS w t now X m' R left v ks W':=by
 have hx:=blk_lt h.cur
 have hm:=h.map.lt
 have:=h.xr
 have:=h.mr
 refine ⟨(hg.block X hx (by simp;omega)).trans h.cur,h.map.block (hg.block m' hm (by simp;omega)),OwnN.blk h.own (fun k hk=>?_),h.pm,?_,h.lx,h.lm,h.xr,h.mr,Nat.lt_of_lt_of_le h.rs hg.size⟩
 ·have:=OwnN.block h.own k hk
  exact hg.block k this.2 (by simp;omega)
 ·have hb:=h.bel
  exact ⟨hg.os.trans hb.os,hg.tape.trans hb.tape,hg.output.trans hb.output,Nat.le_trans hb.size hg.size,fun i hi=>(hg.block i (by have:=hb.size;omega) (by have:=h.lx;simp;omega)).trans (hb.block i hi)⟩
theorem AtS.step {w W W':World} {t:Tb} {now:Int} {X m' R:Nat} {left:Lit→Bool} {v:Value} {ks:List Ky} (h:AtS w t now X m' R left v ks W) (hb:Below W.heap.size W W'):AtS w t now X m' R left v ks W' :=
 ⟨(hb.block X (blk_lt h.cur)).trans h.cur,h.map.block (hb.block m' h.map.lt),OwnN.below h.own hb,h.pm,h.bel.trans (hb.mono h.bel.size),h.lx,h.lm,h.xr,h.mr,Nat.lt_of_lt_of_le h.rs hb.size⟩
set_option maxRecDepth 100000 in
theorem fls_find {fs:List Fl} {kl:Lit} {c:Value} (h:(kl,c) ∈ flsL fs):∃ f ∈ fs,kl=litK (firstK f.key)∧c=flV f:=by
 obtain ⟨f,hf,e⟩:=fls_mem.1 h
 exact ⟨f,hf,congrArg Prod.fst e,congrArg Prod.snd e⟩
theorem left_lit {fs:List Fl} (hok:∀ f ∈ fs,KyOk f.key) (hap:fs.Pairwise fun f g=>firstK f.key≠firstK g.key) {f:Fl} (hf:f ∈ fs):∀ g ∈ fs,g≠f→(litK (firstK g.key)).sameKey (litK (firstK f.key))=false:=by
 intro g hg hne
 refine sameKey_ne (fun e=>?_)
 have e':=litK_inj (hok g hg).first (hok f hf).first e
 clear e
 induction fs with
 | nil=>cases hf
 | cons a r ih =>
  rw [List.pairwise_cons] at hap
  rcases List.mem_cons.1 hf with rfl|hf' <;> rcases List.mem_cons.1 hg with rfl|hg'
  ·exact hne rfl
  ·exact hap.1 g hg' e'.symm
  ·exact hap.1 f hf' e'
  ·exact ih (fun x hx=>hok x (List.mem_cons_of_mem _ hx)) hap.2 hf' hg'
set_option maxRecDepth 100000 in
theorem lit_self {k:Ky} (h:KyOk k):(litK k).sameKey (litK k)=true:=by
 have h1:=keyK h
 have hk:=lawK.key h1
 clear h1
 generalize litK k=q at hk ⊢
 exact WideAt.sameKey_self hk
theorem AtS.stay {w W:World} {t:Tb} {now:Int} {X m' R:Nat} {left:Lit→Bool} {v:Value} {ks:List Ky} (h:AtS w t now X m' R left v ks W) (hok:∀ f ∈ t.fs,KyOk f.key) (hap:t.fs.Pairwise fun f g=>firstK f.key≠firstK g.key) {f:Fl} (hf:f ∈ t.fs) (hg:goneB now f=false) :
  AtS w t now X m' R (fun z=>left z && !z.sameKey (litK (firstK f.key))) v ks W:=by
 have hL:=left_lit hok hap hf
 refine ⟨h.cur,?_,h.own,?_,h.bel,h.lx,h.lm,h.xr,h.mr,h.rs⟩
 ·have e:(flsL t.fs).filter (fun x=>left x.1 || !goneV now x.2)=(flsL t.fs).filter (fun x=>(left x.1 && !x.1.sameKey (litK (firstK f.key))) || !goneV now x.2):=List.filter_congr (fun x hx=>by
   obtain ⟨g,hg',rfl⟩:=fls_mem.1 hx
   simp only [goneV_fl]
   by_cases e:g=f
   ·subst e;rw [hg];simp
   ·rw [hL g hg' e];simp)
  rw [← e];exact h.map
 ·have e:t.fs.filter (fun g=>goneB now g && !left (litK (firstK g.key)))=t.fs.filter (fun g=>goneB now g && !(left (litK (firstK g.key)) && !(litK (firstK g.key)).sameKey (litK (firstK f.key)))):=List.filter_congr (fun g hg'=>by
   by_cases e:g=f
   ·subst e;rw [hg];simp
   ·rw [hL g hg' e];simp)
  rw [← e];exact h.pm
theorem AtS.goes {w W W' W2:World} {t:Tb} {now:Int} {X m' R:Nat} {left:Lit→Bool} {v v':Value} {ks:List Ky} (h:AtS w t now X m' R left v ks W) (hok:∀ f ∈ t.fs,KyOk f.key) (hap:t.fs.Pairwise fun f g=>firstK f.key≠firstK g.key) {f:Fl} (hf:f ∈ t.fs) (hg:goneB now f=true) (hl:left (litK (firstK f.key))=true)
  (hW:Below W.heap.size W W') (hg':W'.grownBy W2 v.ownBlock) (ho:OwnKy W2 (R+1) v' (ks++[f.key])) :
  W2.heap[X]? = some (.cells #[.int .i64 t.max,.int .i64 now,.map (some m')] 76 (0,0))∧MapIs Tryz.prog 37 W2 m' ((flsL t.fs).filter fun x=>left x.1 || !goneV now x.2)∧Below w.heap.size w W2∧R < W2.heap.size ∧
  ∀ W3,W2.grownBy W3 (some m')→MapIs Tryz.prog 37 W3 m' (((flsL t.fs).filter fun x=>left x.1 || !goneV now x.2).filter fun x=>!x.1.sameKey (litK (firstK f.key)))→AtS w t now X m' R (fun z=>left z && !z.sameKey (litK (firstK f.key))) v' (ks++[f.key]) W3:=by
 have h1:=h.step hW
 have hxr:=h.xr
 have hmr:=h.mr
 have hno:∀ i,i≤R→some i≠v.ownBlock:=fun i hi e=>by
  have:=OwnN.block h.own i e.symm
  omega
 have c2:=(hg'.block X (blk_lt h1.cur) (hno X (by omega))).trans h1.cur
 have m2:=h1.map.block (hg'.block m' h1.map.lt (hno m' (by omega)))
 have b2:Below w.heap.size w W2:=by
  have hb:=h1.bel
  refine ⟨hg'.os.trans hb.os,hg'.tape.trans hb.tape,hg'.output.trans hb.output,Nat.le_trans hb.size hg'.size,fun i hi=>(hg'.block i (by have:=hb.size;omega) (fun e=>?_)).trans (hb.block i hi)⟩
  have:=OwnN.block h.own i e.symm
  have:=h.lx
  omega
 have r2:R < W2.heap.size:=Nat.lt_of_lt_of_le h1.rs hg'.size
 refine ⟨c2,m2,b2,r2,fun W3 hg3 hm3=>?_⟩
 have hL:=left_lit hok hap hf
 have hS:=lit_self (hok f hf).first
 refine ⟨(hg3.block X (blk_lt c2) (by simpa using h.ne)).trans c2,?_,OwnN.blk ho (fun k hk=>?_),?_,?_,h.lx,h.lm,h.xr,h.mr,Nat.lt_of_lt_of_le r2 hg3.size⟩
 ·have e:((flsL t.fs).filter (fun x=>left x.1 || !goneV now x.2)).filter (fun x=>!x.1.sameKey (litK (firstK f.key)))=(flsL t.fs).filter (fun x=>(left x.1 && !x.1.sameKey (litK (firstK f.key))) || !goneV now x.2):=by
   rw [List.filter_filter]
   refine List.filter_congr (fun x hx=>?_)
   obtain ⟨g,hg',rfl⟩:=fls_mem.1 hx
   simp only [goneV_fl]
   by_cases e:g=f
   ·subst e;rw [hg,hS];simp
   ·rw [hL g hg' e];simp
  rw [← e];exact hm3
 ·have:=OwnN.block ho k hk
  exact hg3.block k this.2 (by simp;omega)
 ·have hp:=filter_more (l:=t.fs) (p:=fun g=>goneB now g && !left (litK (firstK g.key))) (q:=fun g=>goneB now g && !(left (litK (firstK g.key)) && !(litK (firstK g.key)).sameKey (litK (firstK f.key)))) hf (nodup_of_apart hap) (by simp [hl]) (by simp [hg,hS]) (fun g hg' e=>by rw [hL g hg' e];simp)
  have h2:=(h.pm.append_right [f.key])
  refine h2.trans ?_
  refine (List.perm_append_comm).trans ?_
  have h3:=(hp.map Fl.key).symm
  simpa using h3
 ·exact ⟨hg3.os.trans b2.os,hg3.tape.trans b2.tape,hg3.output.trans b2.output,Nat.le_trans b2.size hg3.size,fun i hi=>(hg3.block i (by have:=b2.size;omega) (by have:=h.lm;simp;omega)).trans (b2.block i hi)⟩
end Go.Proofs.YtkhheooofcpfdaaGreatDoor
namespace Go.Proofs.YtkhheooofcpfdaaGreatDoor
open Go.RowKit Go.Maps
set_option linter.unusedVariables false
set_option maxRecDepth 100000 in
set_option maxHeartbeats 8000000 in
theorem at_bad (b m:Nat) (t:Tb) (now z:Int) (w:World) (h:TbAt w b m t) (hz:timE t now=z) (h0:¬ z=0) :
  Calls Tryz.prog 30 #[.pointer (some ⟨b,0,none⟩),.int .i64 now] w fun e w'=>e = .returned (.tuple #[.agg #[.int .i64 0,.int .i64 0,.map none],.slice none 0 0,.iface 71 (.int .i64 z)])∧Below w.heap.size w w':=by
 have h1:=h.alloc (.cells #[.int .i64 0,.int .i64 0,.map none] 76)
 have x1:=heap_alloc_new w (.cells #[.int .i64 0,.int .i64 0,.map none] 76)
 have b1:Below w.heap.size w (w.alloc (.cells #[.int .i64 0,.int .i64 0,.map none] 76)):=(Below.refl _ _).alloc (Nat.le_refl _) _
 obtain ⟨W1,hW1⟩:∃ W1,w.alloc (.cells #[.int .i64 0,.int .i64 0,.map none] 76)=W1:=⟨_,rfl⟩
 rw [hW1] at h1 x1 b1
 have hm:=hidE (fun W hc=>move_bad w.heap.size 1 t now z W hz h0 hc)
 have hlt:=h.lt
 clear hz h0
 go_enter Tryz.func30,Tryz.ntmps30
 go_upto_region 1 with fail
 try rw [hW1]
 clear hW1
 obtain ⟨c0,c1,c2⟩:=tab_cells h1.tab
 obtain ⟨d0,d1,d2⟩:=tab_cells x1
 obtain ⟨y0,y1,y2⟩:=tab_frees x1
 go_upto_region 2 with fail
 obtain ⟨W2,hW2,x2,o2⟩:=tab_set x1 (.int .i64 t.max) (.int .i64 t.now) (.map (some m))
 rw [hW2]
 have b2:=o2.below (Nat.le_refl _) b1
 clear hW2 c0 c1 c2 d0 d1 d2 y0 y1 y2
 have hc:=hm.out W2 (tab_cells x2).2.1
 go_upto_region 4 with (go_at_call 54;go_must (refine hc.mono ?_;rintro e W3 ⟨rfl,hW3⟩;rw [hW3];clear hW3 W3))
 obtain ⟨d0,d1,d2⟩:=tab_cells x2
 obtain ⟨y0,y1,y2⟩:=tab_frees x2
 obtain ⟨W4,hW4,x4,o4⟩:=tab_set x2 (.int .i64 0) (.int .i64 0) (.map none)
 have HB:=hidE (o4.below (Nat.le_refl _) b2)
 have HX:=hidE x4
 have HW:=hidE hW4
 clear hc x1 x2 x4 o2 o4 hW4 h1
 go_wp2_with fail
 rw [HW.out]
 obtain ⟨e0,e1,e2⟩:=tab_cells HX.out
 exact bodyPost_ret (v:=.tuple #[.agg #[.int .i64 0,.int .i64 0,.map none],.slice none 0 0,.iface 71 (.int .i64 z)]) (by simp [results,Tryz.results30,go_sem,e0,e1,e2]) rfl ⟨rfl,HB.out⟩
theorem grown_of_below {w w':World} (h:Below w.heap.size w w'):w.grownBy w' none:=⟨h.os,h.tape,h.output,h.size,fun i hi _=>h.block i hi⟩
theorem ks_len {w W:World} {t:Tb} {now:Int} {X m' R:Nat} {left:Lit→Bool} {v:Value} {ks:List Ky} (h:AtS w t now X m' R left v ks W) (hl:t.fs.length≤1000):ks.length≤1000:=by
 rw [h.pm.length_eq,List.length_map]
 exact Nat.le_trans (List.length_filter_le _ _) hl
theorem at_mem {es:List (Lit × DataW Value)} {l:List (Lit × Value)} {kl:Lit} {c:Value} (hp:es.Perm (heldL l)) (hat:∀ zd,(DataW.map es).atKey kl zd = .held c):(kl,c) ∈ l:=by
 have h2:=hat .nil
 unfold DataW.atKey at h2
 simp only at h2
 rcases hf:List.find? (fun p:Lit × DataW Value=>p.1.sameKey kl) es with _|z
 ·rw [hf] at h2;cases h2
 ·rw [hf] at h2
  simp only at h2
  have hz:=List.mem_of_find?_eq_some hf
  have hs:=List.find?_some hf
  have hz1:=WideAt.sameKey_eq hs
  have h3:(kl,DataW.held c) ∈ es:=by rw [← hz1,← h2];exact hz
  exact heldL_mem.1 (hp.mem_iff.1 h3)
theorem AtS.start {w W5 W6:World} {t:Tb} {now:Int} {m n:Nat} {es0:List (Lit × DataW Value)} (hok:∀ f ∈ t.fs,KyOk f.key) (hp:es0.Perm (heldL (flsL t.fs))) (hown:W5.ownsMap Tryz.prog 37 rawR m n (.map es0)) (K:Keyed Tryz.prog 37)
  (x5:W5.heap[w.heap.size]? = some (.cells #[.int .i64 t.max,.int .i64 now,.map (some (w.heap.size+1))] 76 (0,0))) (m5:MapIs Tryz.prog 37 W5 (w.heap.size+1) (flsL t.fs)) (b5:Below w.heap.size w W5) (s5:W5.heap.size=w.heap.size+2) (hg:W5.grownBy W6 none) (hs:W6.heap.size=w.heap.size+2+1) :
  AtS w t now w.heap.size (w.heap.size+1) (w.heap.size+2) (has (DataW.map es0)) (.slice none 0 0) [] W6:=by
 have hall:∀ x ∈ flsL t.fs,has (DataW.map es0) x.1=true:=by
  intro x hx
  have hm:=hp.mem_iff.2 (heldL_mem.2 hx)
  obtain ⟨es1,he,_,hk⟩:=hown.entries K
  injection he with he
  subst he
  rw [has_eq,List.any_eq_true]
  exact ⟨_,hm,WideAt.sameKey_self (hk _ hm)⟩
 refine ⟨(hg.block _ (by omega) (by simp)).trans x5,?_,OwnN.nil _ _,?_,?_,Nat.le_refl _,by omega,by omega,by omega,by omega⟩
 ·have e:(flsL t.fs).filter (fun x=>has (DataW.map es0) x.1 || !goneV now x.2)=flsL t.fs:=List.filter_eq_self.2 (fun x hx=>by rw [hall x hx];rfl)
  rw [e]
  exact m5.block (hg.block _ (by omega) (by simp))
 ·have e:t.fs.filter (fun f=>goneB now f && !has (DataW.map es0) (litK (firstK f.key)))=[]:=List.filter_eq_nil_iff.2 (fun f hf=>by
   have:=hall _ (fls_mem.2 ⟨f,hf,rfl⟩)
   simp only at this
   rw [this];simp)
  rw [e];exact .refl _
 ·exact ⟨hg.os.trans b5.os,hg.tape.trans b5.tape,hg.output.trans b5.output,Nat.le_trans b5.size hg.size,fun i hi=>(hg.block i (by omega) (by simp)).trans (b5.block i hi)⟩
set_option maxRecDepth 100000 in
set_option maxHeartbeats 32000000 in
theorem at_ok (b m:Nat) (t:Tb) (now:Int) (w:World) (h:TbAt w b m t) (hz:timE t now=0) (hap:t.fs.Pairwise fun f g=>firstK f.key≠firstK g.key) (hlen:t.fs.length≤1000) :
  Calls Tryz.prog 30 #[.pointer (some ⟨b,0,none⟩),.int .i64 now] w fun e w'=>∃ (m':Nat) (v:Value) (ks:List Ky),e = .returned (.tuple #[.agg #[.int .i64 t.max,.int .i64 now,.map (some m')],v,.nilIface])∧MapIs Tryz.prog 37 w' m' (flsL (leftL now t.fs))∧w.heap.size≤m'∧OwnKy w' w.heap.size v ks∧ks.Perm ((t.fs.filter fun f=>goneB now f).map Fl.key)∧Below w.heap.size w w':=by
 have h1:=h.alloc (.cells #[.int .i64 0,.int .i64 0,.map none] 76)
 have x1:=heap_alloc_new w (.cells #[.int .i64 0,.int .i64 0,.map none] 76)
 have s1:(w.alloc (.cells #[.int .i64 0,.int .i64 0,.map none] 76)).heap.size=w.heap.size+1:=by simp
 have b1:Below w.heap.size w (w.alloc (.cells #[.int .i64 0,.int .i64 0,.map none] 76)):=(Below.refl _ _).alloc (Nat.le_refl _) _
 obtain ⟨W1,hW1⟩:∃ W1,w.alloc (.cells #[.int .i64 0,.int .i64 0,.map none] 76)=W1:=⟨_,rfl⟩
 rw [hW1] at h1 x1 b1 s1
 have hm:=hidE (fun W hc hf=>move_ok w.heap.size 1 t now W hz hc hf)
 have hlt:=h.lt
 have HOK:=hidE h.oks
 have HAP:=hidE hap
 have HLE:=hidE hlen
 clear hz hap hlen
 obtain ⟨Q,hQ⟩:∃ Q:Ending→World→Prop,Q=fun e w'=>∃ (m':Nat) (v:Value) (ks:List Ky),e = .returned (.tuple #[.agg #[.int .i64 t.max,.int .i64 now,.map (some m')],v,.nilIface])∧MapIs Tryz.prog 37 w' m' (flsL (leftL now t.fs))∧w.heap.size≤m'∧OwnKy w' w.heap.size v ks∧ks.Perm ((t.fs.filter fun f=>goneB now f).map Fl.key)∧Below w.heap.size w w':=⟨_,rfl⟩
 have HQ:=hidE hQ
 rw [← hQ]
 clear hQ
 go_enter Tryz.func30,Tryz.ntmps30
 go_upto_region 1 with fail
 try rw [hW1]
 clear hW1
 obtain ⟨c0,c1,c2⟩:=tab_cells h1.tab
 obtain ⟨d0,d1,d2⟩:=tab_cells x1
 obtain ⟨y0,y1,y2⟩:=tab_frees x1
 go_upto_region 2 with fail
 obtain ⟨W2,hW2,x2,o2⟩:=tab_set x1 (.int .i64 t.max) (.int .i64 t.now) (.map (some m))
 rw [hW2]
 have b2:=o2.below (Nat.le_refl _) b1
 have h2:=h1.blk (o2.block b (by omega)) (o2.block m (by have:=h.map.lt;omega))
 have s2:=o2.size.trans s1
 clear hW2 c0 c1 c2 d0 d1 d2 y0 y1 y2 h1 x1 b1 o2 s1
 have hc:=hm.out W2 (tab_cells x2).2.1 (tab_frees x2).2.1
 go_upto_region 5 with (go_at_call 54;go_must (refine hc.mono ?_;rintro e W3 ⟨rfl,hW3⟩;rw [hW3];clear hW3 W3))
 obtain ⟨W3,hW3,x3,o3⟩:=tab_set1 x2 (.int .i64 now)
 rw [hW3]
 have b3:=o3.below (Nat.le_refl _) b2
 have h3:=h2.blk (o3.block b (by omega)) (o3.block m (by have:=h.map.lt;omega))
 have s3:=o3.size.trans s2
 clear hW3 hc x2 h2 b2 o3 s2 hm
 obtain ⟨es,clock,hes,m4⟩:=h3.map.cloned
 have hcl:=clone_any m es clock W3 hes
 have b4:Below W3.heap.size W3 (W3.alloc (.map es clock)):=(Below.refl _ _).alloc (Nat.le_refl _) _
 have h4:=h3.below b4
 have x4:=(b4.block _ (blk_lt x3)).trans x3
 have c2:=(tab_cells h3.tab).2.2
 have d2:=(tab_cells x4).2.2
 have y2:=(tab_frees x4).2.2
 have s4:(W3.alloc (.map es clock)).heap.size=w.heap.size+2:=by simp [s3]
 have B4:=b3.trans (b4.mono b3.size)
 obtain ⟨W4,hW4⟩:∃ W4,W3.alloc (.map es clock)=W4:=⟨_,rfl⟩
 rw [hW4] at hcl m4 b4 h4 x4 d2 y2 s4 B4
 rw [s3] at hcl m4
 go_upto_region 6 with (go_at_call 55;go_must (refine hcl.mono ?_;rintro e W5 ⟨rfl,hW5⟩;rw [hW5];clear hW5 W5))
 obtain ⟨W5,hW5,x5,o5⟩:=tab_set2 x4 (.map (some (w.heap.size+1)))
 rw [hW5]
 have b5:=o5.below (Nat.le_refl _) B4
 have h5:=h4.blk (o5.block b (by omega)) (o5.block m (by have:=h.map.lt;omega))
 have m5:=m4.block (o5.block _ (by omega))
 have s5:=o5.size.trans s4
 clear hcl hW4 hW5 hes m4 b4 h4 x4 c2 d2 y2 s4 B4 o5 x3 h3 b3 s3
 obtain ⟨c0,c1,c2⟩:=tab_cells h5.tab
 obtain ⟨es0,hown,hperm⟩:=h5.map
 have HP:=hidE hperm
 obtain ⟨es1,he,hap2,hkeys⟩:=hown.entries lawK
 injection he with he
 subst he
 go_upto_region 7 with (first
  | (at_range;refine wpList_range_own _ rfl _ 72 rfl 37 45 lawK Tryz.underlying72 rawR m _ _ rfl hown ?_;intro W6 hrg6 hg6 hs6)
  | go_in)
 rw [s5] at hrg6 hs6
 have A6:=AtS.start (now:=now) h5.oks hperm hown lawK x5 m5 b5 s5 hg6 hs6
 have hcut6:=s5
 clear hown hap2 hkeys hperm m5 x5 c0 c1 c2
 go_frame
 rw [hcut6]
 clear hcut6 s5 hg6 hs6
 obtain ⟨fs0,hfs0⟩:∃ X9,(flsL t.fs).length=X9:=⟨_,rfl⟩
 rw [hfs0] at hrg6
 clear hfs0
 obtain ⟨m',hm'⟩:∃ m',w.heap.size+1=m':=⟨_,rfl⟩
 obtain ⟨R,hR⟩:∃ R,w.heap.size+2=R:=⟨_,rfl⟩
 rw [hR,hm'] at A6
 rw [hR] at hrg6
 have A6':=A6
 rw [hR]
 simp only [hm']
 have HR:=hidE hR
 have HM:=hidE hm'
 clear hR hm' A6
 go_loopw [5] (fun v wr=>∃ (left:Lit→Bool) (cnt:Nat) (ks:List Ky),wr.ranges Tryz.prog 37 rawR m R fs0 (.map es0) left cnt∧Hid (AtS w t now w.heap.size m' R left v ks wr)) (fun _ wr=>wr.rangeLeft m R)
 case atStart=>exact ⟨_,_,_,hrg6,A6'⟩
 case round =>
  clear A6' hrg6
  obtain ⟨left,cnt,ks,hrg,HA⟩:=hrel
  go_wp2_with (first
   | (at_next;refine wpList_next_ranges _ rfl _ rfl 37 lawK rawR id id (fun key _ _=>⟨key,rfl⟩) (fun v _ _=>⟨v,rfl⟩) m R fs0 _ _ _ rfl hrg ?_ ?_)
   | go_in)
  ·intro _ hl0
   have hA:=HA.out
   obtain ⟨d0,d1,d2⟩:=tab_cells hA.cur
   obtain ⟨y0,y1,y2⟩:=tab_frees hA.cur
   obtain ⟨W4,hW4,x4,o4⟩:=tab_set hA.cur (.int .i64 t.max) (.int .i64 now) (.map (some m'))
   have HW:=hidE hW4
   have HX4:=hidE x4
   have HFIN:Hid (Q (.returned (.tuple #[.agg #[.int .i64 t.max,.int .i64 now,.map (some m')],u5,.nilIface])) W4):=by
    have hm4:=hA.map.block (o4.block _ hA.ne.symm)
    have hp4:=hA.pm
    simp only [hl0,Bool.false_or,Bool.not_false,Bool.and_true] at hm4 hp4
    rw [fls_left] at hm4
    show Q _ _
    rw [HQ.out]
    refine ⟨m',u5,ks,rfl,hm4,hA.lm,OwnN.rebase (OwnN.blk hA.own (fun k hk=>o4.block k ?_)) (by have:=hA.xr;omega),hp4,o4.below (Nat.le_refl _) hA.bel⟩
    have:=OwnN.block hA.own k hk
    have:=hA.xr
    omega
   clear hW4 x4 o4 hA HA hrg hl0
   go_wp2_with fail
   rw [HW.out]
   obtain ⟨e0,e1,e2⟩:=tab_cells HX4.out
   exact bodyPost_ret (v:=.tuple #[.agg #[.int .i64 t.max,.int .i64 now,.map (some m')],u5,.nilIface]) (by simp [results,Tryz.results30,go_sem,e0,e1,e2]) rfl HFIN.out
  ·intro x c kl yd yp w1 cnt1 hkx hlx hv hat hrg1 hlt1 hg1 hs1 hen
   obtain ⟨rfl,rfl⟩:yd=DataW.held c∧yp=[]:=by
    have h1:rawR c=some (DataW.held c,[]):=rfl
    rw [h1] at hv
    simp only [Option.some.injEq,Prod.mk.injEq] at hv
    exact ⟨hv.1.symm,hv.2.symm⟩
   have hml:=at_mem HP.out hat
   obtain ⟨f,hf,hkl,hcv⟩:=fls_find hml
   subst hkl hcv
   have hxk:=lawK.inj hkx (keyK ((HOK.out f hf).first))
   try simp only [id] at hxk
   subst hxk
   try simp only [id] at hen ⊢
   have A1:=HA.out.grown hg1
   obtain ⟨fk,hfk⟩:∃ fk,firstK f.key=fk:=⟨_,rfl⟩
   have HFK:=hidE hfk
   rw [hfk] at hen
   unfold keyV flV at hen
   have HLX:=hidE hlx
   have HF:=hidE hf
   have HRG:=hidE hrg1
   have HS1:=hidE hs1
   clear hkx hv hat hml hlx hf hfk hrg1 hs1
   go_upto_region 9 with fail
   have A2:=A1.step (((Below.refl _ _).alloc (Nat.le_refl _) (.cells #[.int .i64 fk.kind,.int .i64 fk.src,.int .i64 fk.frm,.int .i64 fk.dst,.int .i64 fk.too] 37)).alloc (by simp) (.cells #[.int .i64 f.key.kind,.int .i64 f.key.src,.int .i64 f.key.frm,.int .i64 f.key.dst,.int .i64 f.key.too,.int .i64 f.st,.int .i64 f.unt,.int .i64 f.stp,.int .i64 f.h0,.int .i64 f.h1,.int .i64 f.w0,.int .i64 f.w1,.bool f.d0,.bool f.d1,.int .i64 f.num] 45))
   have k2:=(KyAt.new w1 fk).alloc (.cells #[.int .i64 f.key.kind,.int .i64 f.key.src,.int .i64 f.key.frm,.int .i64 f.key.dst,.int .i64 f.key.too,.int .i64 f.st,.int .i64 f.unt,.int .i64 f.stp,.int .i64 f.h0,.int .i64 f.h1,.int .i64 f.w0,.int .i64 f.w1,.bool f.d0,.bool f.d1,.int .i64 f.num] 45)
   have p2:FlAt ((w1.alloc (.cells #[.int .i64 fk.kind,.int .i64 fk.src,.int .i64 fk.frm,.int .i64 fk.dst,.int .i64 fk.too] 37)).alloc (.cells #[.int .i64 f.key.kind,.int .i64 f.key.src,.int .i64 f.key.frm,.int .i64 f.key.dst,.int .i64 f.key.too,.int .i64 f.st,.int .i64 f.unt,.int .i64 f.stp,.int .i64 f.h0,.int .i64 f.h1,.int .i64 f.w0,.int .i64 f.w1,.bool f.d0,.bool f.d1,.int .i64 f.num] 45)) (w1.heap.size+1) f:=by
    have:=FlAt.new (w1.alloc (.cells #[.int .i64 fk.kind,.int .i64 fk.src,.int .i64 fk.frm,.int .i64 fk.dst,.int .i64 fk.too] 37)) f
    simpa using this
   have r2:=(HRG.out.alloc (.cells #[.int .i64 fk.kind,.int .i64 fk.src,.int .i64 fk.frm,.int .i64 fk.dst,.int .i64 fk.too] 37)).alloc (.cells #[.int .i64 f.key.kind,.int .i64 f.key.src,.int .i64 f.key.frm,.int .i64 f.key.dst,.int .i64 f.key.too,.int .i64 f.st,.int .i64 f.unt,.int .i64 f.stp,.int .i64 f.h0,.int .i64 f.h1,.int .i64 f.w0,.int .i64 f.w1,.bool f.d0,.bool f.d1,.int .i64 f.num] 45)
   have n2:w1.heap.size=wr.heap.size:=HS1.out
   have l2:R < w1.heap.size:=A1.rs
   obtain ⟨W2,hW2⟩:∃ W2,(w1.alloc (.cells #[.int .i64 fk.kind,.int .i64 fk.src,.int .i64 fk.frm,.int .i64 fk.dst,.int .i64 fk.too] 37)).alloc (.cells #[.int .i64 f.key.kind,.int .i64 f.key.src,.int .i64 f.key.frm,.int .i64 f.key.dst,.int .i64 f.key.too,.int .i64 f.st,.int .i64 f.unt,.int .i64 f.stp,.int .i64 f.h0,.int .i64 f.h1,.int .i64 f.w0,.int .i64 f.w1,.bool f.d0,.bool f.d1,.int .i64 f.num] 45)=W2:=⟨_,rfl⟩
   have hnb:∀ k,u5.ownBlock=some k→k < w1.heap.size:=fun k hk=>by
    have:=(OwnN.block HA.out.own k hk).2
    omega
   obtain ⟨B8,hB8⟩:∃ B8,w1.heap.size=B8:=⟨_,rfl⟩
   rw [hB8] at hnb
   have HNB:=hidE hnb
   clear hnb
   rw [hW2] at A2 k2 p2 r2
   rw [hB8] at k2 p2 l2
   rw [hW2,hB8]
   have HA2:=hidE A2
   have HK2:=hidE k2
   have HP2:=hidE p2
   have HR2:=hidE r2
   clear hW2 hB8 n2 A1 A2 r2 hen
   obtain ⟨e0,e1,e2,e3,e4,e5,e6,e7,e8,e9,e10,e11,e12,e13,e14⟩:=p2.cells
   have hcg:=gone_any f now W2
   obtain ⟨gb,hgb⟩:∃ gb,goneB now f=gb:=⟨_,rfl⟩
   have HGB:=hidE hgb
   rw [hgb] at hcg
   unfold flV at hcg
   clear hgb
   go_upto_if 38 with (go_at_call 40;go_must (refine hcg.mono ?_;rintro e W3 ⟨rfl,b3⟩))
   have A3:=HA2.out.step b3
   have k3:=HK2.out.below HK2.out.lt b3
   have p3:=HP2.out.below HP2.out.lt b3
   have r3:=HR2.out.kept (grown_of_below b3) (by simp) (by simp)
   clear hcg k2 p2 HA2 HK2 HP2 HR2 e0 e1 e2 e3 e4 e5 e6 e7 e8 e9 e10 e11 e12 e13 e14
   cases gb
   ·have A4:=A3.stay HOK.out HAP.out HF.out HGB.out
    rw [HFK.out] at A4 r3
    have HR4:=hidE r3
    have HA4:=hidE A4
    clear A3 A4 k3 p3 b3 r3
    go_wp2_with fail
    go_roundw
    case rel=>exact ⟨_,_,_,HR4.out,HA4⟩
    case measure=>rw [HR4.out.left_eq,hrg.left_eq];exact hlt1
   ·obtain ⟨e0,e1,e2,e3,e4,e5,e6,e7,e8,e9,e10,e11,e12,e13,e14⟩:=p3.cells
    obtain ⟨k0,k1,k2',k3',k4'⟩:=k3.cells
    have hkl:=ks_len A3 HLE.out
    have hks:keyOf Tryz.prog 37 (keyV fk)=some (litK (firstK f.key)):=by rw [← HFK.out];exact keyK ((HOK.out f HF.out).first)
    unfold keyV at hks
    have HKS:=hidE hks
    have HA3:=hidE A3
    have HR3:=hidE r3
    have HK3:=hidE k3
    have hbase:R+1≤W3.heap.size:=A3.rs
    have hown3:=A3.own
    clear A3 r3 k3 hks p3
    go_upto_region 11 with (first
     | (at_builtin;refine wpList_append_ky rfl (.tmp 39) (.tmp 42) rfl (R+1) u5 ks rfl hown3 f.key rfl (by omega) hbase ?_;intro v4 W4 hown4 hg4)
     | go_in)
    obtain ⟨c4,m4,b4,r4,hfin⟩:=HA3.out.goes HOK.out HAP.out HF.out HGB.out HLX.out ((Below.refl _ _).alloc (Nat.le_refl _) _) hg4 hown4
    have hno:∀ i,i≤R→some i≠u5.ownBlock:=fun i hi e=>by
     have:=OwnN.block HA3.out.own i e.symm
     omega
    have hmr:m < w.heap.size∧w.heap.size≤m'∧m' < R:=⟨h.map.lt,HA3.out.lm,HA3.out.mr⟩
    have rg4:=(HR3.out.alloc (.cells #[.int .i64 f.key.kind,.int .i64 f.key.src,.int .i64 f.key.frm,.int .i64 f.key.dst,.int .i64 f.key.too] 37)).kept hg4 (hno m (by omega)) (hno R (Nat.le_refl _))
    have kk:=HK3.out.alloc (.cells #[.int .i64 f.key.kind,.int .i64 f.key.src,.int .i64 f.key.frm,.int .i64 f.key.dst,.int .i64 f.key.too] 37)
    have k4:KyAt W4 B8 fk:=by
     unfold KyAt
     rw [hg4.block B8 kk.lt (fun e=>by have:=HNB.out B8 e.symm;omega)]
     exact kk
    obtain ⟨z0,z1,z2⟩:=tab_cells c4
    obtain ⟨q0,q1,q2,q3,q4⟩:=k4.cells
    have HFN:=hidE hfin
    have HRG4:=hidE rg4
    have HMR:=hidE hmr
    clear hown4 hg4 hfin hno hmr rg4 kk k4 c4 b4 r4 hown3 hbase HA3 HR3 HK3 k0 k1 k2' k3' k4' e0 e1 e2 e3 e4 e5 e6 e7 e8 e9 e10 e11 e12 e13 e14
    go_wp2_with (first
     | (at_delete;refine wpList_mapDrop _ rfl _ _ 72 37 rfl 45 lawK Tryz.underlying72 m' _ rfl m4 _ (litK (firstK f.key)) rfl HKS.out ?_;intro W5 hm5 hg5;go_frame)
     | go_in)
    have HA5:=hidE (HFN.out W5 hg5 hm5)
    have hr5:=HRG4.out.kept hg5 (by have:=HMR.out;simp;omega) (by have:=HMR.out;simp;omega)
    clear hm5 hg5 m4 z0 z1 z2 q0 q1 q2 q3 q4
    go_roundw
    case rel=>exact ⟨_,_,_,hr5,HA5⟩
    case measure=>rw [hr5.left_eq,hrg.left_eq];exact hlt1
end Go.Proofs.YtkhheooofcpfdaaGreatDoor
namespace Go.Proofs.YtkhheooofcpfdaaGreatDoor
open Go.RowKit Go.Maps
set_option linter.unusedVariables false
structure HsS (w:World) (b m:Nat) (k:Ky) (fs:List Fl) (X:World):Prop where
 tab:X.cell? ⟨b,2,none⟩=some (.map (some m))
 ky:KyAt X w.heap.size k
 map:MapIs Tryz.prog 37 X m (flsL fs)
 lb:b < w.heap.size
 lm:m < w.heap.size
 bel:Below w.heap.size w X
theorem HsS.step {w X X':World} {b m:Nat} {k:Ky} {fs:List Fl} (h:HsS w b m k fs X) (hb:Below X.heap.size X X'):HsS w b m k fs X' :=
 ⟨(hb.cell (p:=⟨b,2,none⟩) (by have:=h.lb;have:=h.bel.size;show b < _;omega)).trans h.tab,h.ky.below h.ky.lt hb,h.map.block (hb.block _ h.map.lt),h.lb,h.lm,h.bel.trans (hb.mono h.bel.size)⟩
theorem HsS.drew {w X:World} {b m:Nat} {k:Ky} {fs:List Fl} (h:HsS w b m k fs X):HsS w b m k fs X.drew:=⟨h.tab,h.ky,h.map.block rfl,h.lb,h.lm,h.bel.drew⟩
theorem HsS.alloc {w X:World} {b m:Nat} {k:Ky} {fs:List Fl} (h:HsS w b m k fs X) (o:Obj):HsS w b m k fs (X.alloc o):=h.step ((Below.refl _ _).alloc (Nat.le_refl _) _)
theorem hs_of {w:World} {b m:Nat} {k:Ky} {fs:List Fl} {q u:Value} (hl:∀ X,MapIs Tryz.prog 37 X m (flsL fs)→(Instr.lookup 72 (.map (some m)) q true).run Tryz.prog X = .ok u X) {X:World} (h:HsS w b m k fs X) :
  (X.cell? ⟨b,2,none⟩=some (.map (some m))∧X.cell? ⟨w.heap.size,0,none⟩=some (.int .i64 k.kind)∧X.cell? ⟨w.heap.size,1,none⟩=some (.int .i64 k.src)∧X.cell? ⟨w.heap.size,2,none⟩=some (.int .i64 k.frm)∧X.cell? ⟨w.heap.size,3,none⟩=some (.int .i64 k.dst)∧X.cell? ⟨w.heap.size,4,none⟩=some (.int .i64 k.too)∧(Instr.lookup 72 (.map (some m)) q true).run Tryz.prog X = .ok u X)∧HsS w b m k fs X :=
 ⟨⟨h.tab,h.ky.cells.1,h.ky.cells.2.1,h.ky.cells.2.2.1,h.ky.cells.2.2.2.1,h.ky.cells.2.2.2.2,hl X h.map⟩,h⟩
theorem hs_late {w W W3:World} {b m:Nat} {k:Ky} {fs:List Fl} (h:HsS w b m k fs W) (b3:Below W.drew.heap.size W.drew W3):HsS w b m k fs W3:=h.drew.step b3
theorem hs_early {w W W3:World} {b m:Nat} {k:Ky} {fs:List Fl} (h:HsS w b m k fs W) (b3:Below (W.alloc (.cells #[.int .i64 0,.int .i64 0,.int .i64 0,.int .i64 0,.int .i64 0,.int .i64 0,.int .i64 0,.int .i64 0,.int .i64 0,.int .i64 0,.int .i64 0,.int .i64 0,.bool false,.bool false,.int .i64 0] 45)).drew.heap.size (W.alloc (.cells #[.int .i64 0,.int .i64 0,.int .i64 0,.int .i64 0,.int .i64 0,.int .i64 0,.int .i64 0,.int .i64 0,.int .i64 0,.int .i64 0,.int .i64 0,.int .i64 0,.bool false,.bool false,.int .i64 0] 45)).drew W3):HsS w b m k fs W3∧FlAt W3 W.heap.size zeroF:=by
 have z:=FlAt.zero W
 exact ⟨(h.alloc _).drew.step b3,FlAt.below z.drew z.drew.lt b3⟩
theorem HsS.put {w W:World} {b m B:Nat} {k:Ky} {fs:List Fl} (g:Fl) (h:HsS w b m k fs W) (hz:FlAt W B zeroF) (hB:w.heap.size < B):HsS w b m k fs (((((((((((((((W.setCell ⟨B,0,none⟩ (.int .i64 g.key.kind)).setCell ⟨B,1,none⟩ (.int .i64 g.key.src)).setCell ⟨B,2,none⟩ (.int .i64 g.key.frm)).setCell ⟨B,3,none⟩ (.int .i64 g.key.dst)).setCell ⟨B,4,none⟩ (.int .i64 g.key.too)).setCell ⟨B,5,none⟩ (.int .i64 g.st)).setCell ⟨B,6,none⟩ (.int .i64 g.unt)).setCell ⟨B,7,none⟩ (.int .i64 g.stp)).setCell ⟨B,8,none⟩ (.int .i64 g.h0)).setCell ⟨B,9,none⟩ (.int .i64 g.h1)).setCell ⟨B,10,none⟩ (.int .i64 g.w0)).setCell ⟨B,11,none⟩ (.int .i64 g.w1)).setCell ⟨B,12,none⟩ (.bool g.d0)).setCell ⟨B,13,none⟩ (.bool g.d1)).setCell ⟨B,14,none⟩ (.int .i64 g.num)):=by
 obtain ⟨W',e,h1,h2⟩:=hz.store g
 rw [e]
 exact ⟨(h2.cell (p:=⟨b,2,none⟩) (by have:=h.lb;show b≠B;omega)).trans h.tab,by unfold KyAt;rw [h2.block _ (by omega)];exact h.ky,h.map.block (h2.block _ (by have:=h.lm;omega)),h.lb,h.lm,h2.below (by omega) h.bel⟩
set_option maxRecDepth 100000 in
set_option maxHeartbeats 16000000 in
theorem thas_any (b m:Nat) (t:Tb) (k:Ky) (w:World) (h:TbAt w b m t) (hk:KyOk k) :
  Calls Tryz.prog 32 #[.pointer (some ⟨b,0,none⟩),keyV k] w fun e w'=>e = .returned (.bool (hasK t.fs k))∧Below w.heap.size w w':=by
 obtain ⟨g,_,_,hl⟩:=look_has h.oks hk m
 generalize hasK t.fs k=hb at hl ⊢
 have cF:=hidE (fun W=>first_any k W)
 obtain ⟨f,hf⟩:∃ f,firstK k=f:=⟨_,rfl⟩
 rw [hf] at hl cF
 obtain ⟨fs,hfs⟩:∃ fs,t.fs=fs:=⟨_,rfl⟩
 have hS:HsS w b m k fs (w.alloc (.cells #[.int .i64 k.kind,.int .i64 k.src,.int .i64 k.frm,.int .i64 k.dst,.int .i64 k.too] 37)):=by
  have hm:=h.map
  rw [hfs] at hm
  exact ⟨(tab_cells (h.alloc _).tab).2.2,KyAt.new w k,hm.block (Below.heap_alloc _ _ _ hm.lt),h.lt,hm.lt,(Below.refl _ _).alloc (Nat.le_refl _) _⟩
 rw [hfs] at hl
 unfold keyV flV at *
 have HLK:=hidE hl
 clear hl h hk hf hfs
 go_enter Tryz.func32,Tryz.ntmps32
 go_upto_region 1 with fail
 obtain ⟨W1,hW1⟩:∃ W1,w.alloc (.cells #[.int .i64 k.kind,.int .i64 k.src,.int .i64 k.frm,.int .i64 k.dst,.int .i64 k.too] 37)=W1:=⟨_,rfl⟩
 rw [hW1] at hS ⊢
 clear hW1
 have hc0:=cF.out W1.drew
 have hc1:=cF.out (W1.alloc (.cells #[.int .i64 0,.int .i64 0,.int .i64 0,.int .i64 0,.int .i64 0,.int .i64 0,.int .i64 0,.int .i64 0,.int .i64 0,.int .i64 0,.int .i64 0,.int .i64 0,.bool false,.bool false,.int .i64 0] 45)).drew
 have hT:=hs_of HLK.out hS
 have nn1:=World.new_ne W1 _ hS.tab
 have nn2:=World.new_ne W1 _ hS.ky.cells.1
 go_region_held3 (fun X=>(X.cell? ⟨b,2,none⟩=some (.map (some m))∧X.cell? ⟨w.heap.size,0,none⟩=some (.int .i64 k.kind)∧X.cell? ⟨w.heap.size,1,none⟩=some (.int .i64 k.src)∧X.cell? ⟨w.heap.size,2,none⟩=some (.int .i64 k.frm)∧X.cell? ⟨w.heap.size,3,none⟩=some (.int .i64 k.dst)∧X.cell? ⟨w.heap.size,4,none⟩=some (.int .i64 k.too)∧(Instr.lookup 72 (.map (some m)) (.agg #[.int .i64 f.kind,.int .i64 f.src,.int .i64 f.frm,.int .i64 f.dst,.int .i64 f.too]) true).run Tryz.prog X = .ok (.tuple #[.agg #[.int .i64 g.key.kind,.int .i64 g.key.src,.int .i64 g.key.frm,.int .i64 g.key.dst,.int .i64 g.key.too,.int .i64 g.st,.int .i64 g.unt,.int .i64 g.stp,.int .i64 g.h0,.int .i64 g.h1,.int .i64 g.w0,.int .i64 g.w1,.bool g.d0,.bool g.d1,.int .i64 g.num],.bool hb]) X)∧HsS w b m k fs X) (with_reducible first|assumption|exact hs_of HLK.out hS|exact hs_of HLK.out (HsS.drew (And.right (by assumption)))|exact hs_of HLK.out (HsS.alloc (And.right (by assumption)) _)|exact hs_of HLK.out (HsS.drew (HsS.alloc (And.right (by assumption)) _))|exact hs_of HLK.out (HsS.drew hS)|exact hs_of HLK.out (HsS.drew (HsS.alloc hS _))|exact hs_of HLK.out (HsS.alloc hS _)) (first
  | (go_at_call 37;with_reducible refine hc0.mono ?_;rintro e W3 ⟨rfl,b3⟩;have h3:=hs_late hS b3;have H3:=hidE h3;have hT3:=hs_of HLK.out h3;have n31:=World.new_ne W3 _ h3.tab;have n32:=World.new_ne W3 _ h3.ky.cells.1)
  | (go_at_call 37;with_reducible refine hc1.mono ?_;rintro e W3 ⟨rfl,b3⟩;obtain ⟨h3,hz3⟩:=hs_early hS b3;have H3:=hidE h3;have HZ3:=hidE hz3;have hT3:=hs_of HLK.out h3;have hT4:=hs_of HLK.out (HsS.put g h3 hz3 hS.ky.lt);obtain ⟨y0,y1,y2,y3,y4,y5,y6,y7,y8,y9,y10,y11,y12,y13,y14⟩:=hz3.frees;obtain ⟨d0,d1,d2,d3,d4,d5,d6,d7,d8,d9,d10,d11,d12,d13,d14⟩:=zero_cells hz3;clear hz3))
 ·clear hS hT hT3 hc0 hc1
  go_wp2_with fail
  go_ret
  exact ⟨rfl,H3.out.bel.alloc H3.out.bel.size _⟩
 ·clear hS hT hT3 hc0 hc1
  go_wp2_with fail
  go_ret
  exact ⟨rfl,H3.out.bel.alloc H3.out.bel.size _⟩
 ·obtain ⟨W4,hW4,_,o4⟩:=HZ3.out.store g
  have HB:=hidE (o4.below hS.bel.size H3.out.bel)
  rw [← hW4] at HB
  clear hS hT hT3 hT4 hc0 hc1 hW4 o4 y0 y1 y2 y3 y4 y5 y6 y7 y8 y9 y10 y11 y12 y13 y14 d0 d1 d2 d3 d4 d5 d6 d7 d8 d9 d10 d11 d12 d13 d14
  go_wp2_with fail
  go_ret
  exact ⟨rfl,HB.out⟩
end Go.Proofs.YtkhheooofcpfdaaGreatDoor
namespace Go.Proofs.YtkhheooofcpfdaaGreatDoor
open Go.RowKit Go.Maps
set_option linter.unusedVariables false
set_option maxRecDepth 100000 in
theorem same_lit {a b:Ky} (ha:KyOk a) (hb:KyOk b):(litK a).sameKey (litK b)=decide (a=b):=by
 by_cases h:a=b
 ·subst h
  rw [decide_eq_true rfl]
  have h1:=keyK ha
  have hk:=lawK.key h1
  clear h1
  generalize litK a=q at hk ⊢
  exact WideAt.sameKey_self hk
 ·rw [decide_eq_false h]
  exact sameKey_ne (fun e=>h (litK_inj ha hb e))
def tputL (f:Fl) (fs:List Fl):List Fl:=f :: fs.filter fun g=>!decide (firstK g.key=firstK f.key)
theorem tputL_new {f:Fl} {fs:List Fl} (h:hasK fs f.key=false):tputL f fs=f :: fs:=by
 unfold tputL
 rw [List.filter_eq_self.2]
 intro g hg
 simpa using hasK_not h g hg
theorem fls_put {f:Fl} {fs:List Fl} (hf:KyOk f.key) (hs:∀ g ∈ fs,KyOk g.key):(litK (firstK f.key),flV f) :: (flsL fs).filter (fun x=>!x.1.sameKey (litK (firstK f.key)))=flsL (tputL f fs):=by
 unfold tputL flsL
 rw [List.map_cons,List.filter_map]
 have e:fs.filter ((fun x:Lit × Value=>!x.1.sameKey (litK (firstK f.key))) ∘ fun f=>(litK (firstK f.key),flV f))=fs.filter (fun g=>!decide (firstK g.key=firstK f.key)):=List.filter_congr (fun g hg=>by
  simp only [Function.comp]
  rw [same_lit (hs g hg).first hf.first])
 rw [e]
theorem fls_len (fs:List Fl):(flsL fs).length=fs.length:=by unfold flsL;rw [List.length_map]
theorem bel_dr {W W':World} (h:Below W.drew.heap.size W.drew W'):Below W.heap.size W W':=⟨h.os,h.tape,h.output,h.size,h.block⟩
theorem fl5 {W:World} {b:Nat} {f:Fl} (h:FlAt W b f):W.cell? ⟨b,0,none⟩=some (.int .i64 f.key.kind)∧W.cell? ⟨b,1,none⟩=some (.int .i64 f.key.src)∧W.cell? ⟨b,2,none⟩=some (.int .i64 f.key.frm)∧W.cell? ⟨b,3,none⟩=some (.int .i64 f.key.dst)∧W.cell? ⟨b,4,none⟩=some (.int .i64 f.key.too) :=
 ⟨h.cells.1,h.cells.2.1,h.cells.2.2.1,h.cells.2.2.2.1,h.cells.2.2.2.2.1⟩
set_option maxRecDepth 100000 in
set_option maxHeartbeats 16000000 in
theorem put_full (b m:Nat) (t:Tb) (f:Fl) (w:World) (h:TbAt w b m t) (hf:KyOk f.key) (hh:hasK t.fs f.key=false) (hl:t.max≤(t.fs.length:Int)) :
  Calls Tryz.prog 33 #[.pointer (some ⟨b,0,none⟩),flV f] w fun e w'=>e = .returned (.iface 71 (.int .i64 4))∧Below w.heap.size w w':=by
 have h1:=h.alloc (.cells #[.int .i64 f.key.kind,.int .i64 f.key.src,.int .i64 f.key.frm,.int .i64 f.key.dst,.int .i64 f.key.too,.int .i64 f.st,.int .i64 f.unt,.int .i64 f.stp,.int .i64 f.h0,.int .i64 f.h1,.int .i64 f.w0,.int .i64 f.w1,.bool f.d0,.bool f.d1,.int .i64 f.num] 45)
 have p1:=FlAt.new w f
 have b1:Below w.heap.size w (w.alloc (.cells #[.int .i64 f.key.kind,.int .i64 f.key.src,.int .i64 f.key.frm,.int .i64 f.key.dst,.int .i64 f.key.too,.int .i64 f.st,.int .i64 f.unt,.int .i64 f.stp,.int .i64 f.h0,.int .i64 f.h1,.int .i64 f.w0,.int .i64 f.w1,.bool f.d0,.bool f.d1,.int .i64 f.num] 45)):=(Below.refl _ _).alloc (Nat.le_refl _) _
 obtain ⟨W1,hW1⟩:∃ W1,w.alloc (.cells #[.int .i64 f.key.kind,.int .i64 f.key.src,.int .i64 f.key.frm,.int .i64 f.key.dst,.int .i64 f.key.too,.int .i64 f.st,.int .i64 f.unt,.int .i64 f.stp,.int .i64 f.h0,.int .i64 f.h1,.int .i64 f.w0,.int .i64 f.w1,.bool f.d0,.bool f.d1,.int .i64 f.num] 45)=W1:=⟨_,rfl⟩
 rw [hW1] at h1 p1 b1
 obtain ⟨n,hn⟩:∃ n,t.fs.length=n:=⟨_,rfl⟩
 have hlen:∀ (u:Ext W1) (ty:TypeId),(Builtin.len_ #[72] ty #[.map (some m)]).run Tryz.prog u.W = .ok (.int .i64 (n:Int)) u.W:=fun u ty=>by
  have:=(h1.below u.h).map.len Tryz.underlying72 ty
  rw [fls_len,hn] at this
  exact this
 have hcH:∀ u:Ext W1,Calls Tryz.prog 32 #[.pointer (some ⟨b,0,none⟩),.agg #[.int .i64 f.key.kind,.int .i64 f.key.src,.int .i64 f.key.frm,.int .i64 f.key.dst,.int .i64 f.key.too]] u.W fun e w'=>e = .returned (.bool false)∧∃ u':Ext W1,w'=u'.W:=fun u=>(thas_any b m t f.key u.W (h1.below u.h) hf).mono fun e w' ⟨he,hb⟩=>⟨by rw [he,hh],⟨w',u.h.trans (hb.mono u.h.size)⟩,rfl⟩
 obtain ⟨c0,c1,c2⟩:=tab_cells h1.tab
 obtain ⟨e0,e1,e2,e3,e4⟩:=fl5 p1
 have c0:=Ext.cell c0
 have c2:=Ext.cell c2
 have e0:=Ext.cell e0
 have e1:=Ext.cell e1
 have e2:=Ext.cell e2
 have e3:=Ext.cell e3
 have e4:=Ext.cell e4
 rw [hn] at hl
 have hl':(n:Int) ≥ t.max:=hl
 have HB:=hidE b1
 unfold flV at *
 clear h h1 p1 b1 hh hn hf c1 hl
 go_enter Tryz.func33,Tryz.ntmps33
 go_upto_region 1 with fail
 try rw [hW1]
 clear hW1
 refine wp_region_ext (by kernel_rfl) (by kernel_rfl) ?_
 repeat (go_big_quiet_step ((go_at_call 32;exact hcH _)))
 refine wpQuiet_nil ?_
 rintro _ ⟨u,rfl⟩
 have HF:=hidE (HB.out.trans (u.h.mono HB.out.size))
 obtain ⟨W2,hW2⟩:∃ X9,u.W=X9:=⟨_,rfl⟩
 rw [hW2] at HF ⊢
 clear hW2 hcH hlen c0 c2 e0 e1 e2 e3 e4
 go_wp2_with fail
 go_ret
 exact ⟨rfl,HF.out⟩
set_option maxRecDepth 100000 in
set_option maxHeartbeats 16000000 in
theorem put_ok (b m:Nat) (t:Tb) (f:Fl) (w:World) (h:TbAt w b m t) (hf:KyOk f.key) (hl:hasK t.fs f.key=true∨¬ t.max≤(t.fs.length:Int)) (hx:t.fs.length≤1000) :
  Calls Tryz.prog 33 #[.pointer (some ⟨b,0,none⟩),flV f] w fun e w'=>e = .returned .nilIface∧TbAt w' b m { t with fs:=tputL f t.fs }∧w.grownBy w' (some m):=by
 have h1:=h.alloc (.cells #[.int .i64 f.key.kind,.int .i64 f.key.src,.int .i64 f.key.frm,.int .i64 f.key.dst,.int .i64 f.key.too,.int .i64 f.st,.int .i64 f.unt,.int .i64 f.stp,.int .i64 f.h0,.int .i64 f.h1,.int .i64 f.w0,.int .i64 f.w1,.bool f.d0,.bool f.d1,.int .i64 f.num] 45)
 have p1:=FlAt.new w f
 have b1:Below w.heap.size w (w.alloc (.cells #[.int .i64 f.key.kind,.int .i64 f.key.src,.int .i64 f.key.frm,.int .i64 f.key.dst,.int .i64 f.key.too,.int .i64 f.st,.int .i64 f.unt,.int .i64 f.stp,.int .i64 f.h0,.int .i64 f.h1,.int .i64 f.w0,.int .i64 f.w1,.bool f.d0,.bool f.d1,.int .i64 f.num] 45)):=(Below.refl _ _).alloc (Nat.le_refl _) _
 obtain ⟨W1,hW1⟩:∃ W1,w.alloc (.cells #[.int .i64 f.key.kind,.int .i64 f.key.src,.int .i64 f.key.frm,.int .i64 f.key.dst,.int .i64 f.key.too,.int .i64 f.st,.int .i64 f.unt,.int .i64 f.stp,.int .i64 f.h0,.int .i64 f.h1,.int .i64 f.w0,.int .i64 f.w1,.bool f.d0,.bool f.d1,.int .i64 f.num] 45)=W1:=⟨_,rfl⟩
 rw [hW1] at h1 p1 b1
 obtain ⟨n,hn⟩:∃ n,t.fs.length=n:=⟨_,rfl⟩
 have hlen:∀ (u:Ext W1) (ty:TypeId),(Builtin.len_ #[72] ty #[.map (some m)]).run Tryz.prog u.W = .ok (.int .i64 (n:Int)) u.W:=fun u ty=>by
  have:=(h1.below u.h).map.len Tryz.underlying72 ty
  rw [fls_len,hn] at this
  exact this
 obtain ⟨hb,hhb⟩:∃ hb,hasK t.fs f.key=hb:=⟨_,rfl⟩
 have hcH:∀ u:Ext W1,Calls Tryz.prog 32 #[.pointer (some ⟨b,0,none⟩),.agg #[.int .i64 f.key.kind,.int .i64 f.key.src,.int .i64 f.key.frm,.int .i64 f.key.dst,.int .i64 f.key.too]] u.W fun e w'=>e = .returned (.bool hb)∧∃ u':Ext W1,w'=u'.W:=fun u=>(thas_any b m t f.key u.W (h1.below u.h) hf).mono fun e w' ⟨he,hb⟩=>⟨by rw [he,hhb],⟨w',u.h.trans (hb.mono u.h.size)⟩,rfl⟩
 have hfin:Hid (∀ W,Below W1.heap.size W1 W→∃ W',(Instr.mapUpdate 72 (.map (some m)) (keyV (firstK f.key)) (flV f)).run Tryz.prog W = .ok () W'∧TbAt W' b m { t with fs:=tputL f t.fs }∧w.grownBy W' (some m)∧FlAt W' w.heap.size f):=fun W hW=>by
  have h2:=h1.below hW
  have p2:=p1.below p1.lt hW
  obtain ⟨W',hr,hm,hg⟩:=h2.map.store lawK Tryz.underlying72 (by rw [fls_len,hn];unfold maxLen;omega) (keyK hf.first) (flV f)
  rw [fls_put hf h.oks] at hm
  have hbm:b≠m:=h.ne
  refine ⟨W',hr,⟨(hg.block b h2.lt (by simpa using hbm)).trans h2.tab,hm,fun g hg'=>?_⟩,⟨?_,?_,?_,?_,fun i hi hne=>?_⟩,?_⟩
  ·rcases List.mem_cons.1 hg' with rfl|hg'
   ·exact hf
   ·exact h.oks g (List.mem_filter.1 hg').1
  ·exact hg.os.trans (hW.os.trans b1.os)
  ·exact hg.tape.trans (hW.tape.trans b1.tape)
  ·exact hg.output.trans (hW.output.trans b1.output)
  ·exact Nat.le_trans b1.size (Nat.le_trans hW.size hg.size)
  ·rw [hg.block i (by have:=b1.size;have:=hW.size;omega) hne,hW.block i (by have:=b1.size;omega),b1.block i hi]
  ·unfold FlAt
   rw [hg.block _ p2.lt (by have:=h.map.lt;simp;omega)];exact p2
 have cF:=hidE (fun W=>first_any f.key W)
 obtain ⟨fk,hfk⟩:∃ fk,firstK f.key=fk:=⟨_,rfl⟩
 rw [hfk] at cF hfin
 obtain ⟨c0,c1,c2⟩:=tab_cells h1.tab
 obtain ⟨e0,e1,e2,e3,e4⟩:=fl5 p1
 have HT:=hidE h1
 have HP:=hidE p1
 have c0:=Ext.cell c0
 have c2:=Ext.cell c2
 have e0:=Ext.cell e0
 have e1:=Ext.cell e1
 have e2:=Ext.cell e2
 have e3:=Ext.cell e3
 have e4:=Ext.cell e4
 obtain ⟨Q,hQ⟩:∃ Q:Ending→World→Prop,Q=fun e w'=>e = .returned .nilIface∧TbAt w' b m { t with fs:=tputL f t.fs }∧w.grownBy w' (some m):=⟨_,rfl⟩
 have HQ:Hid (∀ w',TbAt w' b m { t with fs:=tputL f t.fs }∧w.grownBy w' (some m)→Q (.returned .nilIface) w'):=by rw [hQ];exact fun _ h=>⟨rfl,h⟩
 rw [← hQ]
 rw [hn,hhb] at hl
 unfold flV keyV at *
 clear h h1 p1 b1 hn hf c1 hhb hfk hx hQ
 go_enter Tryz.func33,Tryz.ntmps33
 go_upto_region 1 with fail
 try rw [hW1]
 clear hW1
 go_cut [21] (fun v wr=>v = .bool false∧Hid (Below W1.heap.size W1 wr))
 case first =>
  cases hb
  ·have hl':¬ (n:Int) ≥ t.max:=by (rcases hl with h|h;(cases h);omega)
   clear hl
   refine wp_region_ext (by kernel_rfl) (by kernel_rfl) ?_
   repeat (go_big_quiet_step ((go_at_call 32;exact hcH _)))
   refine wpQuiet_nil ?_
   rintro _ ⟨u,rfl⟩
   have HF:=hidE u.h
   obtain ⟨W2,hW2⟩:∃ X9,u.W=X9:=⟨_,rfl⟩
   rw [hW2] at HF ⊢
   clear hW2 hcH hlen c0 c2 e0 e1 e2 e3 e4
   go_wp2_with fail
   go_meet
   case rel=>exact ⟨rfl,HF⟩
  ·clear hl
   refine wp_region_ext (by kernel_rfl) (by kernel_rfl) ?_
   repeat (go_big_quiet_step ((go_at_call 32;exact hcH _)))
   refine wpQuiet_nil ?_
   rintro _ ⟨u,rfl⟩
   have HF:=hidE u.h
   obtain ⟨W2,hW2⟩:∃ X9,u.W=X9:=⟨_,rfl⟩
   rw [hW2] at HF ⊢
   clear hW2 hcH hlen c0 c2 e0 e1 e2 e3 e4
   go_wp2_with fail
   go_meet
   case rel=>exact ⟨rfl,HF⟩
 case rest =>
 obtain ⟨rfl,HF⟩:=hcut
 clear hcH hlen c0 c2 e0 e1 e2 e3 e4 hl
 obtain ⟨W2,hW2⟩:∃ X9,wc=X9:=⟨_,rfl⟩
 rw [hW2] at HF ⊢
 clear hW2
 have t2:=(tab_cells (HT.out.below HF.out).tab).2.2
 obtain ⟨e0,e1,e2,e3,e4,e5,e6,e7,e8,e9,e10,e11,e12,e13,e14⟩:=(HP.out.below HP.out.lt HF.out).cells
 have hc0:=cF.out W2.drew
 go_upto_region 3 with fail
 have hS:W2.cell? ⟨b,2,none⟩=some (.map (some m))∧W2.cell? ⟨w.heap.size,0,none⟩=some (.int .i64 f.key.kind)∧W2.cell? ⟨w.heap.size,1,none⟩=some (.int .i64 f.key.src)∧W2.cell? ⟨w.heap.size,2,none⟩=some (.int .i64 f.key.frm)∧W2.cell? ⟨w.heap.size,3,none⟩=some (.int .i64 f.key.dst)∧W2.cell? ⟨w.heap.size,4,none⟩=some (.int .i64 f.key.too)∧W2.cell? ⟨w.heap.size,5,none⟩=some (.int .i64 f.st)∧W2.cell? ⟨w.heap.size,6,none⟩=some (.int .i64 f.unt)∧W2.cell? ⟨w.heap.size,7,none⟩=some (.int .i64 f.stp)∧W2.cell? ⟨w.heap.size,8,none⟩=some (.int .i64 f.h0)∧W2.cell? ⟨w.heap.size,9,none⟩=some (.int .i64 f.h1)∧W2.cell? ⟨w.heap.size,10,none⟩=some (.int .i64 f.w0)∧W2.cell? ⟨w.heap.size,11,none⟩=some (.int .i64 f.w1)∧W2.cell? ⟨w.heap.size,12,none⟩=some (.bool f.d0)∧W2.cell? ⟨w.heap.size,13,none⟩=some (.bool f.d1)∧W2.cell? ⟨w.heap.size,14,none⟩=some (.int .i64 f.num):=⟨t2,e0,e1,e2,e3,e4,e5,e6,e7,e8,e9,e10,e11,e12,e13,e14⟩
 go_region_held3 (fun X=>X.cell? ⟨b,2,none⟩=some (.map (some m))∧X.cell? ⟨w.heap.size,0,none⟩=some (.int .i64 f.key.kind)∧X.cell? ⟨w.heap.size,1,none⟩=some (.int .i64 f.key.src)∧X.cell? ⟨w.heap.size,2,none⟩=some (.int .i64 f.key.frm)∧X.cell? ⟨w.heap.size,3,none⟩=some (.int .i64 f.key.dst)∧X.cell? ⟨w.heap.size,4,none⟩=some (.int .i64 f.key.too)∧X.cell? ⟨w.heap.size,5,none⟩=some (.int .i64 f.st)∧X.cell? ⟨w.heap.size,6,none⟩=some (.int .i64 f.unt)∧X.cell? ⟨w.heap.size,7,none⟩=some (.int .i64 f.stp)∧X.cell? ⟨w.heap.size,8,none⟩=some (.int .i64 f.h0)∧X.cell? ⟨w.heap.size,9,none⟩=some (.int .i64 f.h1)∧X.cell? ⟨w.heap.size,10,none⟩=some (.int .i64 f.w0)∧X.cell? ⟨w.heap.size,11,none⟩=some (.int .i64 f.w1)∧X.cell? ⟨w.heap.size,12,none⟩=some (.bool f.d0)∧X.cell? ⟨w.heap.size,13,none⟩=some (.bool f.d1)∧X.cell? ⟨w.heap.size,14,none⟩=some (.int .i64 f.num)) (with_reducible first|assumption|go_keep) (first
  | (go_at_call 37;with_reducible refine hc0.mono ?_;rintro e W3 ⟨rfl,b3⟩;have hB3:=HF.out.trans ((bel_dr b3).mono HF.out.size);obtain ⟨W4,hr4,ht4,hg4,hp4⟩:=hfin.out W3 hB3;have hS3:W3.cell? ⟨b,2,none⟩=some (.map (some m))∧W3.cell? ⟨w.heap.size,0,none⟩=some (.int .i64 f.key.kind)∧W3.cell? ⟨w.heap.size,1,none⟩=some (.int .i64 f.key.src)∧W3.cell? ⟨w.heap.size,2,none⟩=some (.int .i64 f.key.frm)∧W3.cell? ⟨w.heap.size,3,none⟩=some (.int .i64 f.key.dst)∧W3.cell? ⟨w.heap.size,4,none⟩=some (.int .i64 f.key.too)∧W3.cell? ⟨w.heap.size,5,none⟩=some (.int .i64 f.st)∧W3.cell? ⟨w.heap.size,6,none⟩=some (.int .i64 f.unt)∧W3.cell? ⟨w.heap.size,7,none⟩=some (.int .i64 f.stp)∧W3.cell? ⟨w.heap.size,8,none⟩=some (.int .i64 f.h0)∧W3.cell? ⟨w.heap.size,9,none⟩=some (.int .i64 f.h1)∧W3.cell? ⟨w.heap.size,10,none⟩=some (.int .i64 f.w0)∧W3.cell? ⟨w.heap.size,11,none⟩=some (.int .i64 f.w1)∧W3.cell? ⟨w.heap.size,12,none⟩=some (.bool f.d0)∧W3.cell? ⟨w.heap.size,13,none⟩=some (.bool f.d1)∧W3.cell? ⟨w.heap.size,14,none⟩=some (.int .i64 f.num):=⟨(tab_cells (HT.out.below hB3).tab).2.2,(HP.out.below HP.out.lt hB3).cells⟩;have hS4:W4.cell? ⟨b,2,none⟩=some (.map (some m))∧W4.cell? ⟨w.heap.size,0,none⟩=some (.int .i64 f.key.kind)∧W4.cell? ⟨w.heap.size,1,none⟩=some (.int .i64 f.key.src)∧W4.cell? ⟨w.heap.size,2,none⟩=some (.int .i64 f.key.frm)∧W4.cell? ⟨w.heap.size,3,none⟩=some (.int .i64 f.key.dst)∧W4.cell? ⟨w.heap.size,4,none⟩=some (.int .i64 f.key.too)∧W4.cell? ⟨w.heap.size,5,none⟩=some (.int .i64 f.st)∧W4.cell? ⟨w.heap.size,6,none⟩=some (.int .i64 f.unt)∧W4.cell? ⟨w.heap.size,7,none⟩=some (.int .i64 f.stp)∧W4.cell? ⟨w.heap.size,8,none⟩=some (.int .i64 f.h0)∧W4.cell? ⟨w.heap.size,9,none⟩=some (.int .i64 f.h1)∧W4.cell? ⟨w.heap.size,10,none⟩=some (.int .i64 f.w0)∧W4.cell? ⟨w.heap.size,11,none⟩=some (.int .i64 f.w1)∧W4.cell? ⟨w.heap.size,12,none⟩=some (.bool f.d0)∧W4.cell? ⟨w.heap.size,13,none⟩=some (.bool f.d1)∧W4.cell? ⟨w.heap.size,14,none⟩=some (.int .i64 f.num):=⟨(tab_cells ht4.tab).2.2,hp4.cells⟩;have HK:=hidE (HQ.out _ (And.intro ht4 hg4));clear hB3 ht4 hg4 hp4))
 clear hS hS3 hS4 hc0 hr4 t2 e0 e1 e2 e3 e4 e5 e6 e7 e8 e9 e10 e11 e12 e13 e14
 go_wp2_with fail
 exact HK.out
end Go.Proofs.YtkhheooofcpfdaaGreatDoor
