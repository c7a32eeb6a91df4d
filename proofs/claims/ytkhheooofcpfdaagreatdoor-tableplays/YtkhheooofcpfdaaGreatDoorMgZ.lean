/- What the reference's later and Get return. -/
import Derived.Test.YtkhheooofcpfdaaGreatDoorMgY
import Derived.Deep.RegionHeld3
import Derived.Test.YtkhheooofcpfdaaGreatDoorMgR
import Derived.Test.YtkhheooofcpfdaaGreatDoorMgQ
namespace Go.Proofs.YtkhheooofcpfdaaGreatDoor
open Go.RowKit Go.Maps
set_option linter.unusedVariables false
set_option maxRecDepth 100000 in
set_option maxHeartbeats 16000000 in
theorem later_any (b:Nat) (t:Tb) (va:Value) (now:Int) (w:World) (h:LIn w b t va) (hz:timE t now=0) (hlen:t.fs.length≤1000) :
  Calls Tryz.prog 27 #[.pointer (some ⟨b,0,none⟩),.int .i64 now] w fun e w'=>(∃ X v',e = .returned (.pointer (some ⟨X,0,none⟩))∧LIn w' X { max:=t.max,now:=now,fs:=leftL now t.fs } v'∧w.heap.size≤X∧v'.ownBlock≠some X)∧Below w.heap.size w w':=by
 obtain ⟨aa,c,hv⟩:=OwnN.len h.own
 obtain ⟨N,hN⟩:∃ N,t.fs.length=N:=⟨_,rfl⟩
 rw [hN] at hv
 subst hv
 obtain ⟨q0,q1,q2⟩:=l_cells h.tab
 have hX:LIn (w.alloc (.cells #[.int .i64 t.max,.int .i64 t.now,.slice aa N c] 33)) w.heap.size t (.slice aa N c):=⟨heap_alloc_new w _,OwnN.alloc h.own _⟩
 have hvX:(Value.slice aa N c).ownBlock≠some w.heap.size:=fun e=>by have:=(OwnN.block h.own _ e).2;omega
 have hb1:Below w.heap.size w (w.alloc (.cells #[.int .i64 t.max,.int .i64 t.now,.slice aa N c] 33)):=(Below.refl _ _).alloc (Nat.le_refl _) _
 have hXd:LIn (w.alloc (.cells #[.int .i64 t.max,.int .i64 t.now,.slice aa N c] 33)).drew w.heap.size t (.slice aa N c):=⟨hX.tab,OwnN.blk hX.own (fun _ _=>rfl)⟩
 have hc:=ltick_ok w.heap.size t (.slice aa N c) now (w.alloc (.cells #[.int .i64 t.max,.int .i64 t.now,.slice aa N c] 33)).drew hXd hz hlen hvX
 have hbd:Below w.heap.size w (w.alloc (.cells #[.int .i64 t.max,.int .i64 t.now,.slice aa N c] 33)).drew:=hb1.drew
 obtain ⟨Q,hQ⟩:∃ Q:Ending→World→Prop,Q=fun e w'=>(∃ X v',e = .returned (.pointer (some ⟨X,0,none⟩))∧LIn w' X { max:=t.max,now:=now,fs:=leftL now t.fs } v'∧w.heap.size≤X∧v'.ownBlock≠some X)∧Below w.heap.size w w':=⟨_,rfl⟩
 have HQ:=hidE hQ
 rw [← hQ]
 have hsd:(w.alloc (.cells #[.int .i64 t.max,.int .i64 t.now,.slice aa N c] 33)).drew.heap.size=w.heap.size+1:=by show (w.alloc (.cells #[.int .i64 t.max,.int .i64 t.now,.slice aa N c] 33)).heap.size=_;simp
 have HFIN:Hid (∀ W9,(∃ v',LIn W9 w.heap.size { max:=t.max,now:=now,fs:=leftL now t.fs } v'∧∀ k,v'.ownBlock=some k→(w.alloc (.cells #[.int .i64 t.max,.int .i64 t.now,.slice aa N c] 33)).drew.heap.size≤k)→(w.alloc (.cells #[.int .i64 t.max,.int .i64 t.now,.slice aa N c] 33)).drew.grownBy W9 (some w.heap.size)→Q (.returned (.pointer (some ⟨w.heap.size,0,none⟩))) W9):=fun W9 hh hg=>by
  obtain ⟨v',hl,hk⟩:=hh
  show Q _ _
  rw [HQ.out]
  refine ⟨⟨w.heap.size,v',rfl,hl,Nat.le_refl _,fun e=>?_⟩,hbd.grown hg (by rw [hsd];omega) (fun j hj=>by cases hj;exact Nat.le_refl _)⟩
  have:=hk _ e
  rw [hsd] at this
  omega
 clear hQ h hz hlen hN hX hXd hvX hb1 hbd
 have hS:w.cell? ⟨b,0,none⟩=some (.int .i64 t.max)∧w.cell? ⟨b,1,none⟩=some (.int .i64 t.now)∧w.cell? ⟨b,2,none⟩=some (.slice aa N c):=⟨q0,q1,q2⟩
 have nn:=World.new_ne w _ q0
 clear q0 q1 q2
 go_enter Tryz.func27,Tryz.ntmps27
 go_upto_region 1 with fail
 go_region_held3 (fun X=>X.cell? ⟨b,0,none⟩=some (.int .i64 t.max)∧X.cell? ⟨b,1,none⟩=some (.int .i64 t.now)∧X.cell? ⟨b,2,none⟩=some (.slice aa N c)) (with_reducible first|assumption|go_keep) (fail)
 clear hS
 go_upto_region 3 with (go_at_call 16;go_must (refine hc.mono ?_;rintro e W2 ⟨⟨v1,ks,rfl,ok1,hk1⟩,hl,hg⟩))
 have HF:=hidE (HFIN.out W2 hl hg)
 clear hc ok1 hk1 hl hg HFIN
 go_wp2_with fail
 first|exact HF.out|(simp;exact HF.out)
set_option maxRecDepth 100000 in
set_option maxHeartbeats 16000000 in
theorem lget_any (b:Nat) (t:Tb) (va:Value) (k:Ky) (w:World) (h:LIn w b t va) (hlen:t.fs.length≤1000) :
  Calls Tryz.prog 19 #[.pointer (some ⟨b,0,none⟩),keyV k] w fun e w'=>e = .returned (.tuple #[flV (getK t.fs k),.bool (hasK t.fs k)])∧Below w.heap.size w w':=by
 have h1:=(h.alloc (.cells #[.int .i64 k.kind,.int .i64 k.src,.int .i64 k.frm,.int .i64 k.dst,.int .i64 k.too] 37)).alloc (.cells #[.int .i64 0,.int .i64 0,.int .i64 0,.int .i64 0,.int .i64 0,.int .i64 0,.int .i64 0,.int .i64 0,.int .i64 0,.int .i64 0,.int .i64 0,.int .i64 0,.bool false,.bool false,.int .i64 0] 45)
 have k1:=(KyAt.new w k).alloc (.cells #[.int .i64 0,.int .i64 0,.int .i64 0,.int .i64 0,.int .i64 0,.int .i64 0,.int .i64 0,.int .i64 0,.int .i64 0,.int .i64 0,.int .i64 0,.int .i64 0,.bool false,.bool false,.int .i64 0] 45)
 have r1:FlAt ((w.alloc (.cells #[.int .i64 k.kind,.int .i64 k.src,.int .i64 k.frm,.int .i64 k.dst,.int .i64 k.too] 37)).alloc (.cells #[.int .i64 0,.int .i64 0,.int .i64 0,.int .i64 0,.int .i64 0,.int .i64 0,.int .i64 0,.int .i64 0,.int .i64 0,.int .i64 0,.int .i64 0,.int .i64 0,.bool false,.bool false,.int .i64 0] 45)) (w.heap.size+1) zeroF:=by
  have z:=FlAt.zero (w.alloc (.cells #[.int .i64 k.kind,.int .i64 k.src,.int .i64 k.frm,.int .i64 k.dst,.int .i64 k.too] 37))
  rw [show (w.alloc (.cells #[.int .i64 k.kind,.int .i64 k.src,.int .i64 k.frm,.int .i64 k.dst,.int .i64 k.too] 37)).heap.size=w.heap.size+1 by simp] at z
  exact z
 have b1:Below w.heap.size w ((w.alloc (.cells #[.int .i64 k.kind,.int .i64 k.src,.int .i64 k.frm,.int .i64 k.dst,.int .i64 k.too] 37)).alloc (.cells #[.int .i64 0,.int .i64 0,.int .i64 0,.int .i64 0,.int .i64 0,.int .i64 0,.int .i64 0,.int .i64 0,.int .i64 0,.int .i64 0,.int .i64 0,.int .i64 0,.bool false,.bool false,.int .i64 0] 45)):=((Below.refl _ _).alloc (Nat.le_refl _) _).alloc (by simp) _
 obtain ⟨W1,hW1⟩:∃ W1,(w.alloc (.cells #[.int .i64 k.kind,.int .i64 k.src,.int .i64 k.frm,.int .i64 k.dst,.int .i64 k.too] 37)).alloc (.cells #[.int .i64 0,.int .i64 0,.int .i64 0,.int .i64 0,.int .i64 0,.int .i64 0,.int .i64 0,.int .i64 0,.int .i64 0,.int .i64 0,.int .i64 0,.int .i64 0,.bool false,.bool false,.int .i64 0] 45)=W1:=⟨_,rfl⟩
 rw [hW1] at h1 k1 r1 b1
 have hc:=lat_any b t va k W1 h1 hlen
 obtain ⟨aa,c,hv⟩:=OwnN.len h.own
 obtain ⟨fs,hfs⟩:∃ fs,t.fs=fs:=⟨_,rfl⟩
 rw [hfs] at hv hlen hc ⊢
 obtain ⟨N,hN⟩:∃ N,fs.length=N:=⟨_,rfl⟩
 rw [hN] at hv hlen
 subst hv
 have HFS:=hidE hfs
 have HN:=hidE hN
 have HL1:=hidE h1
 have HR1:=hidE r1
 have HB1:=hidE b1
 unfold keyV at hc ⊢
 obtain ⟨Q,hQ⟩:∃ Q:Ending→World→Prop,Q=fun e w'=>e = .returned (.tuple #[flV (getK fs k),.bool (hasK fs k)])∧Below w.heap.size w w':=⟨_,rfl⟩
 have HQ:=hidE hQ
 rw [← hQ]
 clear hQ h hfs hN h1 r1 b1
 go_enter Tryz.func19,Tryz.ntmps19
 go_upto_region 1 with fail
 try rw [hW1]
 clear hW1
 obtain ⟨k0,k1',k2,k3,k4⟩:=k1.cells
 go_upto_region 2 with (go_at_call 28;go_must (refine hc.mono ?_;rintro e W2 ⟨⟨r,rfl,hr⟩,b2⟩))
 have HR:=hidE hr
 have HL2:=hidE (HL1.out.below b2)
 have HR2:=hidE (HR1.out.below HR1.out.lt b2)
 have HB2:=hidE (HB1.out.trans (b2.mono HB1.out.size))
 clear hc k0 k1' k2 k3 k4 k1 b2 hr
 rcases HR.out with ⟨hh,hr⟩|⟨i,hi,hr,hh,hg⟩
 ·subst hr
  obtain ⟨y0,y1,y2,y3,y4,y5,y6,y7,y8,y9,y10,y11,y12,y13,y14⟩:=HR2.out.frees
  obtain ⟨d0,d1,d2,d3,d4,d5,d6,d7,d8,d9,d10,d11,d12,d13,d14⟩:=zero_cells HR2.out
  obtain ⟨W9,hW9,g9,o9⟩:=fl_wipe HR2.out
  have HW9:=hidE hW9
  have HG9:=hidE g9
  have HF:Hid (Q (.returned (.tuple #[.agg #[.int .i64 0,.int .i64 0,.int .i64 0,.int .i64 0,.int .i64 0,.int .i64 0,.int .i64 0,.int .i64 0,.int .i64 0,.int .i64 0,.int .i64 0,.int .i64 0,.bool false,.bool false,.int .i64 0],.bool false])) W9):=by
   show Q _ _
   rw [HQ.out]
   exact ⟨by rw [getK_no hh,hh];rfl,o9.below (by omega) HB2.out⟩
  clear hW9 g9 o9 hh HR
  go_wp2_with fail
  rw [HW9.out]
  clear y0 y1 y2 y3 y4 y5 y6 y7 y8 y9 y10 y11 y12 y13 y14 d0 d1 d2 d3 d4 d5 d6 d7 d8 d9 d10 d11 d12 d13 d14
  obtain ⟨c0,c1,c2,c3,c4,c5,c6,c7,c8,c9,c10,c11,c12,c13,c14⟩:=zero_cells HG9.out
  exact bodyPost_ret (v:=.tuple #[.agg #[.int .i64 0,.int .i64 0,.int .i64 0,.int .i64 0,.int .i64 0,.int .i64 0,.int .i64 0,.int .i64 0,.int .i64 0,.int .i64 0,.int .i64 0,.int .i64 0,.bool false,.bool false,.int .i64 0],.bool false]) (by simp [results,Tryz.results19,go_sem,c0,c1,c2,c3,c4,c5,c6,c7,c8,c9,c10,c11,c12,c13,c14]) rfl HF.out
 ·subst hr
  have i0:¬ (i:Int) < 0:=by omega
  have i2:(0:Int)≤(i:Int):=by omega
  have i1:(i:Int) < (N:Int):=by have:=HN.out;omega
  have c2:=(l_cells HL2.out.tab).2.2
  have ow:=HL2.out.own
  rw [HFS.out] at ow
  obtain ⟨g,cap,he,_,hglt,hlc,hcm⟩:=OwnN.shape ow (by omega)
  rw [HN.out] at he hlc
  simp only [Value.slice.injEq] at he
  obtain ⟨ha,hq0,hcc⟩:=he
  clear hq0
  subst ha
  subst hcc
  unfold maxLen at hcm
  have cc:=own_fl ow i hi
  obtain ⟨f,hf⟩:∃ f,fs[i]=f:=⟨_,rfl⟩
  rw [hf] at cc hg
  obtain ⟨e0,e1,e2,e3,e4,e5,e6,e7,e8,e9,e10,e11,e12,e13,e14⟩:=cc
  obtain ⟨y0,y1,y2,y3,y4,y5,y6,y7,y8,y9,y10,y11,y12,y13,y14⟩:=HR2.out.frees
  obtain ⟨d0,d1,d2,d3,d4,d5,d6,d7,d8,d9,d10,d11,d12,d13,d14⟩:=zero_cells HR2.out
  obtain ⟨W9,hW9,g9,o9⟩:=HR2.out.store f
  have HW9:=hidE hW9
  have HG9:=hidE g9
  have HF:Hid (Q (.returned (.tuple #[.agg #[.int .i64 f.key.kind,.int .i64 f.key.src,.int .i64 f.key.frm,.int .i64 f.key.dst,.int .i64 f.key.too,.int .i64 f.st,.int .i64 f.unt,.int .i64 f.stp,.int .i64 f.h0,.int .i64 f.h1,.int .i64 f.w0,.int .i64 f.w1,.bool f.d0,.bool f.d1,.int .i64 f.num],.bool true])) W9):=by
   show Q _ _
   rw [HQ.out]
   exact ⟨by rw [hg,hh];rfl,o9.below (by omega) HB2.out⟩
  clear hW9 g9 o9 hh HR hg hf ow
  go_wp2_with fail
  rw [HW9.out]
  clear y0 y1 y2 y3 y4 y5 y6 y7 y8 y9 y10 y11 y12 y13 y14 d0 d1 d2 d3 d4 d5 d6 d7 d8 d9 d10 d11 d12 d13 d14 e0 e1 e2 e3 e4 e5 e6 e7 e8 e9 e10 e11 e12 e13 e14
  obtain ⟨c0,c1,c2,c3,c4,c5,c6,c7,c8,c9,c10,c11,c12,c13,c14⟩:=HG9.out.cells
  exact bodyPost_ret (v:=.tuple #[.agg #[.int .i64 f.key.kind,.int .i64 f.key.src,.int .i64 f.key.frm,.int .i64 f.key.dst,.int .i64 f.key.too,.int .i64 f.st,.int .i64 f.unt,.int .i64 f.stp,.int .i64 f.h0,.int .i64 f.h1,.int .i64 f.w0,.int .i64 f.w1,.bool f.d0,.bool f.d1,.int .i64 f.num],.bool true]) (by simp [results,Tryz.results19,go_sem,c0,c1,c2,c3,c4,c5,c6,c7,c8,c9,c10,c11,c12,c13,c14]) rfl HF.out
end Go.Proofs.YtkhheooofcpfdaaGreatDoor
namespace Go.Proofs.YtkhheooofcpfdaaGreatDoor
open Go.RowKit Go.Maps
set_option linter.unusedVariables false
theorem flR_one (f:Fl):∀ u ∈ flRow f,u.oneCell'=true:=by
 intro u hu
 simp only [flRow,List.mem_cons,List.not_mem_nil,or_false] at hu
 rcases hu with rfl|rfl|rfl|rfl|rfl|rfl|rfl|rfl|rfl|rfl|rfl|rfl|rfl|rfl|rfl <;> rfl
theorem wpList_append_fv {w:World} {ops:Array Oper} {rest:List Oper} {o:Oper} {a:Act} {Q:Exit→Act→World→Prop} (hgd:o.guard=none) (s x:Operand)
  (ho:o.op = .call { callee:=.builtin .append,args:=#[s,x],argTypes:=#[23,23] })
  (base:Nat) (v:Value) (ks:List Fl) (hs:a.eval s=v) (hown:OwnFl w base v ks) (vx:Value) (qs:List Fl) (hx:a.eval x=vx) (hsrc:ViewN flRow w vx qs)
  (hlen:ks.length+qs.length≤1000000) (hbase:base≤w.heap.size)
  (h:∀ v' w',OwnFl w' base v' (ks++qs)→w.grownBy w' v.ownBlock→wpList Tryz.prog ops Q rest (a.put o.dst v') w'):wpList Tryz.prog ops Q (o :: rest) a w:=by
 obtain ⟨i0,hi,hz0,hz1,hz2⟩:=info_parts Tryz.infoFl
 exact wpList_append_view (enc:=flRow) hgd s x 23 ho i0 _ 112 Tryz.underlying23 hi hz0 hz1 hz2 rfl (by decide) flRow_len flR_one hs hown vx qs hx hsrc (by unfold maxLen;omega) (by omega) hbase h
theorem cut_fls {w:World} {base:Nat} {v:Value} {gs:List Fl} (h:OwnFl w base v gs) (j:Nat) (hj:j≤gs.length):∃ va vb,(∀ X,(Instr.slice 23 v none (some (.int .i64 (j:Int))) none).run Tryz.prog X = .ok va X)∧(∀ X,(Instr.slice 23 v (some (.int .i64 (j:Int))) none none).run Tryz.prog X = .ok vb X)∧ViewN flRow w va (gs.take j)∧ViewN flRow w vb (gs.drop j):=by
 have ht:Tryz.prog.underlying 23=some (.slice (Tryz.prog.elem 23)):=by kernel_rfl
 have he:Tryz.prog.elem 23=45:=by kernel_rfl
 obtain ⟨i0,hi,hz0,hz1,hz2⟩:=info_parts Tryz.infoFl
 have hsz:∀ X,(sizeOf (Tryz.prog.elem 23)).run Tryz.prog X = .ok 15 X:=fun X=>by rw [he];simp [sizeOf,typeInfo,hi,hz1]
 have hv:=OwnN.view h
 obtain ⟨_,h2⟩:=h
 rcases h2 with ⟨rfl,h0⟩|⟨g,cap,cur,rfl,hbg,hg,hl,hm,_,_⟩
 ·have e1:gs=[]:=List.length_eq_zero_iff.1 h0
  subst e1
  have hj0:j=0:=by simpa using hj
  subst hj0
  refine ⟨.slice none 0 0,.slice none 0 0,fun X=>?_,fun X=>?_,.inl ⟨rfl,_,_,rfl⟩,.inl ⟨rfl,_,_,rfl⟩⟩
  ·rw [run_slice_h _ _ _ _ _ ht _ _ (by simp) (by simp),hsz];rfl
  ·rw [run_slice_l _ _ _ _ _ ht _ _ (by simp) (by simp),hsz];rfl
 ·have s1:∀ X,(Instr.slice 23 (.slice (some ⟨g,0,none⟩) gs.length cap) none (some (.int .i64 (j:Int))) none).run Tryz.prog X = .ok (.slice (some ⟨g,0,none⟩) j cap) X:=fun X=>by
   rw [run_slice_h _ _ _ _ _ ht _ _ (by omega) (by omega),hsz]
   simp [sliced,Addr.add]
  by_cases hc:cap=j
  ·have hb:gs.length=j:=by omega
   refine ⟨_,.slice (some ⟨g,0,none⟩) 0 0,s1,fun X=>?_,ViewN.front flRow_len hv j hj,.inl ⟨by rw [← hb];simp,_,_,rfl⟩⟩
   rw [run_slice_l _ _ _ _ _ ht _ _ (by omega) (by omega),hsz]
   simp [sliced,hc,hb]
  ·refine ⟨_,.slice (some ⟨g,0+j * 15,none⟩) (gs.length - j) (cap - j),s1,fun X=>?_,ViewN.front flRow_len hv j hj,ViewN.back flRow_len hv j hj rfl (cap - j) (.inl rfl)⟩
   rw [run_slice_l _ _ _ _ _ ht _ _ (by omega) (by omega),hsz]
   by_cases h0:j=0
   ·simp [sliced,h0,Addr.add]
   ·simp [sliced,hc,Addr.add]
    omega
theorem dropK_at {fs:List Fl} {k:Ky} (hap:fs.Pairwise fun f g=>firstK f.key≠firstK g.key) {i:Nat} (hi:i < fs.length) (h:firstK fs[i].key=firstK k):dropK fs k=fs.take i++fs.drop (i+1):=by
 unfold dropK
 induction fs generalizing i with
 | nil=>simp at hi
 | cons a r ih =>
  rw [List.pairwise_cons] at hap
  cases i with
  | zero =>
   simp only [List.getElem_cons_zero] at h
   rw [List.filter_cons_of_neg (by simp [h])]
   simp only [List.take_zero,List.nil_append,Nat.zero_add,List.drop_succ_cons,List.drop_zero]
   refine List.filter_eq_self.2 (fun g hg=>?_)
   have:=hap.1 g hg
   rw [h] at this
   simp;exact fun e=>this e.symm
  | succ i =>
   have hi':i < r.length:=by simpa using hi
   simp only [List.getElem_cons_succ] at h
   have hne:=hap.1 r[i] (List.getElem_mem hi')
   rw [h] at hne
   rw [List.filter_cons_of_pos (by simpa using hne),ih hap.2 hi' h]
   simp
theorem dropK_none {fs:List Fl} {k:Ky} (h:hasK fs k=false):dropK fs k=fs:=by
 unfold dropK
 exact List.filter_eq_self.2 (fun g hg=>by simpa using hasK_not h g hg)
set_option maxRecDepth 100000 in
set_option maxHeartbeats 16000000 in
theorem ldrop_any (b:Nat) (t:Tb) (va:Value) (k:Ky) (w:World) (h:LIn w b t va) (hlen:t.fs.length≤1000) (hap:t.fs.Pairwise fun f g=>firstK f.key≠firstK g.key) (hvb:va.ownBlock≠some b) :
  Calls Tryz.prog 15 #[.pointer (some ⟨b,0,none⟩),keyV k] w fun e w'=>e = .returned (.bool (hasK t.fs k))∧(∃ v',LIn w' b { t with fs:=dropK t.fs k } v'∧v'.ownBlock≠some b)∧w.grownBy w' (some b):=by
 have h1:=h.alloc (.cells #[.int .i64 k.kind,.int .i64 k.src,.int .i64 k.frm,.int .i64 k.dst,.int .i64 k.too] 37)
 have k1:=KyAt.new w k
 have b1:Below w.heap.size w (w.alloc (.cells #[.int .i64 k.kind,.int .i64 k.src,.int .i64 k.frm,.int .i64 k.dst,.int .i64 k.too] 37)):=(Below.refl _ _).alloc (Nat.le_refl _) _
 obtain ⟨W1,hW1⟩:∃ W1,w.alloc (.cells #[.int .i64 k.kind,.int .i64 k.src,.int .i64 k.frm,.int .i64 k.dst,.int .i64 k.too] 37)=W1:=⟨_,rfl⟩
 rw [hW1] at h1 k1 b1
 have hc:=lat_any b t va k W1 h1 hlen
 have hbw:b < w.heap.size:=h.lt
 obtain ⟨aa,c,hv⟩:=OwnN.len h.own
 obtain ⟨fs,hfs⟩:∃ fs,t.fs=fs:=⟨_,rfl⟩
 rw [hfs] at hv hlen hc hap ⊢
 obtain ⟨N,hN⟩:∃ N,fs.length=N:=⟨_,rfl⟩
 rw [hN] at hv hlen
 subst hv
 have HFS:=hidE hfs
 have HN:=hidE hN
 have HL1:=hidE h1
 have HB1:=hidE b1
 have HAP:=hidE hap
 have HBW:=hidE hbw
 have HVB:=hidE hvb
 unfold keyV at hc ⊢
 obtain ⟨Q,hQ⟩:∃ Q:Ending→World→Prop,Q=fun e w'=>e = .returned (.bool (hasK fs k))∧(∃ v',LIn w' b { t with fs:=dropK fs k } v'∧v'.ownBlock≠some b)∧w.grownBy w' (some b):=⟨_,rfl⟩
 have HQ:=hidE hQ
 rw [← hQ]
 clear hQ h hfs hN h1 b1 hap hbw hvb
 go_enter Tryz.func15,Tryz.ntmps15
 go_upto_region 1 with fail
 try rw [hW1]
 clear hW1
 obtain ⟨k0,k1',k2,k3,k4⟩:=k1.cells
 go_upto_region 2 with (go_at_call 28;go_must (refine hc.mono ?_;rintro e W2 ⟨⟨r,rfl,hr⟩,b2⟩))
 have HR:=hidE hr
 have HL2:=hidE (HL1.out.below b2)
 have HB2:=hidE (HB1.out.trans (b2.mono HB1.out.size))
 clear hc k0 k1' k2 k3 k4 k1 b2 hr
 rcases HR.out with ⟨hh,hr⟩|⟨i,hi,hr,hh,hg⟩
 ·subst hr
  have HF:Hid (Q (.returned (.bool false)) W2):=by
   show Q _ _
   rw [HQ.out]
   refine ⟨by rw [hh],⟨.slice aa N c,?_,HVB.out⟩,(grown_of_below HB2.out).but _⟩
   rw [dropK_none hh,← HFS.out];exact HL2.out
  clear hh HR
  go_wp2_with fail
  first|exact HF.out|(simp;exact HF.out)
 ·subst hr
  have i0:¬ (i:Int) < 0:=by omega
  have i2:(0:Int)≤(i:Int):=by omega
  have i1:(i:Int)+1≤(N:Int):=by have:=HN.out;omega
  have i3:i≤1000:=by have:=HN.out;omega
  have hky:firstK fs[i].key=firstK k:=by rw [← hg];exact (getK_in hh).2
  have HDK:=hidE (dropK_at HAP.out hi hky)
  have c2:=(l_cells HL2.out.tab).2.2
  have ow:=HL2.out.own
  rw [HFS.out] at ow
  obtain ⟨va',vb',s1,_,v1,_⟩:=cut_fls ow i (by omega)
  obtain ⟨va2,vb2,_,s2,_,v2⟩:=cut_fls ow (i+1) (by omega)
  have e1:(((i+1:Nat):Int))=(i:Int)+1:=by omega
  rw [e1] at s2
  have htl:(fs.take i).length≤1000:=by have:=List.length_take_le i fs;omega
  have htd:(fs.drop (i+1)).length≤1000:=by rw [List.length_drop];have:=HN.out;omega
  have hl0:([]:List Fl).length+(fs.take i).length≤1000000:=by simp only [List.length_nil];omega
  have hnl0:OwnFl W2 W2.heap.size (.slice none 0 0) []:=OwnN.nil _ _
  have HV2:=hidE v2
  have HHH:=hidE hh
  clear hg hky v2 ow e1 hh HR
  go_upto_region 6 with (first
   | (at_builtin;refine wpList_append_fv rfl (.tmp 12) (.tmp 18) rfl W2.heap.size (.slice none 0 0) [] rfl hnl0 va' (fs.take i) rfl v1 hl0 (Nat.le_refl _) ?_;intro v5 W5 own5 g5)
   | go_in)
  have b5:Below W2.heap.size W2 W5:=(Below.refl _ _).grown g5 (Nat.le_refl _) (fun k hk=>by cases hk)
  rw [List.nil_append] at own5
  have hs5:=b5.size
  have vv2:=HV2.out.below b5
  have HL5:=hidE (HL2.out.below b5)
  have hl6:(fs.take i).length+(fs.drop (i+1)).length≤1000000:=by omega
  have hbW:b < W2.heap.size:=HL2.out.lt
  clear s1 v1 g5 hl0 hnl0 c2
  obtain ⟨q0,q1,q2⟩:=l_cells HL5.out.tab
  obtain ⟨y0,y1,y2⟩:=l_frees HL5.out.tab
  go_upto_region 7 with (first
   | (at_builtin;refine wpList_append_fv rfl (.tmp 21) (.tmp 28) rfl W2.heap.size v5 (fs.take i) rfl own5 vb2 (fs.drop (i+1)) rfl vv2 hl6 hs5 ?_;intro v6 W6 own6 g6;have hb6:=b5.grown g6 hs5 (fun k hk=>(OwnN.block own5 k hk).1);obtain ⟨a4,c4,hv4⟩:=OwnN.len own6;obtain ⟨L4,hL4⟩:∃ L4,(fs.take i++fs.drop (i+1)).length=L4:=⟨_,rfl⟩;rw [hL4] at hv4;subst hv4;have hl6':=HL2.out.below hb6;obtain ⟨p0,p1,p2⟩:=l_cells hl6'.tab;obtain ⟨z0,z1,z2⟩:=l_frees hl6'.tab)
   | go_in)
  obtain ⟨W7,hW7⟩:∃ W7,W6.setCell ⟨b,2,none⟩ (.slice a4 L4 c4)=W7:=⟨_,rfl⟩
  rw [hW7]
  have HF:Hid (Q (.returned (.bool true)) W7):=by
   have e6:=heap_setCell_same W6 b 2 _ _ (.slice a4 L4 c4) hl6'.tab
   have ot:∀ k,k≠b→W7.heap[k]? = W6.heap[k]?:=fun k hk=>by rw [← hW7];exact heap_setCell_other W6 ⟨b,2,none⟩ k _ hk
   rw [hW7] at e6
   have hs7:W7.heap.size=W6.heap.size:=by rw [← hW7];simp [World.setCell]
   have hbb:=HB2.out.trans (hb6.mono HB2.out.size)
   have hne:∀ k,(Value.slice a4 L4 c4).ownBlock=some k→k≠b:=fun k hk e=>by have:=OwnN.block own6 k hk;omega
   show Q _ _
   rw [HQ.out]
   refine ⟨by rw [HHH.out],⟨.slice a4 L4 c4,⟨e6,?_⟩,fun e=>hne b e rfl⟩,⟨?_,?_,?_,by rw [hs7];exact hbb.size,fun i hi hnb=>(ot i (fun e=>hnb (by rw [e]))).trans (hbb.block i hi)⟩⟩
   ·show OwnFl W7 0 _ (dropK fs k)
    rw [HDK.out]
    exact OwnN.rebase (OwnN.blk own6 (fun k hk=>ot k (hne k hk))) (Nat.zero_le _)
   ·rw [← hW7];exact hbb.os
   ·rw [← hW7];exact hbb.tape
   ·rw [← hW7];exact hbb.output
  clear hW7 own5 own6 g6 hb6 hl6' hL4 s2 vv2 b5
  go_wp2_with fail
  first|exact HF.out|(simp;exact HF.out)
end Go.Proofs.YtkhheooofcpfdaaGreatDoor
