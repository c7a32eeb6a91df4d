/- What First of package seg returns, for every key. -/
import Derived.Test.YtkhheooofcpfdaaGreatDoorMgK
namespace Go.Proofs.YtkhheooofcpfdaaGreatDoor
open Go.RowKit
set_option linter.unusedVariables false
theorem kd_of {w:World} {k:Ky} {w':World} (h:KdS w k w'):(w'.cell? ⟨w.heap.size,0,none⟩=some (.int .i64 k.kind)∧w'.cell? ⟨w.heap.size,1,none⟩=some (.int .i64 k.src)∧w'.cell? ⟨w.heap.size,2,none⟩=some (.int .i64 k.frm)∧w'.cell? ⟨w.heap.size,3,none⟩=some (.int .i64 k.dst)∧w'.cell? ⟨w.heap.size,4,none⟩=some (.int .i64 k.too))∧KdS w k w':=⟨h.1.cells,h⟩
set_option maxRecDepth 100000 in
set_option maxHeartbeats 4000000 in
theorem first_any (k:Ky) (w:World) :
  Calls Tryz.prog 37 #[keyV k] w fun e w'=>e = .returned (keyV (firstK k))∧Below w.heap.size w w':=by
 have hK:=KyAt.new w k
 have hS:KdS w k ((w.alloc (.cells #[.int .i64 k.kind,.int .i64 k.src,.int .i64 k.frm,.int .i64 k.dst,.int .i64 k.too] 37)).alloc (.cells #[.int .i64 0,.int .i64 0,.int .i64 0,.int .i64 0,.int .i64 0] 37)):=by
  refine ⟨hK.alloc _,?_,((Below.refl _ _).alloc (Nat.le_refl _) _).alloc (by simp) _⟩
  have:=KyAt.zero (w.alloc (.cells #[.int .i64 k.kind,.int .i64 k.src,.int .i64 k.frm,.int .i64 k.dst,.int .i64 k.too] 37))
  rw [show (w.alloc (.cells #[.int .i64 k.kind,.int .i64 k.src,.int .i64 k.frm,.int .i64 k.dst,.int .i64 k.too] 37)).heap.size=w.heap.size+1 by simp] at this
  exact this
 obtain ⟨x,HX,c1⟩:∃ x,Hid (x=cmpI k.dst k.src)∧∀ W,Calls Tryz.prog 64 #[.int .i64 k.dst,.int .i64 k.src] W fun e w'=>e = .returned (.int .i64 x)∧w'=W:=⟨_,rfl,fun W=>compare_any _ _ W⟩
 obtain ⟨y,HY,c2⟩:∃ y,Hid (y=cmpI k.too k.frm)∧∀ W,Calls Tryz.prog 64 #[.int .i64 k.too,.int .i64 k.frm] W fun e w'=>e = .returned (.int .i64 y)∧w'=W:=⟨_,rfl,fun W=>compare_any _ _ W⟩
 obtain ⟨r,HR⟩:∃ r,Hid (r=orI x y):=⟨_,rfl⟩
 have hor:∀ (g:Nat) (W:World),W.cell? ⟨g,0,none⟩=some (.int .i64 x)→W.cell? ⟨g,1,none⟩=some (.int .i64 y)→Calls Tryz.prog 63 #[.slice (some ⟨g,0,none⟩) 2 2] W fun e w'=>e = .returned (.int .i64 r)∧w'=W:=by
  intro g W h0 h1;rw [HR.out];exact or_any g x y W h0 h1
 have hneg:=first_neg k
 rw [← HX.out,← HY.out,← HR.out] at hneg
 obtain ⟨f,HF⟩:∃ f,Hid (f=firstK k):=⟨_,rfl⟩
 rw [← HF.out]
 unfold keyV at *
 clear hK
 by_cases h:r < 0
 ·have EF:Hid (f=turnK k):=by show f=turnK k;rw [HF.out];exact if_pos (hneg.1 h)
  clear hneg
  go_enter Tryz.func37,Tryz.ntmps37
  go_upto_region 1 with fail
  obtain ⟨W1,hW1⟩:∃ W1,(w.alloc (.cells #[.int .i64 k.kind,.int .i64 k.src,.int .i64 k.frm,.int .i64 k.dst,.int .i64 k.too] 37)).alloc (.cells #[.int .i64 0,.int .i64 0,.int .i64 0,.int .i64 0,.int .i64 0] 37)=W1:=⟨_,rfl⟩
  rw [hW1] at hS ⊢
  clear hW1
  have m0:True:=trivial
  go_region_held3 (fun w'=>(w'.cell? ⟨w.heap.size,0,none⟩=some (.int .i64 k.kind)∧w'.cell? ⟨w.heap.size,1,none⟩=some (.int .i64 k.src)∧w'.cell? ⟨w.heap.size,2,none⟩=some (.int .i64 k.frm)∧w'.cell? ⟨w.heap.size,3,none⟩=some (.int .i64 k.dst)∧w'.cell? ⟨w.heap.size,4,none⟩=some (.int .i64 k.too))∧KdS w k w') (with_reducible first|assumption|exact kd_of hS|exact kd_of (KdS.drew (And.right (by assumption)))|exact kd_of (KdS.alloc (And.right (by assumption)) _)|exact kd_of (KdS.drew (KdS.alloc (And.right (by assumption)) _))|exact kd_of (KdS.drew hS)|exact kd_of (KdS.drew (KdS.alloc hS _))) (first
   | (go_at_call 64;have m1:True:=m0;clear m0;refine (c1 _).mono ?_;rintro e w' ⟨rfl,rfl⟩)
   | (go_at_call 64;have m2:True:=m1;clear m1;refine (c2 _).mono ?_;rintro e w' ⟨rfl,rfl⟩)
   | (go_at_call 63;refine (hor _ _ (by simp) (by simp)).mono ?_;rintro e w' ⟨rfl,rfl⟩))
  have hS2:KdS w k (W1.alloc (.cells #[.int .i64 x,.int .i64 y] 3)).drew:=KdS.drew (KdS.alloc hS _)
  obtain ⟨W2,hW2⟩:∃ W2,(W1.alloc (.cells #[.int .i64 x,.int .i64 y] 3)).drew=W2:=⟨_,rfl⟩
  rw [hW2] at hS2 ⊢
  clear hW2 hS
  obtain ⟨c0,c1',c2',c3,c4⟩:=hS2.1.cells
  have ht:=turn_any k W2
  unfold keyV turnK at ht
  go_upto_region 2 with fail
  go_wp2_with fail
  refine ht.mono ?_
  rintro e w3 ⟨rfl,bw3⟩
  have hz3:=hS2.2.1.below hS2.2.1.lt bw3
  have b3:=hS2.2.2.trans (bw3.mono hS2.2.2.size)
  clear c0 c1' c2' c3 c4 ht bw3
  obtain ⟨q0,q1,q2,q3,q4⟩:=hz3.cells
  have f0:=hz3.free 0
  have f1:=hz3.free 1
  have f2:=hz3.free 2
  have f3:=hz3.free 3
  have f4:=hz3.free 4
  go_wp2_with fail
  obtain ⟨w4,hw4,hp4,ho4⟩:=hz3.store { kind:=k.kind,src:=k.dst,frm:=k.too,dst:=k.src,too:=k.frm }
  simp only at hw4
  rw [hw4]
  have b4:Below w.heap.size w w4:=ho4.below (by omega) b3
  clear hw4 q0 q1 q2 q3 q4 f0 f1 f2 f3 f4
  obtain ⟨c0,c1',c2',c3,c4⟩:=hp4.cells
  simp only at c0 c1' c2' c3 c4
  refine bodyPost_ret (v:=.agg #[.int .i64 k.kind,.int .i64 k.dst,.int .i64 k.too,.int .i64 k.src,.int .i64 k.frm]) (by simp [results,Tryz.results37,go_sem,c0,c1',c2',c3,c4]) rfl ⟨?_,b4⟩
  rw [EF.out]
  rfl
 ·have EF:Hid (f=k):=by show f=k;rw [HF.out];exact if_neg (fun hh=>h (hneg.2 hh))
  clear hneg
  go_enter Tryz.func37,Tryz.ntmps37
  go_upto_region 1 with fail
  obtain ⟨W1,hW1⟩:∃ W1,(w.alloc (.cells #[.int .i64 k.kind,.int .i64 k.src,.int .i64 k.frm,.int .i64 k.dst,.int .i64 k.too] 37)).alloc (.cells #[.int .i64 0,.int .i64 0,.int .i64 0,.int .i64 0,.int .i64 0] 37)=W1:=⟨_,rfl⟩
  rw [hW1] at hS ⊢
  clear hW1
  have m0:True:=trivial
  go_region_held3 (fun w'=>(w'.cell? ⟨w.heap.size,0,none⟩=some (.int .i64 k.kind)∧w'.cell? ⟨w.heap.size,1,none⟩=some (.int .i64 k.src)∧w'.cell? ⟨w.heap.size,2,none⟩=some (.int .i64 k.frm)∧w'.cell? ⟨w.heap.size,3,none⟩=some (.int .i64 k.dst)∧w'.cell? ⟨w.heap.size,4,none⟩=some (.int .i64 k.too))∧KdS w k w') (with_reducible first|assumption|exact kd_of hS|exact kd_of (KdS.drew (And.right (by assumption)))|exact kd_of (KdS.alloc (And.right (by assumption)) _)|exact kd_of (KdS.drew (KdS.alloc (And.right (by assumption)) _))|exact kd_of (KdS.drew hS)|exact kd_of (KdS.drew (KdS.alloc hS _))) (first
   | (go_at_call 64;have m1:True:=m0;clear m0;refine (c1 _).mono ?_;rintro e w' ⟨rfl,rfl⟩)
   | (go_at_call 64;have m2:True:=m1;clear m1;refine (c2 _).mono ?_;rintro e w' ⟨rfl,rfl⟩)
   | (go_at_call 63;refine (hor _ _ (by simp) (by simp)).mono ?_;rintro e w' ⟨rfl,rfl⟩))
  have hS2:KdS w k (W1.alloc (.cells #[.int .i64 x,.int .i64 y] 3)).drew:=KdS.drew (KdS.alloc hS _)
  obtain ⟨W2,hW2⟩:∃ W2,(W1.alloc (.cells #[.int .i64 x,.int .i64 y] 3)).drew=W2:=⟨_,rfl⟩
  rw [hW2] at hS2 ⊢
  clear hW2 hS
  obtain ⟨c0,c1',c2',c3,c4⟩:=hS2.1.cells
  have hz3:=hS2.2.1
  obtain ⟨q0,q1,q2,q3,q4⟩:=hz3.cells
  have f0:=hz3.free 0
  have f1:=hz3.free 1
  have f2:=hz3.free 2
  have f3:=hz3.free 3
  have f4:=hz3.free 4
  go_wp2_with fail
  obtain ⟨w4,hw4,hp4,ho4⟩:=hz3.store k
  rw [hw4]
  have b4:Below w.heap.size w w4:=ho4.below (by omega) hS2.2.2
  clear hw4 q0 q1 q2 q3 q4 f0 f1 f2 f3 f4 c0 c1' c2' c3 c4
  obtain ⟨c0,c1',c2',c3,c4⟩:=hp4.cells
  refine bodyPost_ret (v:=.agg #[.int .i64 k.kind,.int .i64 k.src,.int .i64 k.frm,.int .i64 k.dst,.int .i64 k.too]) (by simp [results,Tryz.results37,go_sem,c0,c1',c2',c3,c4]) rfl ⟨?_,b4⟩
  rw [EF.out]
end Go.Proofs.YtkhheooofcpfdaaGreatDoor
