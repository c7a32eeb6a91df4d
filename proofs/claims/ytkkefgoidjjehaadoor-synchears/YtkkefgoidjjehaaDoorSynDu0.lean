/- Due of package sync's Teller: its region 8. -/
import Derived.Test.YtkkefgoidjjehaaDoorSynDuH
import Derived.BigRegion
import Derived.Deep.CutRange
namespace Go.Proofs.YtkkefgoidjjehaaDoor
open Go.RowKit Go.Maps
set_option linter.unusedVariables false

set_option maxRecDepth 100000 in
set_option maxHeartbeats 32000000 in
theorem due_r8 (wr : World) (b m g d : Nat) (N : Nt) (K : Act → World → Prop) (E : Exit → Act → World → Prop) (C : Code) (hC : C = dueReg 8)
    (hc : wr.cell? ⟨b, 3, none⟩ = some (.map (some m))) (hlook : (Instr.lookup 70 (.map (some m)) (.int .i64 ((g : Int) + 1)) false).run Tryd.prog wr = .ok (.agg #[.int .i64 N.what, .int .i64 N.seq, .int .i64 N.fl.key.kind, .int .i64 N.fl.key.src, .int .i64 N.fl.key.frm, .int .i64 N.fl.key.dst, .int .i64 N.fl.key.too, .int .i64 N.fl.st, .int .i64 N.fl.unt, .int .i64 N.fl.stp, .int .i64 N.fl.h0, .int .i64 N.fl.h1, .int .i64 N.fl.w0, .int .i64 N.fl.w1, .bool N.fl.d0, .bool N.fl.d1, .int .i64 N.fl.num, .int .i64 (d : Int)]) wr)
    (v1 v2 v3 v4 v5 v6 v7 v9 v10 v11 v12 v13 v14 v15 v16 v17 v18 v19 v20 v21 v22 v23 v24 v25 v26 v27 v28 v29 v30 v31 v32 v33 v34 v35 v36 v37 v38 v39 v40 v41 v42 v43 v44 v45 v46 v47 v48 v49 v50 v51 v52 v53 v54 v55 v56 : Value)
    (hK : ∀ (W9 : World) (u28 u29 u30 u31 u32 u33 : Value), UtAt W9 wr.heap.size N (d : Int) → Below wr.heap.size wr W9 → K { tmps := #[.pointer (some ⟨b, 0, none⟩), v1, v2, v3, v4, v5, v6, v7, .int .i64 ((g : Int) + 1), .pointer (some ⟨wr.heap.size, 0, none⟩), v10, v11, v12, v13, v14, v15, v16, v17, v18, v19, v20, v21, v22, v23, v24, v25, v26, v27, u28, u29, u30, u31, u32, u33, v34, v35, v36, v37, v38, v39, v40, v41, v42, v43, v44, v45, v46, v47, v48, v49, v50, v51, v52, v53, v54, v55, v56], defers := [] } W9) :
    Code.wp Tryd.prog C (Exit.then K E) { tmps := #[.pointer (some ⟨b, 0, none⟩), v1, v2, v3, v4, v5, v6, v7, .int .i64 ((g : Int) + 1), v9, v10, v11, v12, v13, v14, v15, v16, v17, v18, v19, v20, v21, v22, v23, v24, v25, v26, v27, v28, v29, v30, v31, v32, v33, v34, v35, v36, v37, v38, v39, v40, v41, v42, v43, v44, v45, v46, v47, v48, v49, v50, v51, v52, v53, v54, v55, v56], defers := [] } wr := by
  subst hC
  conv =>
    arg 2
    unfold dueReg
    unfold Tryd.f14
    simp only [Option.getD_some, regAt]
  conv =>
    arg 4
    zeta
  simp (maxSteps := 10000000) only at hK
  have HK := hidT hK
  clear hK
  have u1 : UtAt (wr.alloc (.cells #[.int .i64 N.what, .int .i64 N.seq, .int .i64 N.fl.key.kind, .int .i64 N.fl.key.src, .int .i64 N.fl.key.frm, .int .i64 N.fl.key.dst, .int .i64 N.fl.key.too, .int .i64 N.fl.st, .int .i64 N.fl.unt, .int .i64 N.fl.stp, .int .i64 N.fl.h0, .int .i64 N.fl.h1, .int .i64 N.fl.w0, .int .i64 N.fl.w1, .bool N.fl.d0, .bool N.fl.d1, .int .i64 N.fl.num, .int .i64 (d : Int)] 76)) wr.heap.size N (d : Int) := heap_alloc_new _ _
  have b1 : Below wr.heap.size wr (wr.alloc (.cells #[.int .i64 N.what, .int .i64 N.seq, .int .i64 N.fl.key.kind, .int .i64 N.fl.key.src, .int .i64 N.fl.key.frm, .int .i64 N.fl.key.dst, .int .i64 N.fl.key.too, .int .i64 N.fl.st, .int .i64 N.fl.unt, .int .i64 N.fl.stp, .int .i64 N.fl.h0, .int .i64 N.fl.h1, .int .i64 N.fl.w0, .int .i64 N.fl.w1, .bool N.fl.d0, .bool N.fl.d1, .int .i64 N.fl.num, .int .i64 (d : Int)] 76)) := (Below.refl _ _).alloc (Nat.le_refl _) _
  have HU1 := hidT u1
  have HB1 := hidT b1
  clear u1 b1
  go_wp2_with fail
  exact HK.out _ _ _ _ _ _ _ HU1.out HB1.out
end Go.Proofs.YtkkefgoidjjehaaDoor
