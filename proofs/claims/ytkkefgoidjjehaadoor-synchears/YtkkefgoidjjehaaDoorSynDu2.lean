/- Due of package sync's Teller: its region 12. -/
import Derived.Test.YtkkefgoidjjehaaDoorSynDuH
import Derived.BigRegion
import Derived.Deep.CutRange
namespace Go.Proofs.YtkkefgoidjjehaaDoor
open Go.RowKit Go.Maps
set_option linter.unusedVariables false

set_option maxRecDepth 100000 in
set_option maxHeartbeats 32000000 in
theorem due_r12 (X1 W7 : World) (b m g U : Nat) (z : Int) (N : Nt) (E : Exit → Act → World → Prop) (C : Code) (hC : C = dueReg 12)
    (hu : UtAt X1 U N z) (hc : X1.cell? ⟨b, 3, none⟩ = some (.map (some m))) (hup : (Instr.mapUpdate 70 (.map (some m)) (.int .i64 ((g : Int) + 1)) (.agg #[.int .i64 N.what, .int .i64 N.seq, .int .i64 N.fl.key.kind, .int .i64 N.fl.key.src, .int .i64 N.fl.key.frm, .int .i64 N.fl.key.dst, .int .i64 N.fl.key.too, .int .i64 N.fl.st, .int .i64 N.fl.unt, .int .i64 N.fl.stp, .int .i64 N.fl.h0, .int .i64 N.fl.h1, .int .i64 N.fl.w0, .int .i64 N.fl.w1, .bool N.fl.d0, .bool N.fl.d1, .int .i64 N.fl.num, .int .i64 z])).run Tryd.prog X1.drew = .ok () W7)
    (v1 v2 v3 v4 v5 v6 v7 v10 v11 v12 v13 v14 v15 v16 v17 v18 v19 v20 v21 v22 v23 v24 v25 v26 v27 v28 v29 v30 v31 v32 v33 v34 v35 v36 v37 v38 v39 v40 v41 v42 v43 v44 v45 v46 v47 v48 v49 v50 v51 v52 v53 v54 v55 v56 : Value)
    (hK : ∀ (W9 : World) (u50 u51 u52 u53 u54 u55 : Value), W9 = W7 → E .normal { tmps := #[.pointer (some ⟨b, 0, none⟩), v1, v2, v3, v4, v5, v6, v7, .int .i64 ((g : Int) + 1), .pointer (some ⟨U, 0, none⟩), v10, v11, v12, v13, v14, v15, v16, v17, v18, v19, v20, v21, v22, v23, v24, v25, v26, v27, v28, v29, v30, v31, v32, v33, v34, v35, v36, v37, v38, v39, v40, v41, v42, v43, v44, v45, v46, v47, v48, v49, u50, u51, u52, u53, u54, u55, v56], defers := [] } W9) :
    Code.wp Tryd.prog C E { tmps := #[.pointer (some ⟨b, 0, none⟩), v1, v2, v3, v4, v5, v6, v7, .int .i64 ((g : Int) + 1), .pointer (some ⟨U, 0, none⟩), v10, v11, v12, v13, v14, v15, v16, v17, v18, v19, v20, v21, v22, v23, v24, v25, v26, v27, v28, v29, v30, v31, v32, v33, v34, v35, v36, v37, v38, v39, v40, v41, v42, v43, v44, v45, v46, v47, v48, v49, v50, v51, v52, v53, v54, v55, v56], defers := [] } X1 := by
  subst hC
  conv =>
    arg 2
    unfold dueReg
    unfold Tryd.f14
    simp only [Option.getD_some, regAt]
  conv =>
    arg 4
    zeta
  simp (maxSteps := 10000000) only at hK
  have HK := hidT hK
  clear hK
  obtain ⟨⟨r0, r1, r2, r3, r4, r5, r6, r7, r8, r9, r10, r11, r12, r13, r14, r15, r16, r17⟩, fz⟩ := ut_cells hu
  have HK0 : Hid _ := HK.out W7
  clear hu fz HK
  go_region
  all_goals
    go_wp2_with fail
    exact HK0.out _ _ _ _ _ _ (by first | rfl | trivial)
end Go.Proofs.YtkkefgoidjjehaaDoor
