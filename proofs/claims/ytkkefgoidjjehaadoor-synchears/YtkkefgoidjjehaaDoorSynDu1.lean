/- Due of package sync's Teller: its region 10. -/
import Derived.Test.YtkkefgoidjjehaaDoorSynDuH
import Derived.BigRegion
import Derived.Deep.CutRange
namespace Go.Proofs.YtkkefgoidjjehaaDoor
open Go.RowKit Go.Maps
set_option linter.unusedVariables false

set_option maxRecDepth 100000 in
set_option maxHeartbeats 32000000 in
theorem due_r10 (X1 : World) (U base LN ca : Nat) (ao : Option Addr) (d : Int) (N : Nt) (fs : List Nt) (K : Act → World → Prop) (E : Exit → Act → World → Prop) (C : Code) (hC : C = dueReg 10)
    (hu : UtAt X1 U N d) (ow1 : OwnNt X1 base (.slice ao LN ca) fs) (hl : fs.length ≤ 1000) (hb : base ≤ X1.heap.size)
    (v0 v1 v2 v3 v4 v5 v6 v8 v10 v11 v12 v13 v14 v15 v16 v17 v18 v19 v20 v21 v22 v23 v24 v25 v26 v27 v28 v29 v30 v31 v32 v33 v34 v35 v36 v37 v38 v39 v40 v41 v42 v43 v44 v45 v46 v47 v48 v49 v50 v51 v52 v53 v54 v55 v56 : Value)
    (hK : ∀ (v7 : Value) (W9 : World) (u38 u39 u40 u41 u42 : Value), OwnNt W9 base v7 (fs ++ [N]) → (X1.alloc (.cells #[.int .i64 N.what, .int .i64 N.seq, .int .i64 N.fl.key.kind, .int .i64 N.fl.key.src, .int .i64 N.fl.key.frm, .int .i64 N.fl.key.dst, .int .i64 N.fl.key.too, .int .i64 N.fl.st, .int .i64 N.fl.unt, .int .i64 N.fl.stp, .int .i64 N.fl.h0, .int .i64 N.fl.h1, .int .i64 N.fl.w0, .int .i64 N.fl.w1, .bool N.fl.d0, .bool N.fl.d1, .int .i64 N.fl.num] 29)).grownBy W9 (Value.slice ao LN ca).ownBlock → K { tmps := #[v0, v1, v2, v3, v4, v5, v6, v7, v8, .pointer (some ⟨U, 0, none⟩), v10, v11, v12, v13, v14, v15, v16, v17, v18, v19, v20, v21, v22, v23, v24, v25, v26, v27, v28, v29, v30, v31, v32, v33, v34, v35, v36, v37, u38, u39, u40, u41, u42, v43, v44, v45, v46, v47, v48, v49, v50, v51, v52, v53, v54, v55, v56], defers := [] } W9) :
    Code.wp Tryd.prog C (Exit.then K E) { tmps := #[v0, v1, v2, v3, v4, v5, v6, .slice ao LN ca, v8, .pointer (some ⟨U, 0, none⟩), v10, v11, v12, v13, v14, v15, v16, v17, v18, v19, v20, v21, v22, v23, v24, v25, v26, v27, v28, v29, v30, v31, v32, v33, v34, v35, v36, v37, v38, v39, v40, v41, v42, v43, v44, v45, v46, v47, v48, v49, v50, v51, v52, v53, v54, v55, v56], defers := [] } X1 := by
  subst hC
  conv =>
    arg 2
    unfold dueReg
    unfold Tryd.f14
    simp only [Option.getD_some, regAt]
  conv =>
    arg 4
    zeta
  simp (maxSteps := 10000000) only at hK
  have HK := hidT hK
  clear hK
  obtain ⟨⟨r0, r1, r2, r3, r4, r5, r6, r7, r8, r9, r10, r11, r12, r13, r14, r15, r16, r17⟩, fz⟩ := ut_cells hu
  have hl2 : fs.length ≤ 1000000000 := by omega
  clear hu r17 fz hl
  go_wp2_with (at_builtin; go_must (refine wpList_append_nt rfl (.tmp 38) (.tmp 41) rfl base _ fs rfl ow1 N rfl hl2 hb ?_; intro v7 w7 own7 gr7))
  exact HK.out _ _ _ _ _ _ _ own7 gr7
end Go.Proofs.YtkkefgoidjjehaaDoor
