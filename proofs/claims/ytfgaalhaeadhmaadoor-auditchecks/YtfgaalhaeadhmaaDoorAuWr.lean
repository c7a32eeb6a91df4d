/- What isEvent, suits and wrong of package audit return. -/
import Derived.Test.YtfgaalhaeadhmaaDoorAuAt
import Derived.Deep.QuietTactic
import Derived.BigQuiet
import Derived.Deep.RegionHeld3
import Derived.Deep.DeepMust
import Derived.Deep.DeepCutAuto
import Derived.Deep.CutBlock
namespace Go.Proofs.YtfgaalhaeadhmaaDoor
open Go.RowKit
set_option linter.unusedVariables false

theorem Tryd.keyHeldU : Tryd.prog.stoodInHeld 52 = false := by kernel_rfl
theorem Tryd.keyFieldsU : Tryd.prog.underlying 52 = some (.struct (Tryd.prog.fieldsOf 52)) := by kernel_rfl
theorem Tryd.keyEqU (p : Ky) (w : World) : (Op.equalIn 10000 52 (.agg #[.int .i64 p.kind, .int .i64 p.src, .int .i64 p.frm, .int .i64 p.dst, .int .i64 p.too]) (.agg #[.int .i64 0, .int .i64 0, .int .i64 0, .int .i64 0, .int .i64 0])).run Tryd.prog w = .ok (keyZ p) w := by
  have h := run_equalIn_agg (P := Tryd.prog) w 9999 52 #[.int .i64 p.kind, .int .i64 p.src, .int .i64 p.frm, .int .i64 p.dst, .int .i64 p.too] #[.int .i64 0, .int .i64 0, .int .i64 0, .int .i64 0, .int .i64 0] Tryd.keyFieldsU Tryd.keyHeldU
  refine h.trans ?_
  obtain ⟨a0, a1, a2, a3, a4⟩ := p
  unfold keyZ
  simp only
  by_cases h0 : a0 = 0
  · by_cases h1 : a1 = 0
    · by_cases h2 : a2 = 0
      · by_cases h3 : a3 = 0
        · by_cases h4 : a4 = 0
          · simp [Program.fieldsOf, Tryd.underlying52, Op.eqFields, part, isAgg, underlying, Tryd.underlying3, Result.andThen, run_equalIn_int (P := Tryd.prog) _ 9998 3 .i64 .i64 _ _ Tryd.underlying3, h0, h1, h2, h3, h4]
          · simp [Program.fieldsOf, Tryd.underlying52, Op.eqFields, part, isAgg, underlying, Tryd.underlying3, Result.andThen, run_equalIn_int (P := Tryd.prog) _ 9998 3 .i64 .i64 _ _ Tryd.underlying3, h0, h1, h2, h3, h4]
        · simp [Program.fieldsOf, Tryd.underlying52, Op.eqFields, part, isAgg, underlying, Tryd.underlying3, Result.andThen, run_equalIn_int (P := Tryd.prog) _ 9998 3 .i64 .i64 _ _ Tryd.underlying3, h0, h1, h2, h3]
      · simp [Program.fieldsOf, Tryd.underlying52, Op.eqFields, part, isAgg, underlying, Tryd.underlying3, Result.andThen, run_equalIn_int (P := Tryd.prog) _ 9998 3 .i64 .i64 _ _ Tryd.underlying3, h0, h1, h2]
    · simp [Program.fieldsOf, Tryd.underlying52, Op.eqFields, part, isAgg, underlying, Tryd.underlying3, Result.andThen, run_equalIn_int (P := Tryd.prog) _ 9998 3 .i64 .i64 _ _ Tryd.underlying3, h0, h1]
  · simp [Program.fieldsOf, Tryd.underlying52, Op.eqFields, part, isAgg, underlying, Tryd.underlying3, Result.andThen, run_equalIn_int (P := Tryd.prog) _ 9998 3 .i64 .i64 _ _ Tryd.underlying3, h0]
theorem Tryd.keyNeqU (p : Ky) (w : World) : (binOp .neq 52 (.agg #[.int .i64 p.kind, .int .i64 p.src, .int .i64 p.frm, .int .i64 p.dst, .int .i64 p.too]) (.agg #[.int .i64 0, .int .i64 0, .int .i64 0, .int .i64 0, .int .i64 0])).run Tryd.prog w = .ok (.bool (!keyZ p)) w := by
  rw [run_neq_struct, Tryd.keyEqU]; rfl
theorem Tryd.keyEqlU (p : Ky) (w : World) : (binOp .eql 52 (.agg #[.int .i64 p.kind, .int .i64 p.src, .int .i64 p.frm, .int .i64 p.dst, .int .i64 p.too]) (.agg #[.int .i64 0, .int .i64 0, .int .i64 0, .int .i64 0, .int .i64 0])).run Tryd.prog w = .ok (.bool (keyZ p)) w := by
  rw [run_eql_struct, Tryd.keyEqU]; rfl

set_option maxRecDepth 100000 in
set_option maxHeartbeats 16000000 in
theorem isEvent_any (e : Ev) (w : World) : Calls Tryd.prog 72 #[evV e] w fun o w' => o = .returned (.bool (evB e)) ∧ Below w.heap.size w w' := by
  have hE := EvAt.new w e
  have hb : Below w.heap.size w (w.alloc (.cells #[.int .i64 e.time, .int .i64 e.node, .int .i64 e.what, .int .i64 e.key.kind, .int .i64 e.key.src, .int .i64 e.key.frm, .int .i64 e.key.dst, .int .i64 e.key.too] 54)) := (Below.refl _ _).alloc (Nat.le_refl _) _
  obtain ⟨t, n, x, k⟩ := e
  obtain ⟨r, hr⟩ : ∃ r, evB { time := t, node := n, what := x, key := k } = r := ⟨_, rfl⟩
  rw [hr]
  unfold evB at hr
  unfold evV
  simp only at hr hE hb ⊢
  obtain ⟨W, hW⟩ : ∃ W, w.alloc (.cells #[.int .i64 t, .int .i64 n, .int .i64 x, .int .i64 k.kind, .int .i64 k.src, .int .i64 k.frm, .int .i64 k.dst, .int .i64 k.too] 54) = W := ⟨_, rfl⟩
  rw [hW] at hE hb
  obtain ⟨c0, c1, c2, c3, c4, c5, c6, c7⟩ := hE.cells
  have HB := hidA hb
  clear hE hb
  simp only at c0 c1 c2 c3 c4 c5 c6 c7
  have HR := hidA hr
  clear hr
  by_cases h0 : 0 ≤ t
  · by_cases h1 : t ≤ 1000000
    · rcases (by omega : n = 0 ∨ n = 1 ∨ (¬ n = 0 ∧ ¬ n = 1)) with rfl | rfl | ⟨i0, i1⟩
      · by_cases h2 : 1 ≤ x
        · by_cases h3 : x ≤ 4
          · obtain rfl : r = true := by rw [← HR.out]; exact decide_eq_true (by omega)
            clear HR
            go_enter Tryd.func72, Tryd.ntmps72
            go_upto_region 1 with fail
            go_wp2_with fail
            go_ret
            exact ⟨rfl, HB.out⟩
          · obtain rfl : r = false := by rw [← HR.out]; exact decide_eq_false (by omega)
            clear HR
            go_enter Tryd.func72, Tryd.ntmps72
            go_upto_region 1 with fail
            go_wp2_with fail
            go_ret
            exact ⟨rfl, HB.out⟩
        · obtain rfl : r = false := by rw [← HR.out]; exact decide_eq_false (by omega)
          clear HR
          go_enter Tryd.func72, Tryd.ntmps72
          go_upto_region 1 with fail
          go_wp2_with fail
          go_ret
          exact ⟨rfl, HB.out⟩
      · by_cases h2 : 1 ≤ x
        · by_cases h3 : x ≤ 4
          · obtain rfl : r = true := by rw [← HR.out]; exact decide_eq_true (by omega)
            clear HR
            go_enter Tryd.func72, Tryd.ntmps72
            go_upto_region 1 with fail
            go_wp2_with fail
            go_ret
            exact ⟨rfl, HB.out⟩
          · obtain rfl : r = false := by rw [← HR.out]; exact decide_eq_false (by omega)
            clear HR
            go_enter Tryd.func72, Tryd.ntmps72
            go_upto_region 1 with fail
            go_wp2_with fail
            go_ret
            exact ⟨rfl, HB.out⟩
        · obtain rfl : r = false := by rw [← HR.out]; exact decide_eq_false (by omega)
          clear HR
          go_enter Tryd.func72, Tryd.ntmps72
          go_upto_region 1 with fail
          go_wp2_with fail
          go_ret
          exact ⟨rfl, HB.out⟩
      · have i0b : (n == 0) = false := by simpa using i0
        have i1b : (n == 1) = false := by simpa using i1
        obtain rfl : r = false := by rw [← HR.out]; exact decide_eq_false (by omega)
        clear HR i0 i1
        go_enter Tryd.func72, Tryd.ntmps72
        go_upto_region 1 with fail
        go_wp2_with fail
        go_ret
        exact ⟨rfl, HB.out⟩
    · obtain rfl : r = false := by rw [← HR.out]; exact decide_eq_false (by omega)
      clear HR
      go_enter Tryd.func72, Tryd.ntmps72
      go_upto_region 1 with fail
      go_wp2_with fail
      go_ret
      exact ⟨rfl, HB.out⟩
  · obtain rfl : r = false := by rw [← HR.out]; exact decide_eq_false (by omega)
    clear HR
    go_enter Tryd.func72, Tryd.ntmps72
    go_upto_region 1 with fail
    go_wp2_with fail
    go_ret
    exact ⟨rfl, HB.out⟩
set_option maxRecDepth 100000 in
set_option maxHeartbeats 16000000 in
theorem suits_any (e : Ev) (m : Int) (w : World) : Calls Tryd.prog 73 #[evV e, .int .i64 m] w fun o w' => o = .returned (.bool (suB e m)) ∧ Below w.heap.size w w' := by
  have hE := EvAt.new w e
  have hb : Below w.heap.size w (w.alloc (.cells #[.int .i64 e.time, .int .i64 e.node, .int .i64 e.what, .int .i64 e.key.kind, .int .i64 e.key.src, .int .i64 e.key.frm, .int .i64 e.key.dst, .int .i64 e.key.too] 54)) := (Below.refl _ _).alloc (Nat.le_refl _) _
  have hq := Tryd.keyEqlU e.key
  obtain ⟨t, n, x, k⟩ := e
  obtain ⟨r, hr⟩ : ∃ r, suB { time := t, node := n, what := x, key := k } m = r := ⟨_, rfl⟩
  rw [hr]
  unfold suB at hr
  unfold evV
  simp only at hr hE hb hq ⊢
  obtain ⟨W, hW⟩ : ∃ W, w.alloc (.cells #[.int .i64 t, .int .i64 n, .int .i64 x, .int .i64 k.kind, .int .i64 k.src, .int .i64 k.frm, .int .i64 k.dst, .int .i64 k.too] 54) = W := ⟨_, rfl⟩
  rw [hW] at hE hb
  obtain ⟨c0, c1, c2, c3, c4, c5, c6, c7⟩ := hE.cells
  have HB := hidA hb
  clear hE hb
  simp only at c0 c1 c2 c3 c4 c5 c6 c7
  generalize keyZ k = z at hr hq
  obtain ⟨d, hd⟩ : ∃ d, decide (n = m) = d := ⟨_, rfl⟩
  rw [hd] at hr
  have hdm : (n == m) = d := by rw [← hd]; exact Bool.eq_iff_iff.2 (by simp)
  clear hd
  have HR := hidA hr
  clear hr
  rcases (by omega : x = 1 ∨ x = 3 ∨ x = 4 ∨ (¬ x = 1 ∧ ¬ x = 3 ∧ ¬ x = 4)) with rfl | rfl | rfl | ⟨i1, i3, i4⟩
  · obtain rfl : r = d := by rw [← HR.out]; rfl
    clear HR
    go_enter Tryd.func73, Tryd.ntmps73
    go_upto_region 1 with fail
    go_wp2_with fail
    go_ret
    exact ⟨by first | rfl | simp, HB.out⟩
  · obtain rfl : r = (z && !d) := by rw [← HR.out]; rfl
    clear HR
    cases z <;> cases d
    all_goals
      go_enter Tryd.func73, Tryd.ntmps73
      go_upto_region 1 with fail
      go_wp2_with fail
      go_ret
      exact ⟨by first | rfl | simp, HB.out⟩
  · obtain rfl : r = (z && d) := by rw [← HR.out]; rfl
    clear HR
    cases z <;> cases d
    all_goals
      go_enter Tryd.func73, Tryd.ntmps73
      go_upto_region 1 with fail
      go_wp2_with fail
      go_ret
      exact ⟨by first | rfl | simp, HB.out⟩
  · obtain rfl : r = true := by rw [← HR.out, if_neg i1, if_neg i3, if_neg i4]
    have i1b : (x == 1) = false := by simpa using i1
    have i3b : (x == 3) = false := by simpa using i3
    have i4b : (x == 4) = false := by simpa using i4
    clear HR i1 i3 i4
    go_enter Tryd.func73, Tryd.ntmps73
    go_upto_region 1 with fail
    go_wp2_with fail
    go_ret
    exact ⟨by first | rfl | simp, HB.out⟩
set_option maxRecDepth 100000 in
set_option maxHeartbeats 16000000 in
theorem wrong_any (e : Ev) (now m : Int) (w : World) : Calls Tryd.prog 50 #[evV e, .int .i64 now, .int .i64 m] w fun o w' => o = .returned (auV (wrN e now m)) ∧ Below w.heap.size w w' := by
  have hE := EvAt.new w e
  have hb : Below w.heap.size w (w.alloc (.cells #[.int .i64 e.time, .int .i64 e.node, .int .i64 e.what, .int .i64 e.key.kind, .int .i64 e.key.src, .int .i64 e.key.frm, .int .i64 e.key.dst, .int .i64 e.key.too] 54)) := (Below.refl _ _).alloc (Nat.le_refl _) _
  have f1 := fun W => isEvent_any e W
  have f2 := fun W => suits_any e m W
  unfold evV at f1 f2 ⊢
  obtain ⟨W, hW⟩ : ∃ W, w.alloc (.cells #[.int .i64 e.time, .int .i64 e.node, .int .i64 e.what, .int .i64 e.key.kind, .int .i64 e.key.src, .int .i64 e.key.frm, .int .i64 e.key.dst, .int .i64 e.key.too] 54) = W := ⟨_, rfl⟩
  rw [hW] at hE hb
  have HB := hidA hb
  have HE := hidA hE
  obtain ⟨c0, c1, c2, c3, c4, c5, c6, c7⟩ := hE.cells
  clear hE hb
  obtain ⟨r, hr⟩ : ∃ r, wrN e now m = r := ⟨_, rfl⟩
  rw [hr]
  unfold wrN at hr
  generalize evB e = g1 at hr f1
  generalize suB e m = g2 at hr f2
  have HR := hidA hr
  clear hr
  obtain ⟨t, n, x, k⟩ := e
  simp only at c0 c1 c2 c3 c4 c5 c6 c7 HR f1 f2 HE hW ⊢
  go_enter Tryd.func50, Tryd.ntmps50
  go_upto_region 1 with fail
  cases g1
  · obtain rfl : r = 1 := by rw [← HR.out]; rfl
    clear HR f2
    go_wp2_with (go_at_call 72; go_must ((with_reducible refine (f1 _).mono ?_); rintro e W1 ⟨rfl, b1⟩))
    go_ret
    exact ⟨rfl, HB.out.trans (b1.mono HB.out.size)⟩
  · by_cases h2 : t < now
    · obtain rfl : r = 6 := by rw [← HR.out, if_neg (by simp), if_pos h2]
      clear HR f2
      go_wp2_with (go_at_call 72; go_must ((with_reducible refine (f1 _).mono ?_); rintro e W1 ⟨rfl, b1⟩; obtain ⟨d0, d1, d2, d3, d4, d5, d6, d7⟩ := (HE.out.below HE.out.lt b1).cells; simp only at d0 d1 d2 d3 d4 d5 d6 d7))
      go_ret
      exact ⟨rfl, HB.out.trans (b1.mono HB.out.size)⟩
    · cases g2
      · obtain rfl : r = 3 := by rw [← HR.out, if_neg (by simp), if_neg h2]; rfl
        clear HR
        go_wp2_with (first | (go_at_call 72; go_must ((with_reducible refine (f1 _).mono ?_); rintro e W1 ⟨rfl, b1⟩; have HE1 := hidA (HE.out.below HE.out.lt b1); obtain ⟨d0, d1, d2, d3, d4, d5, d6, d7⟩ := HE1.out.cells; simp only at d0 d1 d2 d3 d4 d5 d6 d7; have HB1 := hidA (HB.out.trans (b1.mono HB.out.size)); clear b1)) | (go_at_call 73; go_must ((with_reducible refine (f2 _).mono ?_); rintro e W2 ⟨rfl, b2⟩)))
        go_ret
        exact ⟨rfl, HB1.out.trans (b2.mono HB1.out.size)⟩
      · rcases (by omega : x = 3 ∧ ¬ m = -1 ∨ x = 3 ∧ m = -1 ∨ ¬ x = 3) with ⟨rfl, u2⟩ | ⟨rfl, rfl⟩ | u1
        · have u2b : (m == -1) = false := by simpa using u2
          obtain rfl : r = 7 := by rw [← HR.out, if_neg (by simp), if_neg h2, if_neg (by simp), if_pos ⟨rfl, u2⟩]
          clear HR u2
          go_wp2_with (first | (go_at_call 72; go_must ((with_reducible refine (f1 _).mono ?_); rintro e W1 ⟨rfl, b1⟩; have HE1 := hidA (HE.out.below HE.out.lt b1); obtain ⟨d0, d1, d2, d3, d4, d5, d6, d7⟩ := HE1.out.cells; simp only at d0 d1 d2 d3 d4 d5 d6 d7; have HB1 := hidA (HB.out.trans (b1.mono HB.out.size)); clear b1)) | (go_at_call 73; go_must ((with_reducible refine (f2 _).mono ?_); rintro e W2 ⟨rfl, b2⟩; have HE2 := hidA (HE1.out.below HE1.out.lt b2); obtain ⟨e0, e1, e2, e3, e4, e5, e6, e7⟩ := HE2.out.cells; simp only at e0 e1 e2 e3 e4 e5 e6 e7; have HB2 := hidA (HB1.out.trans (b2.mono HB1.out.size)); clear b2)))
          go_ret
          exact ⟨rfl, HB2.out⟩
        · obtain rfl : r = 0 := by rw [← HR.out, if_neg (by simp), if_neg h2, if_neg (by simp), if_neg (fun h => h.2 rfl)]
          clear HR
          go_wp2_with (first | (go_at_call 72; go_must ((with_reducible refine (f1 _).mono ?_); rintro e W1 ⟨rfl, b1⟩; have HE1 := hidA (HE.out.below HE.out.lt b1); obtain ⟨d0, d1, d2, d3, d4, d5, d6, d7⟩ := HE1.out.cells; simp only at d0 d1 d2 d3 d4 d5 d6 d7; have HB1 := hidA (HB.out.trans (b1.mono HB.out.size)); clear b1)) | (go_at_call 73; go_must ((with_reducible refine (f2 _).mono ?_); rintro e W2 ⟨rfl, b2⟩; have HE2 := hidA (HE1.out.below HE1.out.lt b2); obtain ⟨e0, e1, e2, e3, e4, e5, e6, e7⟩ := HE2.out.cells; simp only at e0 e1 e2 e3 e4 e5 e6 e7; have HB2 := hidA (HB1.out.trans (b2.mono HB1.out.size)); clear b2)))
          go_ret
          exact ⟨rfl, HB2.out⟩
        · have u1b : (x == 3) = false := by simpa using u1
          obtain rfl : r = 0 := by rw [← HR.out, if_neg (by simp), if_neg h2, if_neg (by simp), if_neg (fun h => u1 h.1)]
          clear HR u1
          go_wp2_with (first | (go_at_call 72; go_must ((with_reducible refine (f1 _).mono ?_); rintro e W1 ⟨rfl, b1⟩; have HE1 := hidA (HE.out.below HE.out.lt b1); obtain ⟨d0, d1, d2, d3, d4, d5, d6, d7⟩ := HE1.out.cells; simp only at d0 d1 d2 d3 d4 d5 d6 d7; have HB1 := hidA (HB.out.trans (b1.mono HB.out.size)); clear b1)) | (go_at_call 73; go_must ((with_reducible refine (f2 _).mono ?_); rintro e W2 ⟨rfl, b2⟩; have HE2 := hidA (HE1.out.below HE1.out.lt b2); obtain ⟨e0, e1, e2, e3, e4, e5, e6, e7⟩ := HE2.out.cells; simp only at e0 e1 e2 e3 e4 e5 e6 e7; have HB2 := hidA (HB1.out.trans (b2.mono HB1.out.size)); clear b2)))
          go_ret
          exact ⟨rfl, HB2.out⟩
end Go.Proofs.YtfgaalhaeadhmaaDoor
