/- What Count and take of the reference's counts return, and leave. -/
import Derived.Test.YtchailjgikjhlaaDoorRefH0
namespace Go.Proofs.YtchailjgikjhlaaDoor
open Go.RowKit Go.Maps
set_option linter.unusedVariables false

theorem ct_set1 {w : World} {b : Nat} {x y z : Value} (h : w.heap[b]? = some (.cells #[x, y, z] 37 (0, 0))) (y' : Value) :
    ∃ w', w.setCell ⟨b, 1, none⟩ y' = w' ∧ w'.heap[b]? = some (.cells #[x, y', z] 37 (0, 0)) ∧ Only b w w' :=
  ⟨_, rfl, heap_setCell_same _ b 1 _ _ y' h, (Only.refl _ _).setCell _ _⟩
set_option maxRecDepth 100000 in
set_option maxHeartbeats 8000000 in
theorem rcount_any (base b : Nat) (h : Hv) (v : Value) (key : Int) (w : World) (k : RfAt w base b h v) (hl : h.l.length ≤ 1000) (ha : ApC h.l) :
    Calls Tryd.prog 9 #[.pointer (some ⟨b, 0, none⟩), .int .i64 key] w fun e w' => e = .returned (cntV key (getC h.l key) h.less) ∧ Below w.heap.size w w' := by
  have B1 : Below w.heap.size w ((w.alloc (.cells #[.int .i64 0, .int .i64 0, .int .i64 0] 37)).alloc (.cells #[.int .i64 key, .int .i64 0, .int .i64 h.less] 37)) := ((Below.refl _ _).alloc (Nat.le_refl _) _).alloc (by simp) _
  have k1 := k.below B1
  have x0 : ((w.alloc (.cells #[.int .i64 0, .int .i64 0, .int .i64 0] 37)).alloc (.cells #[.int .i64 key, .int .i64 0, .int .i64 h.less] 37)).heap[w.heap.size]? = some (.cells #[.int .i64 0, .int .i64 0, .int .i64 0] 37 (0, 0)) := (Below.heap_alloc _ _ _ (by simp)).trans (heap_alloc_new _ _)
  have x1 : ((w.alloc (.cells #[.int .i64 0, .int .i64 0, .int .i64 0] 37)).alloc (.cells #[.int .i64 key, .int .i64 0, .int .i64 h.less] 37)).heap[w.heap.size + 1]? = some (.cells #[.int .i64 key, .int .i64 0, .int .i64 h.less] 37 (0, 0)) := by
    have := heap_alloc_new (w.alloc (.cells #[.int .i64 0, .int .i64 0, .int .i64 0] 37)) (.cells #[.int .i64 key, .int .i64 0, .int .i64 h.less] 37)
    simpa using this
  have c1 := (rf_cells (k.below ((Below.refl _ _).alloc (Nat.le_refl _) (.cells #[.int .i64 0, .int .i64 0, .int .i64 0] 37))).blk).2.1
  have hblt := k.lt
  unfold cntV
  obtain ⟨less, hless⟩ : ∃ less, h.less = less := ⟨_, rfl⟩
  rw [hless] at B1 k1 x0 x1 c1
  rw [hless]
  obtain ⟨W1, hW1⟩ : ∃ W1, (w.alloc (.cells #[.int .i64 0, .int .i64 0, .int .i64 0] 37)).alloc (.cells #[.int .i64 key, .int .i64 0, .int .i64 less] 37) = W1 := ⟨_, rfl⟩
  rw [hW1] at B1 k1 x0 x1
  have hat := rat_any base b h v key W1 k1 hl
  have HA := hidE ha
  have HR := hidE k1.row
  have HK := hidE k1
  have HB := hidE B1
  have HX0 := hidE x0
  have HX1 := hidE x1
  obtain ⟨a, c, rfl⟩ := k.at
  obtain ⟨g0, hg0⟩ : ∃ g0, getC h.l key = g0 := ⟨_, rfl⟩
  have HG := hidE hg0
  rw [hg0]
  clear k k1 B1 x0 x1 ha hless hg0
  go_enter Tryd.func9, Tryd.ntmps9
  go_upto_region 2 with fail
  try rw [hW1]
  clear hW1 c1
  go_upto_region 3 with (go_at_call 20; go_must (refine hat.mono ?_; rintro e W2 ⟨⟨j, rfl, hj⟩, hW2⟩; rw [hW2]; clear hW2 W2))
  rcases atC_get HA.out hj with ⟨rfl, hz, _⟩ | ⟨i, hi, rfl, hik, hiv⟩
  · have e0 : g0 = 0 := by rw [← HG.out]; exact hz
    subst e0
    obtain ⟨d0, d1, d2⟩ := ct_cells HX1.out
    obtain ⟨f0, f1, f2⟩ := ct_frees HX0.out
    obtain ⟨p0, p1, p2⟩ := ct_cells HX0.out
    obtain ⟨W4, hW4, x4, o4⟩ := ct_set HX0.out (.int .i64 key) (.int .i64 0) (.int .i64 less)
    have HB4 := hidE (o4.below (Nat.le_refl _) HB.out)
    have HX4 := hidE x4
    have HW := hidE hW4
    clear hj hz hat x4 o4 hW4
    go_wp2_with fail
    try rw [HW.out]
    obtain ⟨e0, e1, e2⟩ := ct_cells HX4.out
    exact bodyPost_ret (v := .agg #[.int .i64 key, .int .i64 0, .int .i64 less]) (by simp [results, Tryd.results9, go_sem, e0, e1, e2]) rfl ⟨rfl, HB4.out⟩
  · have hi1 : (i : Int) < (h.l.length : Int) := by omega
    obtain ⟨g, cap, e, h1, h2, h3, h4, hc⟩ := HR.out (by omega)
    simp only [Value.slice.injEq, true_and] at e
    obtain ⟨rfl, rfl⟩ := e
    obtain ⟨_, q1, _⟩ := hc i hi
    rw [hiv, HG.out] at q1
    obtain ⟨_, _, _, r3⟩ := rf_cells HK.out.blk
    obtain ⟨d0, d1, d2⟩ := ct_cells HX1.out
    obtain ⟨y0, y1, y2⟩ := ct_frees HX1.out
    obtain ⟨W3, hW3, x3, o3⟩ := ct_set1 HX1.out (.int .i64 g0)
    have x3' := (o3.block w.heap.size (by omega)).trans HX0.out
    have HB3 := hidE (o3.below (Nat.le_succ _) HB.out)
    clear hj hat hc hik hiv
    go_upto_region 5 with fail
    try rw [hW3]
    obtain ⟨W4, hW4, x4, o4⟩ := ct_set x3' (.int .i64 key) (.int .i64 g0) (.int .i64 less)
    obtain ⟨f0, f1, f2⟩ := ct_frees x3'
    obtain ⟨p0, p1, p2⟩ := ct_cells x3'
    obtain ⟨d0, d1, d2⟩ := ct_cells x3
    have HB4 := hidE (o4.below (Nat.le_refl _) HB3.out)
    have HX4 := hidE x4
    have HW := hidE hW4
    clear x4 o4 hW4 hW3 x3 x3' o3 y0 y1 y2 r3 q1
    go_wp2_with fail
    try rw [HW.out]
    obtain ⟨e0, e1, e2⟩ := ct_cells HX4.out
    exact bodyPost_ret (v := .agg #[.int .i64 key, .int .i64 g0, .int .i64 less]) (by simp [results, Tryd.results9, go_sem, e0, e1, e2]) rfl ⟨rfl, HB4.out⟩
end Go.Proofs.YtchailjgikjhlaaDoor
