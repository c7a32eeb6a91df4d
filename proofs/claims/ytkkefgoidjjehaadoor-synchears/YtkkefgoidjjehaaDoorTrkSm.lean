/- What the small functions of package track return (within, Life, has, end, ahead), where the table of lives holds what the rows lay ('Lives'). -/
import Derived.Test.YtkkefgoidjjehaaDoorMgC
import Derived.Laws.BitsLemmas
namespace Go.Proofs.YtkkefgoidjjehaaDoor
open Go.RowKit
set_option linter.unusedVariables false

/-- The table of lives. -/
def Lives (w : World) : Prop := ∃ ty fz, w.heap[1]? = some (.cells #[.int .i64 0, .int .i64 0, .int .i64 0, .int .i64 0, .int .i64 0, .int .i64 0, .int .i64 30, .int .i64 300, .int .i64 60, .int .i64 10, .int .i64 0, .int .i64 30, .int .i64 60, .int .i64 0, .int .i64 0, .int .i64 0, .int .i64 10, .int .i64 20, .int .i64 0, .int .i64 0] ty fz)
theorem Lives.lt {w : World} (h : Lives w) : 1 < w.heap.size := by
  obtain ⟨ty, fz, h⟩ := h
  rcases Nat.lt_or_ge 1 w.heap.size with h1 | h1
  · exact h1
  · simp [Array.getElem?_eq_none h1] at h
theorem Lives.below {w w' : World} (h : Lives w) (hb : Below w.heap.size w w') : Lives w' := by
  have hl := h.lt
  obtain ⟨ty, fz, h⟩ := h
  exact ⟨ty, fz, by rw [hb.block _ hl]; exact h⟩
theorem Lives.only {w w' : World} {g : Nat} (h : Lives w) (hne : 1 ≠ g) (ho : Only g w w') : Lives w' := by
  obtain ⟨ty, fz, h⟩ := h
  exact ⟨ty, fz, by rw [ho.block _ hne]; exact h⟩
theorem Lives.cell {w : World} (h : Lives w) {k s : Nat} (hk : k ≤ 3) (hs : s ≤ 4) : w.cell? ⟨1, k * 5 + s, none⟩ = some (.int .i64 (lifeI k s)) := by
  obtain ⟨ty, fz, h⟩ := h
  have hk' : k = 0 ∨ k = 1 ∨ k = 2 ∨ k = 3 := by omega
  have hs' : s = 0 ∨ s = 1 ∨ s = 2 ∨ s = 3 ∨ s = 4 := by omega
  rcases hk' with rfl | rfl | rfl | rfl <;> rcases hs' with rfl | rfl | rfl | rfl | rfl <;> (rw [cell_of_row _ _ _ _ _ _ h]; rfl)

theorem within_any (n lo hi : Int) (w : World) :
    Calls Tryd.prog 39 #[.int .i64 n, .int .i64 lo, .int .i64 hi] w fun e w' => e = .returned (.bool (inR n lo hi)) ∧ w' = w := by
  by_cases h0 : lo ≤ n
  · by_cases h1 : n ≤ hi
    · rw [inR_yes h0 h1]
      go_enter Tryd.func39, Tryd.ntmps39
      go_wp2
      go_ret
      exact ⟨rfl, rfl⟩
    · rw [inR_no (by omega)]
      go_enter Tryd.func39, Tryd.ntmps39
      go_wp2
      go_ret
      exact ⟨rfl, rfl⟩
  · rw [inR_no (by omega)]
    go_enter Tryd.func39, Tryd.ntmps39
    go_wp2
    go_ret
    exact ⟨rfl, rfl⟩
theorem life_out {k s : Int} (h : ¬ (0 ≤ k ∧ k ≤ 3 ∧ 0 ≤ s ∧ s ≤ 4)) : lifeI k s = 0 := by
  unfold lifeI; repeat' split
  all_goals omega
theorem life_any (k s : Int) (w : World) (hL : Lives w) :
    Calls Tryd.prog 40 #[.int .i64 k, .int .i64 s] w fun e w' => e = .returned (.int .i64 (lifeI k s)) ∧ w' = w := by
  have c1 := fun W => within_any k 0 3 W
  have c2 := fun W => within_any s 0 4 W
  have m0 : True := trivial
  by_cases hk : 0 ≤ k ∧ k ≤ 3
  · rw [inR_yes hk.1 hk.2] at c1
    by_cases hs : 0 ≤ s ∧ s ≤ 4
    · rw [inR_yes hs.1 hs.2] at c2
      obtain ⟨a, rfl⟩ := Int.eq_ofNat_of_zero_le hk.1
      obtain ⟨b, rfl⟩ := Int.eq_ofNat_of_zero_le hs.1
      have hc := hL.cell (k := a) (s := b) (by omega) (by omega)
      have ha : a = 0 ∨ a = 1 ∨ a = 2 ∨ a = 3 := by omega
      have hb : b = 0 ∨ b = 1 ∨ b = 2 ∨ b = 3 ∨ b = 4 := by omega
      obtain ⟨r, hr⟩ : ∃ r, lifeI (a : Nat) (b : Nat) = r := ⟨_, rfl⟩
      rw [hr] at hc ⊢
      clear hr hL hk hs
      rcases ha with rfl | rfl | rfl | rfl <;> rcases hb with rfl | rfl | rfl | rfl | rfl <;>
        (simp only [Nat.zero_mul, Nat.one_mul, Nat.reduceMul, Nat.zero_add, Nat.reduceAdd, Int.cast_ofNat_Int] at hc c1 c2 ⊢
         go_enter Tryd.func40, Tryd.ntmps40
         go_wp2_with (first
          | (go_at_call 39; have m1 : True := m0; clear m0; refine (c1 _).mono ?_; rintro e w' ⟨rfl, rfl⟩)
          | (go_at_call 39; have m2 : True := m1; clear m1; refine (c2 _).mono ?_; rintro e w' ⟨rfl, rfl⟩))
         go_ret
         exact ⟨rfl, rfl⟩)
    · rw [inR_no hs] at c2
      rw [life_out (by omega)]
      clear hs hk
      go_enter Tryd.func40, Tryd.ntmps40
      go_wp2_with (first
        | (go_at_call 39; have m1 : True := m0; clear m0; refine (c1 _).mono ?_; rintro e w' ⟨rfl, rfl⟩)
        | (go_at_call 39; have m2 : True := m1; clear m1; refine (c2 _).mono ?_; rintro e w' ⟨rfl, rfl⟩))
      go_ret
      exact ⟨rfl, rfl⟩
  · rw [inR_no hk] at c1
    rw [life_out (by omega)]
    clear hk
    go_enter Tryd.func40, Tryd.ntmps40
    go_wp2_with (first
      | (go_at_call 39; have m1 : True := m0; clear m0; refine (c1 _).mono ?_; rintro e w' ⟨rfl, rfl⟩)
      | (go_at_call 39; have m2 : True := m1; clear m1; refine (c2 _).mono ?_; rintro e w' ⟨rfl, rfl⟩))
    go_ret
    exact ⟨rfl, rfl⟩

theorem and_flag (g f : Int) (h0 : 0 ≤ g) (h1 : g ≤ 15) (hf : f = 1 ∨ f = 2 ∨ f = 4 ∨ f = 8) : (bits .and .i64 g f != 0) = decide (g / f % 2 = 1) := by
  have hg : g = 0 ∨ g = 1 ∨ g = 2 ∨ g = 3 ∨ g = 4 ∨ g = 5 ∨ g = 6 ∨ g = 7 ∨ g = 8 ∨ g = 9 ∨ g = 10 ∨ g = 11 ∨ g = 12 ∨ g = 13 ∨ g = 14 ∨ g = 15 := by omega
  rcases hg with rfl | rfl | rfl | rfl | rfl | rfl | rfl | rfl | rfl | rfl | rfl | rfl | rfl | rfl | rfl | rfl <;> rcases hf with rfl | rfl | rfl | rfl <;> decide
end Go.Proofs.YtkkefgoidjjehaaDoor
