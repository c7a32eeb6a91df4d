/- What the program's Has and Inside return (package addr), for every input. -/
import Derived.Test.YtdellfmkmbabhaaAddrNum
namespace Go.Proofs.Ytdellfmkmbabhaa
open Go.RowKit
set_option linter.unusedVariables false

theorem hasB_eq {a l x : Int} (h : prefE a l = 0) : hasB a l x = (decide (a ≤ x) && decide (x ≤ a + pw (32 - l) - 1)) := by
  unfold hasB
  by_cases c : a ≤ x ∧ x ≤ a + pw (32 - l) - 1
  · obtain ⟨c1, c2⟩ := c
    have hx : isAddr x = true := by
      obtain ⟨hA, hL, hm⟩ := prefE_zero h
      apply isAddr_yes (by omega)
      have := pref_top h
      omega
    simp [h, hx, c1, c2]
  · by_cases c1 : a ≤ x
    · have c2 : ¬ x ≤ a + pw (32 - l) - 1 := fun h => c ⟨c1, h⟩
      simp [c2]
    · simp [c1]

/-- Two boxed pairs of numbers read as they did behind whatever only makes memory. -/
theorem boxed2 {w w1 : World} {a l b m : Int} {t : TypeId} (hb : Below ((w.alloc (.cells #[.int .i64 a, .int .i64 l] t)).alloc (.cells #[.int .i64 b, .int .i64 m] t)).heap.size ((w.alloc (.cells #[.int .i64 a, .int .i64 l] t)).alloc (.cells #[.int .i64 b, .int .i64 m] t)) w1) :
    w1.cell? ⟨w.heap.size, 0, none⟩ = some (.int .i64 a) ∧ w1.cell? ⟨w.heap.size, 1, none⟩ = some (.int .i64 l) ∧ w1.cell? ⟨w.heap.size + 1, 0, none⟩ = some (.int .i64 b) ∧ w1.cell? ⟨w.heap.size + 1, 1, none⟩ = some (.int .i64 m) ∧ Below w.heap.size w w1 ∧ w.heap.size + 1 < w1.heap.size := by
  have e : (w.alloc (.cells #[.int .i64 a, .int .i64 l] t)).heap.size = w.heap.size + 1 := by simp
  obtain ⟨c0, c1, b1, z1⟩ := boxed hb
  rw [e] at c0 c1 b1 z1
  have h0 : Below (w.alloc (.cells #[.int .i64 a, .int .i64 l] t)).heap.size (w.alloc (.cells #[.int .i64 a, .int .i64 l] t)) w1 := by rw [e]; exact b1
  obtain ⟨d0, d1, b2, z2⟩ := boxed h0
  exact ⟨d0, d1, c0, c1, b2, z1⟩

theorem boxed2' {w1 w2 : World} {B : Nat} {a l b m : Int} (c0 : w1.cell? ⟨B, 0, none⟩ = some (.int .i64 a)) (c1 : w1.cell? ⟨B, 1, none⟩ = some (.int .i64 l)) (c2 : w1.cell? ⟨B + 1, 0, none⟩ = some (.int .i64 b)) (c3 : w1.cell? ⟨B + 1, 1, none⟩ = some (.int .i64 m)) (z : B + 1 < w1.heap.size) (hb : Below w1.heap.size w1 w2) :
    w2.cell? ⟨B, 0, none⟩ = some (.int .i64 a) ∧ w2.cell? ⟨B, 1, none⟩ = some (.int .i64 l) ∧ w2.cell? ⟨B + 1, 0, none⟩ = some (.int .i64 b) ∧ w2.cell? ⟨B + 1, 1, none⟩ = some (.int .i64 m) := by
  refine ⟨?_, ?_, ?_, ?_⟩
  · rw [hb.cell (p := ⟨B, 0, none⟩) (by show B < _; omega)]; exact c0
  · rw [hb.cell (p := ⟨B, 1, none⟩) (by show B < _; omega)]; exact c1
  · rw [hb.cell (p := ⟨B + 1, 0, none⟩) z]; exact c2
  · rw [hb.cell (p := ⟨B + 1, 1, none⟩) z]; exact c3

set_option maxHeartbeats 1000000 in
theorem has_any (a l x : Int) (w : World) :
    Calls Try.prog 59 #[.agg #[.int .i64 a, .int .i64 l], .int .i64 x] w fun e w' => e = .returned (.bool (hasB a l x)) ∧ Below w.heap.size w w' := by
  by_cases h : prefE a l = 0
  · have e := hasB_eq (x := x) h
    rw [e]
    have hck := fun w => check_ok a l w h
    have hen := fun w => ends_ok a l w h
    clear e h
    generalize a + pw (32 - l) - 1 = y at hen ⊢
    by_cases c : a ≤ x
    all_goals
      go_enter Try.func59, Try.ntmps59
      go_wp2_with (first
        | (go_at_call 61; refine (hen _).mono ?_; rintro e w1 ⟨rfl, hb1⟩; obtain ⟨c0, c1, b1, z1⟩ := boxed hb1)
        | (go_at_call 30; refine (hck _).mono ?_; rintro e w2 ⟨rfl, hb2⟩))
      go_ret
      refine ⟨?_, b1.trans (hb2.mono (Nat.le_of_lt z1))⟩
      first | (simp [c]; done) | (simp; omega)
  · have e : hasB a l x = false := by unfold hasB; simp [h]
    rw [e]
    have hck := fun w => check_bad a l w h
    have hen := fun w => ends_bad a l w h
    clear e h
    go_enter Try.func59, Try.ntmps59
    go_wp2_with (first
      | (go_at_call 61; refine (hen _).mono ?_; rintro e w1 ⟨rfl, hb1⟩; obtain ⟨c0, c1, b1, z1⟩ := boxed hb1)
      | (go_at_call 30; refine (hck _).mono ?_; rintro e w2 ⟨rfl, hb2⟩))
    go_ret
    exact ⟨rfl, b1.trans (hb2.mono (Nat.le_of_lt z1))⟩

/-- Is the prefix a/l inside the prefix b/m? -/
def insideB (a l b m : Int) : Bool := decide (prefE a l = 0) && (hasB b m a && decide (m ≤ l))

end Go.Proofs.Ytdellfmkmbabhaa
