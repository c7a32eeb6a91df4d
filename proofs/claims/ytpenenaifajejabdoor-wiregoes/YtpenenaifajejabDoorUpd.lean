/- What isSum and Update of package sum return, for every input: a number and nil where the numbers may be, else 0 and ErrRange. -/
import Derived.Test.YtpenenaifajejabDoorSums
namespace Go.Proofs.YtpenenaifajejabDoor
open Go.RowKit
set_option linter.unusedVariables false

theorem word_yes {n : Int} (h0 : 0 ≤ n) (h1 : n ≤ 65535) : word n = true := by simp [word, h0, h1]
theorem word_no {n : Int} (h : ¬ (0 ≤ n ∧ n ≤ 65535)) : word n = false := by simpa [word] using h
theorem of_word {n : Int} (h : word n = true) : 0 ≤ n ∧ n ≤ 65535 := by simpa [word] using h

theorem isSum_any (n : Int) (w : World) :
    Calls Tryd.prog 61 #[.int .i64 n] w fun e w' => e = .returned (.bool (word n)) ∧ w' = w := by
  by_cases h0 : 0 ≤ n
  · by_cases h1 : n ≤ 65535
    · rw [word_yes h0 h1]
      go_enter Tryd.func61, Tryd.ntmps61
      go_wp2
      go_ret
      exact ⟨rfl, rfl⟩
    · rw [word_no (by omega)]
      go_enter Tryd.func61, Tryd.ntmps61
      go_wp2
      go_ret
      exact ⟨rfl, rfl⟩
  · rw [word_no (by omega)]
    go_enter Tryd.func61, Tryd.ntmps61
    go_wp2
    go_ret
    exact ⟨rfl, rfl⟩
theorem update_yes (a b c : Int) (w : World) (ha : word a = true) (hb : word b = true) (hc : word c = true) :
    Calls Tryd.prog 47 #[.int .i64 a, .int .i64 b, .int .i64 c] w fun e w' => e = .returned (.tuple #[.int .i64 (65535 - addS (addS (65535 - a) (65535 - b)) c), .nilIface]) ∧ w' = w := by
  have h1 := of_word ha
  have h2 := of_word hb
  have h3 := of_word hc
  have h4 := addS_range (a := 65535 - a) (b := 65535 - b) (by omega) (by omega) (by omega) (by omega)
  have h5 := addS_range (a := addS (65535 - a) (65535 - b)) (b := c) (by omega) (by omega) (by omega) (by omega)
  go_enter Tryd.func47, Tryd.ntmps47
  go_wp2_with (first | (go_at_call 61; refine (isSum_any _ _).mono ?_; rintro e w' ⟨rfl, rfl⟩) | (go_at_call 62; refine (add_any _ _ _ (by omega) (by omega) (by omega) (by omega)).mono ?_; rintro e w' ⟨rfl, rfl⟩))
  go_ret2
  exact ⟨rfl, rfl⟩
theorem update_no (a b c : Int) (w : World) (h : (word a && word b && word c) = false) :
    Calls Tryd.prog 47 #[.int .i64 a, .int .i64 b, .int .i64 c] w fun e w' => e = .returned (.tuple #[.int .i64 0, .iface 65 (.int .i64 1)]) ∧ w' = w := by
  rcases ha : word a with _ | _
  · clear h
    go_enter Tryd.func47, Tryd.ntmps47
    go_wp2_with (go_at_call 61; refine (isSum_any _ _).mono ?_; rintro e w' ⟨rfl, rfl⟩)
    go_ret2
    exact ⟨rfl, rfl⟩
  · rcases hb : word b with _ | _
    · clear h
      go_enter Tryd.func47, Tryd.ntmps47
      go_wp2_with (go_at_call 61; refine (isSum_any _ _).mono ?_; rintro e w' ⟨rfl, rfl⟩)
      go_ret2
      exact ⟨rfl, rfl⟩
    · have hc : word c = false := by simpa [ha, hb] using h
      clear h
      go_enter Tryd.func47, Tryd.ntmps47
      go_wp2_with (go_at_call 61; refine (isSum_any _ _).mono ?_; rintro e w' ⟨rfl, rfl⟩)
      go_ret2
      exact ⟨rfl, rfl⟩

end Go.Proofs.YtpenenaifajejabDoor
