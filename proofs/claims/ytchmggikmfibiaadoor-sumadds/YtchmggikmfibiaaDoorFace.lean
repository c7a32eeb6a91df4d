/- What Add, Update and Pad of package sum return, for every input: a number and nil where the numbers may be, else 0 and ErrRange. -/
import Derived.Test.YtchmggikmfibiaaDoorSums
import Derived.Test.YtchmggikmfibiaaDoorTold
namespace Go.Proofs.YtchmggikmfibiaaDoor
open Go.RowKit
set_option linter.unusedVariables false

theorem word_yes {n : Int} (h0 : 0 ≤ n) (h1 : n ≤ 65535) : word n = true := by simp [word, h0, h1]
theorem word_no {n : Int} (h : ¬ (0 ≤ n ∧ n ≤ 65535)) : word n = false := by simpa [word] using h
theorem of_word {n : Int} (h : word n = true) : 0 ≤ n ∧ n ≤ 65535 := by simpa [word] using h

theorem isSum_any (n : Int) (w : World) :
    Calls Tryd.prog 14 #[.int .i64 n] w fun e w' => e = .returned (.bool (word n)) ∧ w' = w := by
  by_cases h0 : 0 ≤ n
  · by_cases h1 : n ≤ 65535
    · rw [word_yes h0 h1]
      go_enter Tryd.func14, Tryd.ntmps14
      go_wp2
      go_ret
      exact ⟨rfl, rfl⟩
    · rw [word_no (by omega)]
      go_enter Tryd.func14, Tryd.ntmps14
      go_wp2
      go_ret
      exact ⟨rfl, rfl⟩
  · rw [word_no (by omega)]
    go_enter Tryd.func14, Tryd.ntmps14
    go_wp2
    go_ret
    exact ⟨rfl, rfl⟩
theorem refWord_any (n : Int) (w : World) :
    Calls Tryd.prog 7 #[.int .i64 n] w fun e w' => e = .returned (.bool (word n)) ∧ w' = w := by
  by_cases h0 : 0 ≤ n
  · by_cases h1 : n ≤ 65535
    · rw [word_yes h0 h1]
      go_enter Tryd.func7, Tryd.ntmps7
      go_wp2
      go_ret
      exact ⟨rfl, rfl⟩
    · rw [word_no (by omega)]
      go_enter Tryd.func7, Tryd.ntmps7
      go_wp2
      go_ret
      exact ⟨rfl, rfl⟩
  · rw [word_no (by omega)]
    go_enter Tryd.func7, Tryd.ntmps7
    go_wp2
    go_ret
    exact ⟨rfl, rfl⟩

theorem sumAdd_yes (a b : Int) (w : World) (ha : word a = true) (hb : word b = true) :
    Calls Tryd.prog 9 #[.int .i64 a, .int .i64 b] w fun e w' => e = .returned (.tuple #[.int .i64 (addS a b), .nilIface]) ∧ w' = w := by
  have h1 := of_word ha
  have h2 := of_word hb
  go_enter Tryd.func9, Tryd.ntmps9
  go_wp2_with (first | (go_at_call 14; refine (isSum_any _ _).mono ?_; rintro e w' ⟨rfl, rfl⟩) | (go_at_call 15; refine (add_any _ _ _ (by omega) (by omega) (by omega) (by omega)).mono ?_; rintro e w' ⟨rfl, rfl⟩))
  go_ret2
  exact ⟨rfl, rfl⟩
theorem sumAdd_no (a b : Int) (w : World) (h : (word a && word b) = false) :
    Calls Tryd.prog 9 #[.int .i64 a, .int .i64 b] w fun e w' => e = .returned (.tuple #[.int .i64 0, .iface 34 (.int .i64 1)]) ∧ w' = w := by
  rcases ha : word a with _ | _
  · clear h
    go_enter Tryd.func9, Tryd.ntmps9
    go_wp2_with (go_at_call 14; refine (isSum_any _ _).mono ?_; rintro e w' ⟨rfl, rfl⟩)
    go_ret2
    exact ⟨rfl, rfl⟩
  · have hb : word b = false := by simpa [ha] using h
    clear h
    go_enter Tryd.func9, Tryd.ntmps9
    go_wp2_with (go_at_call 14; refine (isSum_any _ _).mono ?_; rintro e w' ⟨rfl, rfl⟩)
    go_ret2
    exact ⟨rfl, rfl⟩

theorem update_yes (a b c : Int) (w : World) (ha : word a = true) (hb : word b = true) (hc : word c = true) :
    Calls Tryd.prog 11 #[.int .i64 a, .int .i64 b, .int .i64 c] w fun e w' => e = .returned (.tuple #[.int .i64 (65535 - addS (addS (65535 - a) (65535 - b)) c), .nilIface]) ∧ w' = w := by
  have h1 := of_word ha
  have h2 := of_word hb
  have h3 := of_word hc
  have h4 := addS_range (a := 65535 - a) (b := 65535 - b) (by omega) (by omega) (by omega) (by omega)
  have h5 := addS_range (a := addS (65535 - a) (65535 - b)) (b := c) (by omega) (by omega) (by omega) (by omega)
  go_enter Tryd.func11, Tryd.ntmps11
  go_wp2_with (first | (go_at_call 14; refine (isSum_any _ _).mono ?_; rintro e w' ⟨rfl, rfl⟩) | (go_at_call 15; refine (add_any _ _ _ (by omega) (by omega) (by omega) (by omega)).mono ?_; rintro e w' ⟨rfl, rfl⟩))
  go_ret2
  exact ⟨rfl, rfl⟩
theorem update_no (a b c : Int) (w : World) (h : (word a && word b && word c) = false) :
    Calls Tryd.prog 11 #[.int .i64 a, .int .i64 b, .int .i64 c] w fun e w' => e = .returned (.tuple #[.int .i64 0, .iface 34 (.int .i64 1)]) ∧ w' = w := by
  rcases ha : word a with _ | _
  · clear h
    go_enter Tryd.func11, Tryd.ntmps11
    go_wp2_with (go_at_call 14; refine (isSum_any _ _).mono ?_; rintro e w' ⟨rfl, rfl⟩)
    go_ret2
    exact ⟨rfl, rfl⟩
  · rcases hb : word b with _ | _
    · clear h
      go_enter Tryd.func11, Tryd.ntmps11
      go_wp2_with (go_at_call 14; refine (isSum_any _ _).mono ?_; rintro e w' ⟨rfl, rfl⟩)
      go_ret2
      exact ⟨rfl, rfl⟩
    · have hc : word c = false := by simpa [ha, hb] using h
      clear h
      go_enter Tryd.func11, Tryd.ntmps11
      go_wp2_with (go_at_call 14; refine (isSum_any _ _).mono ?_; rintro e w' ⟨rfl, rfl⟩)
      go_ret2
      exact ⟨rfl, rfl⟩

/-- A number made full. -/
def full (n size : Int) : Int := (n + size - 1) / size * size
theorem full_range {n size : Int} (h0 : 0 ≤ n) (h1 : 1 ≤ size) : n ≤ full n size ∧ full n size ≤ n + size - 1 := by
  unfold full
  have a := Int.ediv_mul_le (n + size - 1) (by omega : size ≠ 0)
  have b := Int.lt_ediv_add_one_mul_self (n + size - 1) (by omega : 0 < size)
  rw [Int.add_mul] at b
  omega
theorem full_is {n size m : Int} (h0 : 0 ≤ n) (h1 : 1 ≤ size) (hm : m % size = 0) (ha : n ≤ m) (hb : m ≤ full n size) : m = full n size := by
  have h := (full_range h0 h1).2
  have hd : full n size - m = (((n + size - 1) / size) - m / size) * size := by
    have e := Int.mul_ediv_add_emod m size
    rw [Int.sub_mul, Int.mul_comm (m / size) size]
    unfold full
    omega
  generalize (n + size - 1) / size - m / size = q at hd
  have hq : ¬ 1 ≤ q := fun hq => by
    have := Int.mul_le_mul_of_nonneg_right hq (by omega : 0 ≤ size)
    omega
  have hq' : ¬ q ≤ -1 := fun hq => by
    have := Int.mul_le_mul_of_nonneg_right hq (by omega : 0 ≤ size)
    omega
  have : q = 0 := by omega
  subst this
  omega
theorem pad_yes (n size : Int) (w : World) (h0 : 0 ≤ n) (h1 : n ≤ 1000000) (h2 : 1 ≤ size) (h3 : size ≤ 64) :
    Calls Tryd.prog 12 #[.int .i64 n, .int .i64 size] w fun e w' => e = .returned (.tuple #[.int .i64 (full n size), .nilIface]) ∧ w' = w := by
  have hf := full_range h0 h2
  unfold full at hf ⊢
  have hd : 0 ≤ (n + size - 1) / size := Int.ediv_nonneg (by omega) (by omega)
  have hd' : (n + size - 1) / size ≤ n + size - 1 := Int.ediv_le_self _ (by omega)
  go_enter Tryd.func12, Tryd.ntmps12
  go_wp2
  go_ret2
  exact ⟨rfl, rfl⟩
theorem pad_no (n size : Int) (w : World) (h : ¬ (0 ≤ n ∧ n ≤ 1000000 ∧ 1 ≤ size ∧ size ≤ 64)) :
    Calls Tryd.prog 12 #[.int .i64 n, .int .i64 size] w fun e w' => e = .returned (.tuple #[.int .i64 0, .iface 34 (.int .i64 1)]) ∧ w' = w := by
  by_cases c1 : size < 1
  · clear h
    go_enter Tryd.func12, Tryd.ntmps12
    go_wp2
    go_ret2
    exact ⟨rfl, rfl⟩
  by_cases c2 : 64 < size
  · clear h
    go_enter Tryd.func12, Tryd.ntmps12
    go_wp2
    go_ret2
    exact ⟨rfl, rfl⟩
  by_cases c3 : n < 0
  · clear h
    go_enter Tryd.func12, Tryd.ntmps12
    go_wp2
    go_ret2
    exact ⟨rfl, rfl⟩
  have c4 : 1000000 < n := by omega
  clear h
  go_enter Tryd.func12, Tryd.ntmps12
  go_wp2
  go_ret2
  exact ⟨rfl, rfl⟩
end Go.Proofs.YtchmggikmfibiaaDoor
