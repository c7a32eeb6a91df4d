/- What the program's functions on numbers and prefixes return (package addr: isAddr, size, Check, Ends, Has, Inside), for every input. -/
import Derived.Test.YthnkjfgiclolaaaGreatDoorMgA
import Derived.Deep.RegionWith
import Derived.Deep.DeepCutAuto
namespace Go.Proofs.YthnkjfgiclolaaaGreatDoor
open Go.RowKit
set_option linter.unusedVariables false

theorem isAddr_any (n : Int) (w : World) :
    Calls Tryz.prog 84 #[.int .i64 n] w fun e w' => e = .returned (.bool (isAddr n)) ∧ w' = w := by
  by_cases h0 : 0 ≤ n
  · by_cases h1 : n ≤ 4294967295
    · rw [isAddr_yes h0 h1]
      go_enter Tryz.func84, Tryz.ntmps84
      go_wp2
      go_ret
      exact ⟨rfl, rfl⟩
    · rw [isAddr_no (by omega)]
      go_enter Tryz.func84, Tryz.ntmps84
      go_wp2
      go_ret
      exact ⟨rfl, rfl⟩
  · rw [isAddr_no (by omega)]
    go_enter Tryz.func84, Tryz.ntmps84
    go_wp2
    go_ret
    exact ⟨rfl, rfl⟩

theorem wrap_in {n : Int} (h0 : -9223372036854775808 ≤ n) (h1 : n ≤ 9223372036854775807) : IntKind.i64.wrap n = n := by
  rw [IntKind.wrap_i64]; omega
theorem wrap_pw {n : Int} (h0 : 0 ≤ n) (h1 : n ≤ 62) : wrap64 (2 ^ n.toNat) = pw n := by
  have e : ((2 : Int) ^ n.toNat) = pw n := by unfold pw; push_cast; rfl
  have h2 := pw_pos n
  have h3 := pw_le h0 h1
  rw [e]; unfold wrap64; omega

theorem size_any (a l : Int) (w : World) (h0 : 0 ≤ l) (h1 : l ≤ 32) :
    Calls Tryz.prog 85 #[.agg #[.int .i64 a, .int .i64 l]] w fun e w' => e = .returned (.int .i64 (pw (32 - l))) ∧ w' = w.alloc (.cells #[.int .i64 a, .int .i64 l] 30) := by
  have HP : Hid (wrap64 (2 ^ (32 - l).toNat) = pw (32 - l)) := wrap_pw (by omega) (by omega)
  go_enter Tryz.func85, Tryz.ntmps85
  go_wp2
  go_ret
  refine ⟨?_, rfl⟩
  rw [← HP.out]; rfl

/-- A call that returns no error, or an Errno. -/
theorem check_ok (a l : Int) (w : World) (h : prefE a l = 0) :
    Calls Tryz.prog 36 #[.agg #[.int .i64 a, .int .i64 l]] w fun e w' => e = .returned .nilIface ∧ Below w.heap.size w w' := by
  obtain ⟨hA, hL, hm⟩ := prefE_zero h
  have ha : isAddr a = true := isAddr_yes hA.1 hA.2
  have hb : Below w.heap.size w (w.alloc (.cells #[.int .i64 a, .int .i64 l] 30)) := (Below.refl _ _).alloc (Nat.le_refl _) _
  have hp := pw_pos (32 - l)
  have hz : (pw (32 - l) == 0) = false := by simp; omega
  have hn : (a % pw (32 - l) != 0) = false := by simp [hm]
  obtain ⟨h0, h1⟩ := hL
  clear h hm
  go_enter Tryz.func36, Tryz.ntmps36
  go_wp2_with (go_at_call 84; refine (isAddr_any _ _).mono ?_; rintro e w' ⟨rfl, rfl⟩)
  go_region_with (go_at_call 85; refine (size_any _ _ _ h0 h1).mono ?_; rintro e w2 ⟨rfl, rfl⟩)
  all_goals
    go_wp2
    go_ret
    exact ⟨rfl, (hb.alloc (by simp) _).drew⟩

theorem check_bad (a l : Int) (w : World) (h : prefE a l ≠ 0) :
    Calls Tryz.prog 36 #[.agg #[.int .i64 a, .int .i64 l]] w fun e w' => e = .returned (.iface 45 (.int .i64 (prefE a l))) ∧ Below w.heap.size w w' := by
  have hb : Below w.heap.size w (w.alloc (.cells #[.int .i64 a, .int .i64 l] 30)) := (Below.refl _ _).alloc (Nat.le_refl _) _
  rcases ha : isAddr a with _ | _
  · have e : prefE a l = 1 := by unfold prefE; rw [if_neg (by simp [ha])]
    rw [e]
    clear h e
    go_enter Tryz.func36, Tryz.ntmps36
    go_wp2_with (go_at_call 84; refine (isAddr_any _ _).mono ?_; rintro e w' ⟨rfl, rfl⟩)
    go_ret
    exact ⟨rfl, hb⟩
  · have hA := of_isAddr ha
    by_cases h0 : l < 0
    · have e : prefE a l = 1 := by unfold prefE; rw [if_neg (by omega)]
      rw [e]
      clear h e
      go_enter Tryz.func36, Tryz.ntmps36
      go_wp2_with (go_at_call 84; refine (isAddr_any _ _).mono ?_; rintro e w' ⟨rfl, rfl⟩)
      go_ret
      exact ⟨rfl, hb⟩
    by_cases h1 : 32 < l
    · have e : prefE a l = 1 := by unfold prefE; rw [if_neg (by omega)]
      rw [e]
      clear h e
      go_enter Tryz.func36, Tryz.ntmps36
      go_wp2_with (go_at_call 84; refine (isAddr_any _ _).mono ?_; rintro e w' ⟨rfl, rfl⟩)
      go_ret
      exact ⟨rfl, hb⟩
    have hp := pw_pos (32 - l)
    have hz : (pw (32 - l) == 0) = false := by simp; omega
    have hm : ¬ a % pw (32 - l) = 0 := by
      intro e
      apply h
      unfold prefE; rw [if_pos ⟨ha, by omega, by omega⟩, if_pos e]
    have e : prefE a l = 3 := by unfold prefE; rw [if_pos ⟨ha, by omega, by omega⟩, if_neg hm]
    have hn : (a % pw (32 - l) != 0) = true := by simpa [bne] using hm
    rw [e]
    clear h e hm
    have h0' : 0 ≤ l := by omega
    have h1' : l ≤ 32 := by omega
    go_enter Tryz.func36, Tryz.ntmps36
    go_wp2_with (go_at_call 84; refine (isAddr_any _ _).mono ?_; rintro e w' ⟨rfl, rfl⟩)
    go_region_with (go_at_call 85; refine (size_any _ _ _ h0' h1').mono ?_; rintro e w2 ⟨rfl, rfl⟩)
    all_goals
      go_wp2
      go_ret
      exact ⟨rfl, (hb.alloc (by simp) _).drew⟩

end Go.Proofs.YthnkjfgiclolaaaGreatDoor
