/- What the reference's functions on numbers and prefixes return (package portref1: pow, Addr, Prefix, Ends, Has), for every input that the callers hand them. -/
import Derived.Test.YtlfckmigbeanhacDoorNum
namespace Go.Proofs.YtlfckmigbeanhacDoor
open Go.RowKit
set_option linter.unusedVariables false

theorem pow_any (n : Int) (w : World) (h0 : 0 ≤ n) (h1 : n ≤ 62) :
    Calls Tryd.prog 72 #[.int .i64 n] w fun e w' => e = .returned (.int .i64 (pw n)) ∧ w' = w := by
  go_enter Tryd.func72, Tryd.ntmps72
  go_wp2
  go_loop [3, 4] (fun x i => ∃ k : Nat, (k : Int) ≤ n ∧ i = .int .i64 k ∧ x = .int .i64 (pw k)) (fun _ i => (n - intOf i).toNat)
  case atStart => exact ⟨0, by omega, rfl, rfl⟩
  case round =>
    obtain ⟨k, hk, rfl, rfl⟩ := hrel
    by_cases hlt : (k : Int) < n
    · have hp := pw_pos k
      have hq : pw k ≤ 2305843009213693952 := by
        have h := pw_mono (a := k + 1) (b := 62) (by omega)
        rw [pw_62] at h
        have e := pw_succ k
        have e2 : ((k + 1 : Nat) : Int) = (k : Int) + 1 := by omega
        rw [e2, e] at h; omega
      have HS : Hid (pw ((k + 1 : Nat) : Int) = pw k * 2) := pw_succ k
      go_wp2
      go_round
      case rel => exact ⟨k + 1, by omega, by go_num, by rw [HS.out]⟩
      case measure => simp [intOf]; omega
    · have hkn : (k : Int) = n := by omega
      have HK : Hid (pw k = pw n) := by show pw k = pw n; rw [hkn]
      clear hkn
      go_wp2
      go_ret
      exact ⟨congrArg (fun z => Ending.returned (.int .i64 z)) HK.out, rfl⟩

theorem refAddr_any (n : Int) (w : World) :
    Calls Tryd.prog 31 #[.int .i64 n] w fun e w' => e = .returned (.bool (isAddr n)) ∧ w' = w := by
  by_cases h0 : 0 ≤ n
  · by_cases h1 : n ≤ 4294967295
    · rw [isAddr_yes h0 h1]
      go_enter Tryd.func31, Tryd.ntmps31
      go_wp2
      go_ret
      exact ⟨rfl, rfl⟩
    · rw [isAddr_no (by omega)]
      go_enter Tryd.func31, Tryd.ntmps31
      go_wp2
      go_ret
      exact ⟨rfl, rfl⟩
  · rw [isAddr_no (by omega)]
    go_enter Tryd.func31, Tryd.ntmps31
    go_wp2
    go_ret
    exact ⟨rfl, rfl⟩

end Go.Proofs.YtlfckmigbeanhacDoor
