/- What the reference's functions on numbers and prefixes return (package portref1: pow, Addr, Prefix, Ends, Has), for every input that the callers hand them. -/
import Derived.Test.YtfhchbpgpaljhaaDoorNum
namespace Go.Proofs.YtfhchbpgpaljhaaDoor
open Go.RowKit
set_option linter.unusedVariables false

theorem pow_any (n : Int) (w : World) (h0 : 0 ≤ n) (h1 : n ≤ 62) :
    Calls Tryd.prog 34 #[.int .i64 n] w fun e w' => e = .returned (.int .i64 (pw n)) ∧ w' = w := by
  go_enter Tryd.func34, Tryd.ntmps34
  go_wp2
  go_loop [3, 4] (fun x i => ∃ k : Nat, (k : Int) ≤ n ∧ i = .int .i64 k ∧ x = .int .i64 (pw k)) (fun _ i => (n - intOf i).toNat)
  case atStart => exact ⟨0, by omega, rfl, rfl⟩
  case round =>
    obtain ⟨k, hk, rfl, rfl⟩ := hrel
    by_cases hlt : (k : Int) < n
    · have hp := pw_pos k
      have hq : pw k ≤ 2305843009213693952 := by
        have h := pw_mono (a := k + 1) (b := 62) (by omega)
        rw [pw_62] at h
        have e := pw_succ k
        have e2 : ((k + 1 : Nat) : Int) = (k : Int) + 1 := by omega
        rw [e2, e] at h; omega
      have HS : Hid (pw ((k + 1 : Nat) : Int) = pw k * 2) := pw_succ k
      go_wp2
      go_round
      case rel => exact ⟨k + 1, by omega, by go_num, by rw [HS.out]⟩
      case measure => simp [intOf]; omega
    · have hkn : (k : Int) = n := by omega
      have HK : Hid (pw k = pw n) := by show pw k = pw n; rw [hkn]
      clear hkn
      go_wp2
      go_ret
      exact ⟨congrArg (fun z => Ending.returned (.int .i64 z)) HK.out, rfl⟩
theorem refAddr_any (n : Int) (w : World) :
    Calls Tryd.prog 14 #[.int .i64 n] w fun e w' => e = .returned (.bool (isAddr n)) ∧ w' = w := by
  by_cases h0 : 0 ≤ n
  · by_cases h1 : n ≤ 4294967295
    · rw [isAddr_yes h0 h1]
      go_enter Tryd.func14, Tryd.ntmps14
      go_wp2
      go_ret
      exact ⟨rfl, rfl⟩
    · rw [isAddr_no (by omega)]
      go_enter Tryd.func14, Tryd.ntmps14
      go_wp2
      go_ret
      exact ⟨rfl, rfl⟩
  · rw [isAddr_no (by omega)]
    go_enter Tryd.func14, Tryd.ntmps14
    go_wp2
    go_ret
    exact ⟨rfl, rfl⟩
theorem refPrefix_any (a l : Int) (w : World) :
    Calls Tryd.prog 25 #[.agg #[.int .i64 a, .int .i64 l]] w fun e w' => e = .returned (.int .i64 (prefE a l)) ∧ Below w.heap.size w w' := by
  have hb : Below w.heap.size w (w.alloc (.cells #[.int .i64 a, .int .i64 l] 26)) := (Below.refl _ _).alloc (Nat.le_refl _) _
  rcases ha : isAddr a with _ | _
  · have e : prefE a l = 1 := by unfold prefE; rw [if_neg (by simp [ha])]
    rw [e]
    go_enter Tryd.func25, Tryd.ntmps25
    go_wp2_with (go_at_call 14; refine (refAddr_any _ _).mono ?_; rintro e w' ⟨rfl, rfl⟩)
    go_ret
    exact ⟨rfl, hb⟩
  · have hA := of_isAddr ha
    by_cases h0 : l < 0
    · have e : prefE a l = 1 := by unfold prefE; rw [if_neg (by omega)]
      rw [e]
      go_enter Tryd.func25, Tryd.ntmps25
      go_wp2_with (go_at_call 14; refine (refAddr_any _ _).mono ?_; rintro e w' ⟨rfl, rfl⟩)
      go_ret
      exact ⟨rfl, hb⟩
    by_cases h1 : 32 < l
    · have e : prefE a l = 1 := by unfold prefE; rw [if_neg (by omega)]
      rw [e]
      go_enter Tryd.func25, Tryd.ntmps25
      go_wp2_with (go_at_call 14; refine (refAddr_any _ _).mono ?_; rintro e w' ⟨rfl, rfl⟩)
      go_ret
      exact ⟨rfl, hb⟩
    have hp := pw_pos (32 - l)
    have hz : (pw (32 - l) == 0) = false := by simp; omega
    rcases hm : (a % pw (32 - l) == 0) with _ | _
    · have e : prefE a l = 3 := by unfold prefE; rw [if_pos ⟨ha, by omega, by omega⟩, if_neg (by simpa using hm)]
      have hn : (a % pw (32 - l) != 0) = true := by simp [bne, hm]
      rw [e]
      go_enter Tryd.func25, Tryd.ntmps25
      go_wp2_with (go_at_call 14; refine (refAddr_any _ _).mono ?_; rintro e w' ⟨rfl, rfl⟩)
      go_quiet ((go_at_call 34; refine (pow_any _ _ (by omega) (by omega)).mono ?_; rintro e w' ⟨rfl, rfl⟩; exact ⟨rfl, _, rfl⟩))
      go_wp2
      go_ret
      exact ⟨rfl, below_drewN hb _⟩
    · have e : prefE a l = 0 := by unfold prefE; rw [if_pos ⟨ha, by omega, by omega⟩, if_pos (by simpa using hm)]
      have hn : (a % pw (32 - l) != 0) = false := by simp [bne, hm]
      rw [e]
      go_enter Tryd.func25, Tryd.ntmps25
      go_wp2_with (go_at_call 14; refine (refAddr_any _ _).mono ?_; rintro e w' ⟨rfl, rfl⟩)
      go_quiet ((go_at_call 34; refine (pow_any _ _ (by omega) (by omega)).mono ?_; rintro e w' ⟨rfl, rfl⟩; exact ⟨rfl, _, rfl⟩))
      go_wp2
      go_ret
      exact ⟨rfl, below_drewN hb _⟩
theorem refEnds_any (a l : Int) (w : World) (h0 : 0 ≤ a) (h1 : a ≤ 4294967295) (h2 : 0 ≤ l) (h3 : l ≤ 32) :
    Calls Tryd.prog 33 #[.agg #[.int .i64 a, .int .i64 l]] w fun e w' => e = .returned (.tuple #[.int .i64 a, .int .i64 (a + pw (32 - l) - 1)]) ∧ Below w.heap.size w w' := by
  have hb : Below w.heap.size w (w.alloc (.cells #[.int .i64 a, .int .i64 l] 26)) := (Below.refl _ _).alloc (Nat.le_refl _) _
  have hp := pw_pos (32 - l)
  have hq := pw_le (n := 32 - l) (by omega) (by omega)
  go_enter Tryd.func33, Tryd.ntmps33
  go_wp2
  go_quiet ((go_at_call 34; refine (pow_any _ _ (by omega) (by omega)).mono ?_; rintro e w' ⟨rfl, rfl⟩; exact ⟨rfl, _, rfl⟩))
  go_wp2
  go_ret2
  exact ⟨rfl, below_drewN hb _⟩
set_option maxHeartbeats 1000000 in
theorem refHas_any (a l x : Int) (w : World) :
    Calls Tryd.prog 22 #[.agg #[.int .i64 a, .int .i64 l], .int .i64 x] w fun e w' => e = .returned (.bool (hasB a l x)) ∧ Below w.heap.size w w' := by
  by_cases hp : prefE a l = 0
  · obtain ⟨hA, hL, _⟩ := prefE_zero hp
    rcases hx : isAddr x with _ | _
    · have e : hasB a l x = false := by unfold hasB; simp [hx]
      rw [e]
      clear e
      go_enter Tryd.func22, Tryd.ntmps22
      go_wp2_with (first
        | (go_at_call 25; refine (refPrefix_any _ _ _).mono ?_; rintro e w1 ⟨rfl, hb1⟩; obtain ⟨c0, c1, b1, z1⟩ := boxed hb1)
        | (go_at_call 14; refine (refAddr_any _ _).mono ?_; rintro e w1 ⟨rfl, rfl⟩))
      go_ret
      exact ⟨rfl, b1⟩
    · have hX := of_isAddr hx
      have e : hasB a l x = (decide (a ≤ x) && decide (x ≤ a + pw (32 - l) - 1)) := by unfold hasB; simp [hp, hx]
      rw [e]
      clear e
      have hq := pw_pos (32 - l)
      have hq' := pw_le (n := 32 - l) (by omega) (by omega)
      by_cases c : a ≤ x
      all_goals
        go_enter Tryd.func22, Tryd.ntmps22
        go_wp2_with (first
          | (go_at_call 25; refine (refPrefix_any _ _ _).mono ?_; rintro e w1 ⟨rfl, hb1⟩; obtain ⟨c0, c1, b1, z1⟩ := boxed hb1)
          | (go_at_call 14; refine (refAddr_any _ _).mono ?_; rintro e w1 ⟨rfl, rfl⟩)
          | (go_at_call 33; refine (refEnds_any _ _ _ (by omega) (by omega) (by omega) (by omega)).mono ?_; rintro e w2 ⟨rfl, hb2⟩))
        go_ret
        refine ⟨?_, b1.trans (hb2.mono (Nat.le_of_lt z1))⟩
        first | (simp [c]; done) | (simp; omega)
  · have e : hasB a l x = false := by unfold hasB; simp [hp]
    rw [e]
    have hpp : (prefE a l != 0) = true := by simpa [bne] using hp
    clear e hp
    go_enter Tryd.func22, Tryd.ntmps22
    go_wp2_with (first
      | (go_at_call 25; refine (refPrefix_any _ _ _).mono ?_; rintro e w1 ⟨rfl, hb1⟩; obtain ⟨c0, c1, b1, z1⟩ := boxed hb1)
      | (go_at_call 14; refine (refAddr_any _ _).mono ?_; rintro e w1 ⟨rfl, rfl⟩))
    go_ret
    exact ⟨rfl, b1⟩
end Go.Proofs.YtfhchbpgpaljhaaDoor
