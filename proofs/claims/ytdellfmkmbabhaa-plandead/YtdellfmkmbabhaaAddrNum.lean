/- What the program's functions on numbers and prefixes return (package addr: isAddr, size, Check, Ends, Has, Inside), for every input. -/
import Derived.Test.YtdellfmkmbabhaaNum
import Derived.Deep.RegionWith
import Derived.Deep.DeepCutAuto
namespace Go.Proofs.Ytdellfmkmbabhaa
open Go.RowKit
set_option linter.unusedVariables false

theorem isAddr_any (n : Int) (w : World) :
    Calls Try.prog 53 #[.int .i64 n] w fun e w' => e = .returned (.bool (isAddr n)) ∧ w' = w := by
  by_cases h0 : 0 ≤ n
  · by_cases h1 : n ≤ 4294967295
    · rw [isAddr_yes h0 h1]
      go_enter Try.func53, Try.ntmps53
      go_wp2
      go_ret
      exact ⟨rfl, rfl⟩
    · rw [isAddr_no (by omega)]
      go_enter Try.func53, Try.ntmps53
      go_wp2
      go_ret
      exact ⟨rfl, rfl⟩
  · rw [isAddr_no (by omega)]
    go_enter Try.func53, Try.ntmps53
    go_wp2
    go_ret
    exact ⟨rfl, rfl⟩

theorem wrap_in {n : Int} (h0 : -9223372036854775808 ≤ n) (h1 : n ≤ 9223372036854775807) : IntKind.i64.wrap n = n := by
  rw [IntKind.wrap_i64]; omega
theorem wrap_pw {n : Int} (h0 : 0 ≤ n) (h1 : n ≤ 62) : wrap64 (2 ^ n.toNat) = pw n := by
  have e : ((2 : Int) ^ n.toNat) = pw n := by unfold pw; push_cast; rfl
  have h2 := pw_pos n
  have h3 := pw_le h0 h1
  rw [e]; unfold wrap64; omega

theorem size_any (a l : Int) (w : World) (h0 : 0 ≤ l) (h1 : l ≤ 32) :
    Calls Try.prog 54 #[.agg #[.int .i64 a, .int .i64 l]] w fun e w' => e = .returned (.int .i64 (pw (32 - l))) ∧ w' = w.alloc (.cells #[.int .i64 a, .int .i64 l] 31) := by
  have HP : Hid (wrap64 (2 ^ (32 - l).toNat) = pw (32 - l)) := wrap_pw (by omega) (by omega)
  go_enter Try.func54, Try.ntmps54
  go_wp2
  go_ret
  refine ⟨?_, rfl⟩
  rw [← HP.out]; rfl

/-- A call that returns no error, or an Errno. -/
theorem check_ok (a l : Int) (w : World) (h : prefE a l = 0) :
    Calls Try.prog 30 #[.agg #[.int .i64 a, .int .i64 l]] w fun e w' => e = .returned .nilIface ∧ Below w.heap.size w w' := by
  obtain ⟨hA, hL, hm⟩ := prefE_zero h
  have ha : isAddr a = true := isAddr_yes hA.1 hA.2
  have hb : Below w.heap.size w (w.alloc (.cells #[.int .i64 a, .int .i64 l] 31)) := (Below.refl _ _).alloc (Nat.le_refl _) _
  have hp := pw_pos (32 - l)
  have hz : (pw (32 - l) == 0) = false := by simp; omega
  have hn : (a % pw (32 - l) != 0) = false := by simp [hm]
  obtain ⟨h0, h1⟩ := hL
  clear h hm
  go_enter Try.func30, Try.ntmps30
  go_wp2_with (go_at_call 53; refine (isAddr_any _ _).mono ?_; rintro e w' ⟨rfl, rfl⟩)
  go_region_with (go_at_call 54; refine (size_any _ _ _ h0 h1).mono ?_; rintro e w2 ⟨rfl, rfl⟩)
  all_goals
    go_wp2
    go_ret
    exact ⟨rfl, (hb.alloc (by simp) _).drew⟩

theorem check_bad (a l : Int) (w : World) (h : prefE a l ≠ 0) :
    Calls Try.prog 30 #[.agg #[.int .i64 a, .int .i64 l]] w fun e w' => e = .returned (.iface 62 (.int .i64 (prefE a l))) ∧ Below w.heap.size w w' := by
  have hb : Below w.heap.size w (w.alloc (.cells #[.int .i64 a, .int .i64 l] 31)) := (Below.refl _ _).alloc (Nat.le_refl _) _
  rcases ha : isAddr a with _ | _
  · have e : prefE a l = 1 := by unfold prefE; rw [if_neg (by simp [ha])]
    rw [e]
    clear h e
    go_enter Try.func30, Try.ntmps30
    go_wp2_with (go_at_call 53; refine (isAddr_any _ _).mono ?_; rintro e w' ⟨rfl, rfl⟩)
    go_ret
    exact ⟨rfl, hb⟩
  · have hA := of_isAddr ha
    by_cases h0 : l < 0
    · have e : prefE a l = 1 := by unfold prefE; rw [if_neg (by omega)]
      rw [e]
      clear h e
      go_enter Try.func30, Try.ntmps30
      go_wp2_with (go_at_call 53; refine (isAddr_any _ _).mono ?_; rintro e w' ⟨rfl, rfl⟩)
      go_ret
      exact ⟨rfl, hb⟩
    by_cases h1 : 32 < l
    · have e : prefE a l = 1 := by unfold prefE; rw [if_neg (by omega)]
      rw [e]
      clear h e
      go_enter Try.func30, Try.ntmps30
      go_wp2_with (go_at_call 53; refine (isAddr_any _ _).mono ?_; rintro e w' ⟨rfl, rfl⟩)
      go_ret
      exact ⟨rfl, hb⟩
    have hp := pw_pos (32 - l)
    have hz : (pw (32 - l) == 0) = false := by simp; omega
    have hm : ¬ a % pw (32 - l) = 0 := by
      intro e
      apply h
      unfold prefE; rw [if_pos ⟨ha, by omega, by omega⟩, if_pos e]
    have e : prefE a l = 3 := by unfold prefE; rw [if_pos ⟨ha, by omega, by omega⟩, if_neg hm]
    have hn : (a % pw (32 - l) != 0) = true := by simpa [bne] using hm
    rw [e]
    clear h e hm
    have h0' : 0 ≤ l := by omega
    have h1' : l ≤ 32 := by omega
    go_enter Try.func30, Try.ntmps30
    go_wp2_with (go_at_call 53; refine (isAddr_any _ _).mono ?_; rintro e w' ⟨rfl, rfl⟩)
    go_region_with (go_at_call 54; refine (size_any _ _ _ h0' h1').mono ?_; rintro e w2 ⟨rfl, rfl⟩)
    all_goals
      go_wp2
      go_ret
      exact ⟨rfl, (hb.alloc (by simp) _).drew⟩

set_option maxHeartbeats 4000000 in
theorem ends_ok (a l : Int) (w : World) (h : prefE a l = 0) :
    Calls Try.prog 61 #[.agg #[.int .i64 a, .int .i64 l]] w fun e w' => e = .returned (.tuple #[.int .i64 a, .int .i64 (a + pw (32 - l) - 1)]) ∧ Below w.heap.size w w' := by
  obtain ⟨hA, hL, hm⟩ := prefE_zero h
  have hp := pw_pos (32 - l)
  have hq := pw_le (n := 32 - l) (by omega) (by omega)
  have hck := fun w => check_ok a l w h
  obtain ⟨h0, h1⟩ := hL
  have HW : Hid (IntKind.i64.wrap (IntKind.i64.wrap (a + pw (32 - l)) - 1) = a + pw (32 - l) - 1) := by
    show IntKind.i64.wrap (IntKind.i64.wrap (a + pw (32 - l)) - 1) = a + pw (32 - l) - 1
    rw [wrap_in (n := a + pw (32 - l)) (by omega) (by omega), wrap_in (by omega) (by omega)]
  clear h hm
  go_enter Try.func61, Try.ntmps61
  go_wp2_with (go_at_call 30; refine (hck _).mono ?_; rintro e w1 ⟨rfl, hb1⟩; obtain ⟨c0, c1, b1, z1⟩ := boxed hb1)
  have d0 : ∀ o, (w1.alloc o).cell? ⟨w.heap.size, 0, none⟩ = some (.int .i64 a) := fun o => by rw [((Below.refl w1.heap.size w1).alloc (Nat.le_refl _) o).cell (p := ⟨w.heap.size, 0, none⟩) z1]; exact c0
  have bb := b1.alloc (Nat.le_of_lt z1) (.cells #[.int .i64 a, .int .i64 l] 31)
  go_region_with (go_at_call 54; refine (size_any _ _ _ h0 h1).mono ?_; rintro e w2 ⟨rfl, rfl⟩)
  all_goals
    go_wp2
    go_ret2
    exact ⟨congrArg (fun z => Ending.returned (.tuple #[.int .i64 a, .int .i64 z])) HW.out, bb.drew⟩

theorem ends_bad (a l : Int) (w : World) (h : prefE a l ≠ 0) :
    Calls Try.prog 61 #[.agg #[.int .i64 a, .int .i64 l]] w fun e w' => e = .returned (.tuple #[.int .i64 0, .int .i64 0]) ∧ Below w.heap.size w w' := by
  have hck := fun w => check_bad a l w h
  clear h
  go_enter Try.func61, Try.ntmps61
  go_wp2_with (go_at_call 30; refine (hck _).mono ?_; rintro e w1 ⟨rfl, hb1⟩; obtain ⟨c0, c1, b1, z1⟩ := boxed hb1)
  go_ret2
  exact ⟨rfl, b1⟩

end Go.Proofs.Ytdellfmkmbabhaa
