/- What the reference's Digits and Show return (package portref1). -/
import Derived.Test.YtkjjalaelehjeaaDoorRefNum
import Derived.Test.YtkjjalaelehjeaaDoorTxt
namespace Go.Proofs.YtkjjalaelehjeaaDoor
open Go.RowKit
set_option linter.unusedVariables false

theorem ten_digits (m : Nat) (h : m < 10) : ByteArray.extract ⟨#[48, 49, 50, 51, 52, 53, 54, 55, 56, 57]⟩ m (m + 1) = mkB [48 + UInt8.ofNat m] := by
  have : ∀ k : Fin 10, ByteArray.extract ⟨#[48, 49, 50, 51, 52, 53, 54, 55, 56, 57]⟩ k.val (k.val + 1) = mkB [48 + UInt8.ofNat k.val] := by decide
  exact this ⟨m, h⟩

theorem digits_nat (m : Nat) : m ≤ 4611686018427387904 → ∀ w : World,
    Calls Tryd.prog 40 #[.int .i64 m] w fun e w' => e = .returned (.string (mkB (digL m))) ∧ w' = w := by
  induction m using Nat.strongRecOn with
  | _ m ih =>
    intro hm w
    by_cases h : m < 10
    · have HT : Hid (ByteArray.extract ⟨#[48, 49, 50, 51, 52, 53, 54, 55, 56, 57]⟩ m (m + 1) = mkB (digL m)) := by
        show ByteArray.extract _ m (m + 1) = mkB (digL m)
        rw [digL_lt h]; exact ten_digits m h
      clear ih
      go_enter Tryd.func40, Tryd.ntmps40
      go_wp2
      go_ret
      exact ⟨ret_str HT.out, rfl⟩
    · have hc := ih (m / 10) (by omega) (by omega) w
      have HT : Hid (mkB (digL (m / 10)) ++ ByteArray.extract ⟨#[48, 49, 50, 51, 52, 53, 54, 55, 56, 57]⟩ (m % 10) (m % 10 + 1) = mkB (digL m)) := by
        show mkB (digL (m / 10)) ++ ByteArray.extract _ (m % 10) (m % 10 + 1) = mkB (digL m)
        rw [digL_ge h, ten_digits (m % 10) (by omega), mkB_append]
      have hl := digL_len (m / 10)
      have hz : (mkB (digL (m / 10))).size ≤ m / 10 + 1 := by rw [mkB_size]; exact hl
      have r1 : m % 10 < 10 := by omega
      have r2 : (m : Int) % 10 < 10 := by omega
      have r3 : 0 ≤ (m : Int) % 10 := by omega
      have e1 : ((m / 10 : Nat) : Int) = (m : Int) / 10 := by omega
      rw [e1] at hc
      clear ih hl e1
      go_enter Tryd.func40, Tryd.ntmps40
      go_wp2_with (go_at_call 40; refine hc.mono ?_; rintro e w' ⟨rfl, rfl⟩)
      go_ret
      exact ⟨ret_str HT.out, rfl⟩
theorem digits_any (n : Int) (w : World) (h0 : 0 ≤ n) (h1 : n ≤ 4611686018427387904) :
    Calls Tryd.prog 40 #[.int .i64 n] w fun e w' => e = .returned (.string (mkB (digL n.toNat))) ∧ w' = w := by
  obtain ⟨m, rfl⟩ := Int.eq_ofNat_of_zero_le h0
  have := digits_nat m (by omega) w
  simpa using this

set_option maxHeartbeats 2000000 in
theorem show_any (a : Int) (w : World) (h0 : 0 ≤ a) (h1 : a ≤ 4294967295) :
    Calls Tryd.prog 16 #[.int .i64 a] w fun e w' => e = .returned (.string (mkB (showL a))) ∧ w' = w := by
  have q24 : pw 24 = 16777216 := by decide
  have q16 : pw 16 = 65536 := by decide
  have q8 : pw 8 = 256 := by decide
  have q0 : pw 0 = 1 := by decide
  have HS : Hid (mkB [] ++ mkB (digL (a / 16777216 % 256).toNat) ++ mkB [46] ++ mkB (digL (a / 65536 % 256).toNat) ++ mkB [46] ++ mkB (digL (a / 256 % 256).toNat) ++ mkB [46] ++ mkB (digL (a % 256).toNat) = mkB (showL a)) := by
    show _ = mkB (showL a)
    simp only [mkB_append, showL, List.nil_append]
  have z3 : (mkB (digL (a / 16777216 % 256).toNat)).size ≤ 256 := by rw [mkB_size]; exact digL_small (by omega)
  have z2 : (mkB (digL (a / 65536 % 256).toNat)).size ≤ 256 := by rw [mkB_size]; exact digL_small (by omega)
  have z1 : (mkB (digL (a / 256 % 256).toNat)).size ≤ 256 := by rw [mkB_size]; exact digL_small (by omega)
  have z0 : (mkB (digL (a % 256).toNat)).size ≤ 256 := by rw [mkB_size]; exact digL_small (by omega)
  go_enter Tryd.func16, Tryd.ntmps16
  go_wp2
  refine wp_loop_rounds 5 ?_
  rw [rounds_succ]
  go_wp2_with (first | (go_at_call 41; refine (pow_any _ _ (by omega) (by omega)).mono ?_; rintro e w' ⟨rfl, rfl⟩) | (go_at_call 40; refine (digits_any _ _ (by omega) (by omega)).mono ?_; rintro e w' ⟨rfl, rfl⟩))
  rw [rounds_succ]
  go_wp2_with (first | (go_at_call 41; refine (pow_any _ _ (by omega) (by omega)).mono ?_; rintro e w' ⟨rfl, rfl⟩) | (go_at_call 40; refine (digits_any _ _ (by omega) (by omega)).mono ?_; rintro e w' ⟨rfl, rfl⟩))
  rw [rounds_succ]
  go_wp2_with (first | (go_at_call 41; refine (pow_any _ _ (by omega) (by omega)).mono ?_; rintro e w' ⟨rfl, rfl⟩) | (go_at_call 40; refine (digits_any _ _ (by omega) (by omega)).mono ?_; rintro e w' ⟨rfl, rfl⟩))
  rw [rounds_succ]
  go_wp2_with (first | (go_at_call 41; refine (pow_any _ _ (by omega) (by omega)).mono ?_; rintro e w' ⟨rfl, rfl⟩) | (go_at_call 40; refine (digits_any _ _ (by omega) (by omega)).mono ?_; rintro e w' ⟨rfl, rfl⟩))
  rw [rounds_succ]
  go_wp2_with (first | (go_at_call 41; refine (pow_any _ _ (by omega) (by omega)).mono ?_; rintro e w' ⟨rfl, rfl⟩) | (go_at_call 40; refine (digits_any _ _ (by omega) (by omega)).mono ?_; rintro e w' ⟨rfl, rfl⟩))
  go_ret
  exact ⟨ret_str HS.out, rfl⟩
end Go.Proofs.YtkjjalaelehjeaaDoor
