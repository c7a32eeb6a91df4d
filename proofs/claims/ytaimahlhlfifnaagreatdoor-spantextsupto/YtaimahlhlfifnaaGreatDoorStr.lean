/- What the reference's Digits and Show return (package portref1). -/
import Derived.Test.YtaimahlhlfifnaaGreatDoorRefNum
import Derived.Test.YtaimahlhlfifnaaGreatDoorTxt
namespace Go.Proofs.YtaimahlhlfifnaaGreatDoor
open Go.RowKit
set_option linter.unusedVariables false

theorem ten_digits (m : Nat) (h : m < 10) : ByteArray.extract ⟨#[48, 49, 50, 51, 52, 53, 54, 55, 56, 57]⟩ m (m + 1) = mkB [48 + UInt8.ofNat m] := by
  have : ∀ k : Fin 10, ByteArray.extract ⟨#[48, 49, 50, 51, 52, 53, 54, 55, 56, 57]⟩ k.val (k.val + 1) = mkB [48 + UInt8.ofNat k.val] := by decide
  exact this ⟨m, h⟩

theorem digits_nat (m : Nat) : m ≤ 4611686018427387904 → ∀ w : World,
    Calls Tryz.prog 21 #[.int .i64 m] w fun e w' => e = .returned (.string (mkB (digL m))) ∧ w' = w := by
  induction m using Nat.strongRecOn with
  | _ m ih =>
    intro hm w
    by_cases h : m < 10
    · have HT : Hid (ByteArray.extract ⟨#[48, 49, 50, 51, 52, 53, 54, 55, 56, 57]⟩ m (m + 1) = mkB (digL m)) := by
        show ByteArray.extract _ m (m + 1) = mkB (digL m)
        rw [digL_lt h]; exact ten_digits m h
      clear ih
      go_enter Tryz.func21, Tryz.ntmps21
      go_wp2
      go_ret
      exact ⟨ret_str HT.out, rfl⟩
    · have hc := ih (m / 10) (by omega) (by omega) w
      have HT : Hid (mkB (digL (m / 10)) ++ ByteArray.extract ⟨#[48, 49, 50, 51, 52, 53, 54, 55, 56, 57]⟩ (m % 10) (m % 10 + 1) = mkB (digL m)) := by
        show mkB (digL (m / 10)) ++ ByteArray.extract _ (m % 10) (m % 10 + 1) = mkB (digL m)
        rw [digL_ge h, ten_digits (m % 10) (by omega), mkB_append]
      have hl := digL_len (m / 10)
      have hz : (mkB (digL (m / 10))).size ≤ m / 10 + 1 := by rw [mkB_size]; exact hl
      have r1 : m % 10 < 10 := by omega
      have r2 : (m : Int) % 10 < 10 := by omega
      have r3 : 0 ≤ (m : Int) % 10 := by omega
      have e1 : ((m / 10 : Nat) : Int) = (m : Int) / 10 := by omega
      rw [e1] at hc
      clear ih hl e1
      go_enter Tryz.func21, Tryz.ntmps21
      go_wp2_with (go_at_call 21; refine hc.mono ?_; rintro e w' ⟨rfl, rfl⟩)
      go_ret
      exact ⟨ret_str HT.out, rfl⟩
theorem digits_any (n : Int) (w : World) (h0 : 0 ≤ n) (h1 : n ≤ 4611686018427387904) :
    Calls Tryz.prog 21 #[.int .i64 n] w fun e w' => e = .returned (.string (mkB (digL n.toNat))) ∧ w' = w := by
  obtain ⟨m, rfl⟩ := Int.eq_ofNat_of_zero_le h0
  have := digits_nat m (by omega) w
  simpa using this

end Go.Proofs.YtaimahlhlfifnaaGreatDoor
