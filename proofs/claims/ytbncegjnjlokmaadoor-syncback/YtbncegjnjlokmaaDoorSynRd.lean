/- What signed and read of package sync return: the number that any bytes begin with. -/
import Derived.Test.YtbncegjnjlokmaaDoorSynWr
namespace Go.Proofs.YtbncegjnjlokmaaDoor
open Go.RowKit
set_option linter.unusedVariables false

theorem or_u64 (z m : Int) (i : Nat) (hi : i ≤ 64) (h0 : 0 ≤ z) (h1 : z < 2 ^ i) (m0 : 0 ≤ m) (m1 : m * 2 ^ i < 18446744073709551616) : bits .or .u64 z (m * 2 ^ i) = z + m * 2 ^ i := by
  obtain ⟨a, rfl⟩ := Int.eq_ofNat_of_zero_le h0
  obtain ⟨b, rfl⟩ := Int.eq_ofNat_of_zero_le m0
  have ha : a < 2 ^ i := by exact_mod_cast h1
  have hb : b * 2 ^ i < 2 ^ 64 := by
    have e : ((b * 2 ^ i : Nat) : Int) < 18446744073709551616 := by rw [Int.natCast_mul, Int.natCast_pow]; exact m1
    omega
  have ha' : a < 2 ^ 64 := Nat.lt_of_lt_of_le ha (Nat.pow_le_pow_right (by decide) hi)
  have e := (bits_nat .u64 64 (by decide) (fun n h0 h1 => by rw [u64w]; omega) a (b * 2 ^ i) ha' hb).2
  rw [show ((b : Int) * 2 ^ i) = ((b * 2 ^ i : Nat) : Int) by rw [Int.natCast_mul, Int.natCast_pow]; rfl, e, Nat.or_comm, Nat.mul_comm b, ← Nat.two_pow_add_eq_or_of_lt ha b]
  simp
  omega
set_option maxHeartbeats 4000000 in
theorem signed_any (z : Int) (w : World) (h0 : 0 ≤ z) (h1 : z < 18446744073709551616) :
    Calls Tryd.prog 52 #[.int .u64 z] w fun e w' => e = .returned (.int .i64 (sgnI z)) ∧ w' = w := by
  have hsg : IntKind.i64.signed = true := rfl
  by_cases hz : z % 2 = 1
  · have HX : Hid (bits .xor .i64 (-1) (z / 2) = sgnI z) := by
      show bits .xor .i64 (-1) (z / 2) = sgnI z
      rw [xor_i64 _ (by omega) (by omega)]; unfold sgnI; rw [if_pos hz]
    go_enter Tryd.func52, Tryd.ntmps52
    go_wp2
    go_ret
    exact ⟨ret_int HX.out, rfl⟩
  · have HX : Hid (z / 2 = sgnI z) := by
      show z / 2 = sgnI z
      unfold sgnI; rw [if_neg hz]
    go_enter Tryd.func52, Tryd.ntmps52
    go_wp2
    go_ret
    exact ⟨ret_int HX.out, rfl⟩
theorem hidX {p : Prop} (h : p) : Hid p := h
theorem drop_cons (zs : List Int) (k : Nat) (h : k < zs.length) : zs.drop k = zs.getD k 0 :: zs.drop (k + 1) := by
  rw [List.drop_eq_getElem_cons h]; simp [List.getD, h]
set_option maxRecDepth 100000 in
set_option maxHeartbeats 4000000 in
theorem nrd_some (b off len cap : Nat) (zs : List Int) (w : World) (hl : len ≤ cap) (hm : cap ≤ maxLen) (hz : zs.length = len) (hr : Row w b off zs) :
    Calls Tryd.prog 45 #[.slice (some ⟨b, off, none⟩) len cap] w fun e w' => e = .returned (.tuple #[.int .i64 (rdL zs).2.1, .int .i64 ((rdL zs).2.2 : Nat), errV (rdL zs).1]) ∧ w' = w := by
  unfold maxLen at hm
  obtain ⟨hc, hb⟩ := hr
  obtain ⟨R, HRR⟩ : ∃ R, Hid (R = rdL zs) := ⟨_, rfl⟩
  rw [← HRR.out]
  go_enter Tryd.func45, Tryd.ntmps45
  go_wp2
  go_loopw [5, 12] (fun vz vi wr => ∃ (k : Nat) (z : Int), k ≤ len ∧ k ≤ 9 ∧ vz = .int .u64 z ∧ vi = .int .i64 (k : Int) ∧ 0 ≤ z ∧ z < 2 ^ (7 * k) ∧ Hid (rdG z k (zs.drop k) = R) ∧ wr = w) (fun _ i _ => (len - intOf i).toNat)
  case atStart => exact ⟨0, 0, by omega, by omega, rfl, rfl, by omega, by simp, HRR.out.symm, rfl⟩
  case round =>
    obtain ⟨k, z, hk, hk9, rfl, rfl, z0, z1, hT, rfl⟩ := hrel
    by_cases hlt : k < len
    · have c0 : wr.cell? ⟨b, off + k, none⟩ = some (.int .u8 (zs.getD k 0)) := hc _ (by omega)
      have b0 := getD_byte (by omega : k < zs.length) hb
      have HT := hT.out
      rw [drop_cons zs k (by omega)] at HT
      generalize zs.getD k 0 = c at c0 b0 HT
      clear hT
      clear hc hb
      have i0 : (k : Int) < (len : Int) := by omega
      by_cases h9 : k = 9
      · subst h9
        by_cases hc1 : 1 < c
        · have HX : Hid (R = (2, 0, 0)) := by
            show R = (2, 0, 0)
            rw [← HT]; simp only [rdG]; rw [if_pos (.inl ⟨by first | rfl | trivial, hc1⟩)]
          clear HT HRR
          go_wp2
          go_ret3
          exact ⟨by rw [HX.out]; rfl, rfl⟩
        · by_cases hc0 : c = 0
          · have HX : Hid (R = (2, 0, 0)) := by
              show R = (2, 0, 0)
              rw [← HT]; simp only [rdG]; rw [if_pos (.inr ⟨by omega, hc0⟩)]
            clear HT HRR
            subst hc0
            go_wp2
            go_ret3
            exact ⟨by rw [HX.out]; rfl, rfl⟩
          · obtain rfl : c = 1 := by omega
            have HX : Hid (R = (0, sgnI (z + 9223372036854775808), 10)) := by
              show R = _
              rw [← HT]; simp only [rdG]; rw [if_neg (by omega), if_pos (by omega)]; rfl
            have HO : Hid (bits .or .u64 z 9223372036854775808 = z + 9223372036854775808) := or_u64 z 1 63 (by omega) z0 z1 (by omega) (by omega)
            have z2 : z < 9223372036854775808 := z1
            have Z0 : 0 ≤ z + 9223372036854775808 := by omega
            have Z1 : z + 9223372036854775808 < 18446744073709551616 := by omega
            clear HT HRR z1 hc1 hc0
            go_wp2_with (go_at_call 52; rw [HO.out]; refine (signed_any _ _ Z0 Z1).mono ?_; rintro e w' ⟨rfl, rfl⟩)
            go_ret3
            exact ⟨by rw [HX.out]; rfl, rfl⟩
      · have k8 : k ≤ 8 := by omega
        have e9 : ((k : Int) == 9) = false := by simp; omega
        by_cases hbad : 0 < k ∧ c = 0
        · obtain ⟨k0, rfl⟩ := hbad
          have HX : Hid (R = (2, 0, 0)) := by
            show R = (2, 0, 0)
            rw [← HT]; simp only [rdG]; rw [if_pos (.inr ⟨k0, by first | rfl | trivial⟩)]
          clear HT HRR z1
          go_wp2
          go_ret3
          exact ⟨by rw [HX.out]; rfl, rfl⟩
        · have HP : Hid ((2 : Int) ^ (7 * k) = 128 ^ k ∧ c % 128 * 2 ^ (7 * k) < 9223372036854775808 ∧ z + c % 128 * 2 ^ (7 * k) < 2 ^ (7 * (k + 1)) ∧ (2 : Int) ^ (7 * (k + 1)) ≤ 9223372036854775808 ∧ 0 ≤ c % 128 * 2 ^ (7 * k)) := by
            show _ ∧ _
            clear HT HRR
            have : k = 0 ∨ k = 1 ∨ k = 2 ∨ k = 3 ∨ k = 4 ∨ k = 5 ∨ k = 6 ∨ k = 7 ∨ k = 8 := by omega
            rcases this with rfl | rfl | rfl | rfl | rfl | rfl | rfl | rfl | rfl
            all_goals (refine ⟨by decide, ?_, ?_, by decide, ?_⟩ <;> simp at z1 ⊢ <;> omega)
          have HO : Hid (bits .or .u64 z (c % 128 * 2 ^ (7 * k)) = z + c % 128 * 2 ^ (7 * k)) := or_u64 z (c % 128) (7 * k) (by omega) z0 z1 (by omega) (by have := HP.out.2.1; omega)
          have Z0 : 0 ≤ z + c % 128 * 2 ^ (7 * k) := by have := HP.out.2.2.2.2; omega
          have Z2 : z + c % 128 * 2 ^ (7 * k) < 2 ^ (7 * (k + 1)) := HP.out.2.2.1
          have Z1 : z + c % 128 * 2 ^ (7 * k) < 18446744073709551616 := by have := HP.out.2.2.2.1; omega
          have hX := HT
          simp only [rdG] at hX
          rw [if_neg (by omega), ← HP.out.1] at hX
          have Y0 : 0 ≤ c % 128 * 2 ^ (7 * k) := HP.out.2.2.2.2
          have Y1 : c % 128 * 2 ^ (7 * k) < 18446744073709551616 := by have := HP.out.2.1; omega
          clear HP HT HRR
          have ec : k = 0 ∨ (0 < k ∧ (c == 0) = false) := by
            rcases Nat.eq_zero_or_pos k with h | h
            · exact .inl h
            · exact .inr ⟨h, by simp; omega⟩
          by_cases hc8 : c < 128
          · rw [if_pos hc8] at hX
            have HX := hidX hX.symm
            clear hX hbad Z2
            rcases ec with rfl | ⟨k0, e0⟩
            · rw [show ((2 : Int) ^ (7 * 0)) = 1 from rfl, Int.mul_one] at HO Z0 Z1 Y0 Y1 HX
              rw [Nat.add_zero] at c0
              go_wp2_with (go_at_call 52; rw [HO.out]; refine (signed_any _ _ Z0 Z1).mono ?_; rintro e w' ⟨rfl, rfl⟩)
              go_ret3
              exact ⟨by rw [HX.out]; rfl, rfl⟩
            · go_wp2_with (go_at_call 52; rw [HO.out]; refine (signed_any _ _ Z0 Z1).mono ?_; rintro e w' ⟨rfl, rfl⟩)
              go_ret3
              exact ⟨by rw [HX.out]; rfl, rfl⟩
          · rw [if_neg hc8] at hX
            have HX := hidX hX
            clear hX hbad
            rcases ec with rfl | ⟨k0, e0⟩
            · rw [show ((2 : Int) ^ (7 * 0)) = 1 from rfl, Int.mul_one] at HO Z0 Z1 Y0 Y1 HX
              rw [Nat.add_zero] at c0
              rw [show ((2 : Int) ^ (7 * 0)) = 1 from rfl, Int.mul_one] at Z2
              go_wp2
              go_roundw
              case rel => exact ⟨0 + 1, _, by omega, by omega, congrArg (Value.int .u64) HO.out, by go_num, Z0, Z2, HX, by first | rfl | trivial⟩
              case measure => simp [intOf]; omega
            · go_wp2
              go_roundw
              case rel => exact ⟨k + 1, _, by omega, by omega, congrArg (Value.int .u64) HO.out, by go_num, Z0, Z2, HX, by first | rfl | trivial⟩
              case measure => simp [intOf]; omega
    · have HX : Hid (R = (8, 0, 0)) := by
        show R = (8, 0, 0)
        rw [← hT.out, List.drop_eq_nil_of_le (by omega)]; simp only [rdG]
      clear hT HRR z1 hc hb
      go_wp2
      go_ret3
      exact ⟨by rw [HX.out]; rfl, rfl⟩
set_option maxHeartbeats 4000000 in
theorem nrd_none (a : Option Addr) (cap : Nat) (w : World) :
    Calls Tryd.prog 45 #[.slice a 0 cap] w fun e w' => e = .returned (.tuple #[.int .i64 0, .int .i64 0, .iface 70 (.int .i64 8)]) ∧ w' = w := by
  go_enter Tryd.func45, Tryd.ntmps45
  go_wp2
  refine wp_loop_rounds 1 ?_
  rw [rounds_succ]
  go_wp2
  go_ret3
  exact ⟨rfl, rfl⟩
theorem nrd_any (v : Value) (zs : List Int) (w : World) (h : Bytes w v zs) :
    Calls Tryd.prog 45 #[v] w fun e w' => e = .returned (.tuple #[.int .i64 (rdL zs).2.1, .int .i64 ((rdL zs).2.2 : Nat), errV (rdL zs).1]) ∧ w' = w := by
  rcases h with ⟨rfl, a, cap, rfl, _⟩ | ⟨b, off, len, cap, rfl, h2, h3, h4, h5, h6⟩
  · exact nrd_none a cap w
  · exact nrd_some b off len cap zs w h2 h3 h5 h6
end Go.Proofs.YtbncegjnjlokmaaDoor
