/- What bit and half of package trie return, for every address and every prefix that is none of 32. -/
import Derived.Test.YtdpnmhfhjcebbaaDoorTrieAt
import Derived.Test.YtdpnmhfhjcebbaaDoorAddrNum
import Derived.Laws.BitsLemmas
import Derived.Deep.RegionHeld3
namespace Go.Proofs.YtdpnmhfhjcebbaaDoor
open Go.RowKit
set_option linter.unusedVariables false

theorem wrap_63 {n : Int} (h0 : 0 ≤ n) (h1 : n < 2 ^ 63) : IntKind.i64.wrap n = n := wrap_in (by omega) (by omega)
theorem bit_is {a : Int} {d : Nat} (h0 : 0 ≤ a) (h1 : a ≤ 4294967295) (hd : d < 32) : bits .and .i64 (a / 2 ^ (31 - d)) 1 = (kbit a d : Int) := by
  have e := bits_mask .i64 63 (by decide) (fun n h0 h1 => wrap_63 h0 h1) 1 (by decide) (a / 2 ^ (31 - d)) (Int.ediv_nonneg h0 (Int.le_of_lt (Int.pow_pos (by decide)))) (by
    have : a / 2 ^ (31 - d) ≤ a := Int.ediv_le_self _ h0
    omega)
  rw [show ((2 : Int) ^ 1 - 1) = 1 from rfl] at e
  rw [e]
  obtain ⟨n, rfl⟩ := Int.eq_ofNat_of_zero_le h0
  unfold kbit kq
  rw [Int.toNat_natCast, show 32 - (d + 1) = 31 - d by omega]
  push_cast; rfl
set_option maxHeartbeats 2000000 in
theorem bit_any (a : Int) (d : Nat) (w : World) (h0 : 0 ≤ a) (h1 : a ≤ 4294967295) (hd : d < 32) :
    Calls Tryd.prog 35 #[.int .i64 a, .int .i64 (d : Int)] w fun e w' => e = .returned (.int .i64 (kbit a d : Int)) ∧ w' = w := by
  have hb := bit_is h0 h1 hd
  go_enter Tryd.func35, Tryd.ntmps35
  go_wp2
  go_ret
  exact ⟨rfl, rfl⟩
theorem half_is {d q i : Nat} (hd : d < 32) (hq : q < 2 ^ d) (hi : i < 2) : bits .or .i64 (ka d q) ((i : Int) * 2 ^ (31 - d)) = ka (d + 1) (2 * q + i) := by
  have hb := ka_bounds (Nat.le_of_lt hd) hq
  have hp : (2 : Nat) ^ (31 - d) ≤ 2 ^ 31 := Nat.pow_le_pow_right (by decide) (by omega)
  have hm : i * 2 ^ (31 - d) ≤ 1 * 2 ^ (31 - d) := Nat.mul_le_mul_right _ (by omega)
  have h2 : 2 ^ (32 - d) = 2 ^ (31 - d) * 2 := by rw [← Nat.pow_succ]; congr 1; omega
  have e2 : ((i : Int) * 2 ^ (31 - d)) = ((i * 2 ^ (31 - d) : Nat) : Int) := by push_cast; rfl
  have hpos := Nat.two_pow_pos (31 - d)
  rw [ka_half hd, e2]
  refine bits_join .i64 63 (by decide) (fun n h0 h1 => wrap_63 h0 h1) (32 - d) _ _ hb.1 ?_ (by omega) (by omega) ?_ (by omega)
  · have : q * 2 ^ (32 - d) % 2 ^ (32 - d) = 0 := Nat.mul_mod_left _ _
    unfold ka
    exact_mod_cast this
  · have : i * 2 ^ (31 - d) < 2 ^ (32 - d) := by omega
    exact_mod_cast this
set_option maxHeartbeats 4000000 in
theorem half_any (d q i : Nat) (w : World) (hd : d < 32) (hq : q < 2 ^ d) (hi : i < 2) :
    Calls Tryd.prog 37 #[.agg #[.int .i64 (ka d q), .int .i64 (d : Int)], .int .i64 (i : Int)] w fun e w' => e = .returned (.agg #[.int .i64 (ka (d + 1) (2 * q + i)), .int .i64 ((d + 1 : Nat) : Int)]) ∧ Below w.heap.size w w' := by
  have hh := half_is hd hq hi
  obtain ⟨A, hA⟩ : ∃ A, ka d q = A := ⟨_, rfl⟩
  obtain ⟨R, hR⟩ : ∃ R, ka (d + 1) (2 * q + i) = R := ⟨_, rfl⟩
  rw [hA, hR] at hh
  rw [hA, hR]
  have hs : wrap64 ((i : Int) * 2 ^ (31 - d)) = (i : Int) * 2 ^ (31 - d) := by
    have hp : (2 : Nat) ^ (31 - d) ≤ 2 ^ 31 := Nat.pow_le_pow_right (by decide) (by omega)
    have hm : i * 2 ^ (31 - d) ≤ 1 * 2 ^ (31 - d) := Nat.mul_le_mul_right _ (by omega)
    have e2 : ((i : Int) * 2 ^ (31 - d)) = ((i * 2 ^ (31 - d) : Nat) : Int) := by push_cast; rfl
    rw [e2]; unfold wrap64; omega
  clear hA hR
  go_enter Tryd.func37, Tryd.ntmps37
  go_upto_region 1 with fail
  go_region
  go_wp2
  exact bodyPost_ret (v := .agg #[.int .i64 R, .int .i64 ((d : Int) + 1)]) (by simp [results, Tryd.results37, go_sem]) rfl ⟨by push_cast; rfl, (((Below.refl _ _).alloc (Nat.le_refl _) _).alloc (by simp) _).drew⟩
end Go.Proofs.YtdpnmhfhjcebbaaDoor
