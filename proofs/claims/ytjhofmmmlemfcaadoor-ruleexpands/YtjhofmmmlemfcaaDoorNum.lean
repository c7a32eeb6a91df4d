/- Plain facts on powers of two, addresses and prefixes, as the walks of this seat speak of them: 'pw', 'isAddr', 'prefE' (the fault of a prefix), 'hasB' (has a prefix an address). -/
import Derived.Test.YtjhofmmmlemfcaaDoorProg
import Derived.WalkKit
import Derived.Below
import Derived.WalkSmall
import Derived.Deep.QuietTactic
import Derived.BigQuiet
namespace Go.Proofs.YtjhofmmmlemfcaaDoor
open Go.RowKit
set_option linter.unusedVariables false

def pw (n : Int) : Int := ((2 ^ n.toNat : Nat) : Int)
theorem pw_pos (n : Int) : 1 ≤ pw n := by
  unfold pw
  have := Nat.two_pow_pos n.toNat
  omega
theorem pw_succ (k : Nat) : pw ((k : Int) + 1) = pw (k : Int) * 2 := by
  unfold pw
  have : ((k : Int) + 1).toNat = k + 1 := by omega
  rw [this, Int.toNat_natCast, Nat.pow_succ]; simp
theorem pw_mono {a b : Nat} (h : a ≤ b) : pw (a : Int) ≤ pw (b : Int) := by
  unfold pw
  have := Nat.pow_le_pow_right (by omega : 2 > 0) h
  simp only [Int.toNat_natCast]
  exact_mod_cast this
theorem pw_62 : pw ((62 : Nat) : Int) = 4611686018427387904 := by decide
theorem pw_le {n : Int} (h0 : 0 ≤ n) (h : n ≤ 62) : pw n ≤ 4611686018427387904 := by
  obtain ⟨k, rfl⟩ := Int.eq_ofNat_of_zero_le h0
  have := pw_mono (a := k) (b := 62) (by omega)
  rw [pw_62] at this; exact this

def isAddr (a : Int) : Bool := decide (0 ≤ a ∧ a ≤ 4294967295)
theorem isAddr_yes {n : Int} (h0 : 0 ≤ n) (h1 : n ≤ 4294967295) : isAddr n = true := by simp [isAddr, h0, h1]
theorem isAddr_no {n : Int} (h : ¬ (0 ≤ n ∧ n ≤ 4294967295)) : isAddr n = false := by simpa [isAddr] using h
theorem of_isAddr {n : Int} (h : isAddr n = true) : 0 ≤ n ∧ n ≤ 4294967295 := by simpa [isAddr] using h

/-- The fault of a prefix. -/
def prefE (a l : Int) : Int := if isAddr a = true ∧ 0 ≤ l ∧ l ≤ 32 then (if a % pw (32 - l) = 0 then 0 else 3) else 1

/-- Has a prefix an address? -/
def hasB (a l x : Int) : Bool := decide (prefE a l = 0 ∧ isAddr x = true ∧ a ≤ x ∧ x ≤ a + pw (32 - l) - 1)
theorem prefE_zero {a l : Int} (h : prefE a l = 0) : (0 ≤ a ∧ a ≤ 4294967295) ∧ (0 ≤ l ∧ l ≤ 32) ∧ a % pw (32 - l) = 0 := by
  unfold prefE at h
  split at h
  · rename_i h1
    split at h
    · rename_i h2; exact ⟨of_isAddr h1.1, h1.2, h2⟩
    · omega
  · omega

theorem mul_le_of_lt {a b q : Nat} (h : a * q < b * q) : a * q + q ≤ b * q := by
  have h1 : a < b := Nat.lt_of_mul_lt_mul_right h
  have h2 : (a + 1) * q ≤ b * q := Nat.mul_le_mul_right q h1
  rw [Nat.add_mul] at h2; omega
/-- The last address of a prefix is an address. -/
theorem pref_top {a l : Int} (h : prefE a l = 0) : a + pw (32 - l) - 1 ≤ 4294967295 := by
  obtain ⟨⟨h0, h1⟩, ⟨h2, h3⟩, hm⟩ := prefE_zero h
  obtain ⟨m, rfl⟩ := Int.eq_ofNat_of_zero_le h2
  obtain ⟨x, rfl⟩ := Int.eq_ofNat_of_zero_le h0
  have e : (32 - (m : Int)).toNat = 32 - m := by omega
  unfold pw at hm ⊢
  rw [e] at hm ⊢
  have hd : x % 2 ^ (32 - m) = 0 := by exact_mod_cast hm
  have hx : x = x / 2 ^ (32 - m) * 2 ^ (32 - m) := by have := Nat.div_add_mod x (2 ^ (32 - m)); rw [hd, Nat.mul_comm] at this; omega
  have hmm : m + (32 - m) = 32 := by omega
  have hq : 2 ^ m * 2 ^ (32 - m) = 4294967296 := by rw [← Nat.pow_add, hmm]
  have hlt : x / 2 ^ (32 - m) * 2 ^ (32 - m) < 2 ^ m * 2 ^ (32 - m) := by rw [← hx, hq]; omega
  have := mul_le_of_lt hlt
  rw [← hx, hq] at this
  omega

/-- A boxed pair of numbers reads as it did behind whatever only makes memory. -/
theorem boxed {w w1 : World} {a l : Int} {t : TypeId} (hb : Below (w.alloc (.cells #[.int .i64 a, .int .i64 l] t)).heap.size (w.alloc (.cells #[.int .i64 a, .int .i64 l] t)) w1) :
    w1.cell? ⟨w.heap.size, 0, none⟩ = some (.int .i64 a) ∧ w1.cell? ⟨w.heap.size, 1, none⟩ = some (.int .i64 l) ∧ Below w.heap.size w w1 ∧ w.heap.size < w1.heap.size := by
  have hs : (w.alloc (.cells #[.int .i64 a, .int .i64 l] t)).heap.size = w.heap.size + 1 := by simp
  have h0 : Below w.heap.size w (w.alloc (.cells #[.int .i64 a, .int .i64 l] t)) := (Below.refl _ _).alloc (Nat.le_refl _) _
  refine ⟨?_, ?_, h0.trans (hb.mono (by rw [hs]; omega)), ?_⟩
  · rw [hb.cell (p := ⟨w.heap.size, 0, none⟩) (by rw [hs]; exact Nat.lt_succ_self _)]; simp
  · rw [hb.cell (p := ⟨w.heap.size, 1, none⟩) (by rw [hs]; exact Nat.lt_succ_self _)]; simp
  · have := hb.size; rw [hs] at this; omega

end Go.Proofs.YtjhofmmmlemfcaaDoor
