/- Plain facts on powers of two, addresses and prefixes, as the walks of this seat speak of them: 'pw', 'isAddr', 'prefE' (the fault of a prefix), 'hasB' (has a prefix an address). -/
import Derived.Test.YtobfkabhnanpfaaGreatDoorProg
import Derived.WalkKit
import Derived.Below
import Derived.WalkSmall
import Derived.Deep.QuietTactic
import Derived.BigQuiet
import Derived.Test.YtobfkabhnanpfaaGreatDoorMgD
namespace Go.Proofs.YtobfkabhnanpfaaGreatDoor
open Go.RowKit
set_option linter.unusedVariables false

def pw (n : Int) : Int := ((2 ^ n.toNat : Nat) : Int)
theorem pw_pos (n : Int) : 1 ≤ pw n := by
  unfold pw
  have := Nat.two_pow_pos n.toNat
  omega
theorem pw_succ (k : Nat) : pw ((k : Int) + 1) = pw (k : Int) * 2 := by
  unfold pw
  have : ((k : Int) + 1).toNat = k + 1 := by omega
  rw [this, Int.toNat_natCast, Nat.pow_succ]; simp
theorem pw_mono {a b : Nat} (h : a ≤ b) : pw (a : Int) ≤ pw (b : Int) := by
  unfold pw
  have := Nat.pow_le_pow_right (by omega : 2 > 0) h
  simp only [Int.toNat_natCast]
  exact_mod_cast this
theorem pw_62 : pw ((62 : Nat) : Int) = 4611686018427387904 := by decide
theorem pw_le {n : Int} (h0 : 0 ≤ n) (h : n ≤ 62) : pw n ≤ 4611686018427387904 := by
  obtain ⟨k, rfl⟩ := Int.eq_ofNat_of_zero_le h0
  have := pw_mono (a := k) (b := 62) (by omega)
  rw [pw_62] at this; exact this

def isAddr (a : Int) : Bool := decide (0 ≤ a ∧ a ≤ 4294967295)
theorem isAddr_yes {n : Int} (h0 : 0 ≤ n) (h1 : n ≤ 4294967295) : isAddr n = true := by simp [isAddr, h0, h1]
theorem isAddr_no {n : Int} (h : ¬ (0 ≤ n ∧ n ≤ 4294967295)) : isAddr n = false := by simpa [isAddr] using h
theorem of_isAddr {n : Int} (h : isAddr n = true) : 0 ≤ n ∧ n ≤ 4294967295 := by simpa [isAddr] using h

/-- The fault of a prefix. -/
def prefE (a l : Int) : Int := if isAddr a = true ∧ 0 ≤ l ∧ l ≤ 32 then (if a % pw (32 - l) = 0 then 0 else 3) else 1

/-- Has a prefix an address? -/
def hasB (a l x : Int) : Bool := decide (prefE a l = 0 ∧ isAddr x = true ∧ a ≤ x ∧ x ≤ a + pw (32 - l) - 1)
theorem prefE_zero {a l : Int} (h : prefE a l = 0) : (0 ≤ a ∧ a ≤ 4294967295) ∧ (0 ≤ l ∧ l ≤ 32) ∧ a % pw (32 - l) = 0 := by
  unfold prefE at h
  split at h
  · rename_i h1
    split at h
    · rename_i h2; exact ⟨of_isAddr h1.1, h1.2, h2⟩
    · omega
  · omega

theorem mul_le_of_lt {a b q : Nat} (h : a * q < b * q) : a * q + q ≤ b * q := by
  have h1 : a < b := Nat.lt_of_mul_lt_mul_right h
  have h2 : (a + 1) * q ≤ b * q := Nat.mul_le_mul_right q h1
  rw [Nat.add_mul] at h2; omega
/-- The last address of a prefix is an address. -/
theorem pref_top {a l : Int} (h : prefE a l = 0) : a + pw (32 - l) - 1 ≤ 4294967295 := by
  obtain ⟨⟨h0, h1⟩, ⟨h2, h3⟩, hm⟩ := prefE_zero h
  obtain ⟨m, rfl⟩ := Int.eq_ofNat_of_zero_le h2
  obtain ⟨x, rfl⟩ := Int.eq_ofNat_of_zero_le h0
  have e : (32 - (m : Int)).toNat = 32 - m := by omega
  unfold pw at hm ⊢
  rw [e] at hm ⊢
  have hd : x % 2 ^ (32 - m) = 0 := by exact_mod_cast hm
  have hx : x = x / 2 ^ (32 - m) * 2 ^ (32 - m) := by have := Nat.div_add_mod x (2 ^ (32 - m)); rw [hd, Nat.mul_comm] at this; omega
  have hmm : m + (32 - m) = 32 := by omega
  have hq : 2 ^ m * 2 ^ (32 - m) = 4294967296 := by rw [← Nat.pow_add, hmm]
  have hlt : x / 2 ^ (32 - m) * 2 ^ (32 - m) < 2 ^ m * 2 ^ (32 - m) := by rw [← hx, hq]; omega
  have := mul_le_of_lt hlt
  rw [← hx, hq] at this
  omega

/-- A boxed pair of numbers reads as it did behind whatever only makes memory. -/
theorem boxed {w w1 : World} {a l : Int} {t : TypeId} (hb : Below (w.alloc (.cells #[.int .i64 a, .int .i64 l] t)).heap.size (w.alloc (.cells #[.int .i64 a, .int .i64 l] t)) w1) :
    w1.cell? ⟨w.heap.size, 0, none⟩ = some (.int .i64 a) ∧ w1.cell? ⟨w.heap.size, 1, none⟩ = some (.int .i64 l) ∧ Below w.heap.size w w1 ∧ w.heap.size < w1.heap.size := by
  have hs : (w.alloc (.cells #[.int .i64 a, .int .i64 l] t)).heap.size = w.heap.size + 1 := by simp
  have h0 : Below w.heap.size w (w.alloc (.cells #[.int .i64 a, .int .i64 l] t)) := (Below.refl _ _).alloc (Nat.le_refl _) _
  refine ⟨?_, ?_, h0.trans (hb.mono (by rw [hs]; omega)), ?_⟩
  · rw [hb.cell (p := ⟨w.heap.size, 0, none⟩) (by rw [hs]; exact Nat.lt_succ_self _)]; simp
  · rw [hb.cell (p := ⟨w.heap.size, 1, none⟩) (by rw [hs]; exact Nat.lt_succ_self _)]; simp
  · have := hb.size; rw [hs] at this; omega

end Go.Proofs.YtobfkabhnanpfaaGreatDoor

namespace Go.Proofs.YtobfkabhnanpfaaGreatDoor
open Go.RowKit
set_option linter.unusedVariables false

theorem refAddr_any (n : Int) (w : World) :
    Calls Tryz.prog 66 #[.int .i64 n] w fun e w' => e = .returned (.bool (isAddr n)) ∧ w' = w := by
  by_cases h0 : 0 ≤ n
  · by_cases h1 : n ≤ 4294967295
    · rw [isAddr_yes h0 h1]
      go_enter Tryz.func66, Tryz.ntmps66
      go_wp2
      go_ret
      exact ⟨rfl, rfl⟩
    · rw [isAddr_no (by omega)]
      go_enter Tryz.func66, Tryz.ntmps66
      go_wp2
      go_ret
      exact ⟨rfl, rfl⟩
  · rw [isAddr_no (by omega)]
    go_enter Tryz.func66, Tryz.ntmps66
    go_wp2
    go_ret
    exact ⟨rfl, rfl⟩
end Go.Proofs.YtobfkabhnanpfaaGreatDoor

namespace Go.Proofs.YtobfkabhnanpfaaGreatDoor
open Go.RowKit
set_option linter.unusedVariables false

theorem tmod_neg {n : Int} (h : n < 0) : n.tmod 4294967296 = -((-n) % 4294967296) := by
  have e : n = -(-n) := by omega
  rw [e, Int.neg_tmod, Int.tmod_eq_emod_of_nonneg (by omega)]
  simp
theorem round_any (n : Int) (w : World) :
    Calls Tryz.prog 107 #[.int .i64 n] w fun e w' => e = .returned (.int .i64 (n % 4294967296)) ∧ w' = w := by
  by_cases h : 0 ≤ n
  · have h1 : 0 ≤ n % 4294967296 := by omega
    go_enter Tryz.func107, Tryz.ntmps107
    go_wp2
    go_ret
    exact ⟨rfl, rfl⟩
  · have hn : n < 0 := by omega
    obtain ⟨r, hr⟩ : ∃ r, n.tmod 4294967296 = r := ⟨_, rfl⟩
    have e := tmod_neg hn
    rw [hr] at e
    obtain ⟨z, HZ⟩ : ∃ z, Hid (z = n % 4294967296) := ⟨_, rfl⟩
    rw [← HZ.out]
    have r1 : -4294967296 < r := by omega
    have r2 : r ≤ 0 := by omega
    by_cases h0 : r < 0
    · have E : Hid (r + 4294967296 = z) := by show r + 4294967296 = z; rw [HZ.out]; omega
      clear e
      go_enter Tryz.func107, Tryz.ntmps107
      go_wp2
      go_ret
      exact ⟨ret_int E.out, rfl⟩
    · have E : Hid (r = z) := by show r = z; rw [HZ.out]; omega
      clear e
      go_enter Tryz.func107, Tryz.ntmps107
      go_wp2
      go_ret
      exact ⟨ret_int E.out, rfl⟩
theorem near_eq (a b most : Int) (h0 : 0 ≤ most) (h1 : most ≤ 1073741824) : nearB a b most = (decide ((a % 4294967296 - b % 4294967296) % 4294967296 ≤ most) || decide ((b % 4294967296 - a % 4294967296) % 4294967296 ≤ most)) := by
  unfold nearB
  rw [upB_yes h0 h1, Bool.true_and, ← Bool.decide_or, decide_eq_decide]
  omega
theorem refNear_any (a b most : Int) (w : World) :
    Calls Tryz.prog 85 #[.int .i64 a, .int .i64 b, .int .i64 most] w fun e w' => e = .returned (.bool (nearB a b most)) ∧ w' = w := by
  by_cases h0 : most < 0
  · rw [show nearB a b most = false by unfold nearB; rw [show upB most 1073741824 = false by simp [upB]; omega]; rfl]
    go_enter Tryz.func85, Tryz.ntmps85
    go_wp2
    go_ret
    exact ⟨rfl, rfl⟩
  by_cases h1 : 1073741824 < most
  · rw [show nearB a b most = false by unfold nearB; rw [show upB most 1073741824 = false by simp [upB]; omega]; rfl]
    go_enter Tryz.func85, Tryz.ntmps85
    go_wp2
    go_ret
    exact ⟨rfl, rfl⟩
  · rw [near_eq a b most (by omega) (by omega)]
    have c1 := fun W => round_any a W
    have c2 := fun W => round_any b W
    have x1 : 0 ≤ a % 4294967296 ∧ a % 4294967296 < 4294967296 := by omega
    have y1 : 0 ≤ b % 4294967296 ∧ b % 4294967296 < 4294967296 := by omega
    generalize a % 4294967296 = x at *
    generalize b % 4294967296 = y at *
    have c3 := fun W => round_any (x - y) W
    have c4 := fun W => round_any (y - x) W
    generalize (x - y) % 4294967296 = d at *
    generalize (y - x) % 4294967296 = f at *
    have m0 : True := trivial
    by_cases hd : d ≤ most
    · rw [show (decide (d ≤ most) || decide (f ≤ most)) = true by simp [hd]]
      go_enter Tryz.func85, Tryz.ntmps85
      go_wp2_with (first
        | (go_at_call 107; have m1 : True := m0; clear m0; refine (c1 _).mono ?_; rintro e w' ⟨rfl, rfl⟩)
        | (go_at_call 107; have m2 : True := m1; clear m1; refine (c2 _).mono ?_; rintro e w' ⟨rfl, rfl⟩)
        | (go_at_call 107; have m3 : True := m2; clear m2; refine (c3 _).mono ?_; rintro e w' ⟨rfl, rfl⟩)
        | (go_at_call 107; have m4 : True := m3; clear m3; refine (c4 _).mono ?_; rintro e w' ⟨rfl, rfl⟩))
      go_ret
      exact ⟨rfl, rfl⟩
    · go_enter Tryz.func85, Tryz.ntmps85
      go_wp2_with (first
        | (go_at_call 107; have m1 : True := m0; clear m0; refine (c1 _).mono ?_; rintro e w' ⟨rfl, rfl⟩)
        | (go_at_call 107; have m2 : True := m1; clear m1; refine (c2 _).mono ?_; rintro e w' ⟨rfl, rfl⟩)
        | (go_at_call 107; have m3 : True := m2; clear m2; refine (c3 _).mono ?_; rintro e w' ⟨rfl, rfl⟩)
        | (go_at_call 107; have m4 : True := m3; clear m3; refine (c4 _).mono ?_; rintro e w' ⟨rfl, rfl⟩))
      go_ret
      exact ⟨rfl, rfl⟩
theorem near_any (a b most : Int) (w : World) :
    Calls Tryz.prog 128 #[.int .i64 a, .int .i64 b, .int .i64 most] w fun e w' => e = .returned (.bool (nearB a b most)) ∧ w' = w := by
  rcases hu : upB most 1073741824 with _ | _
  · rw [show nearB a b most = false by unfold nearB; rw [hu]; rfl]
    go_enter Tryz.func128, Tryz.ntmps128
    go_wp2_with (go_at_call 125; refine (sgUp_any _ _ _).mono ?_; rintro e w' ⟨rfl, rfl⟩)
    go_ret
    exact ⟨rfl, rfl⟩
  · have hm := of_upB hu
    obtain ⟨d, hd⟩ : ∃ d, IntKind.i64.wrap (a - b) = d := ⟨_, rfl⟩
    obtain ⟨f, hf⟩ : ∃ f, IntKind.i64.wrap (d + most) = f := ⟨_, rfl⟩
    obtain ⟨z, hz⟩ : ∃ z, IntKind.u32.wrap f = z := ⟨_, rfl⟩
    have h2 : IntKind.u32.wrap (2 * most) = 2 * most := by rw [IntKind.wrap_u32]; omega
    have E : Hid (z = (a - b + most) % 4294967296) := by
      show z = _
      rw [← hz, ← hf, ← hd, IntKind.wrap_u32, IntKind.wrap_i64, IntKind.wrap_i64]; omega
    have ER : nearB a b most = decide (z ≤ 2 * most) := by unfold nearB; rw [hu, E.out, Bool.true_and]
    rw [ER]
    clear E ER
    go_enter Tryz.func128, Tryz.ntmps128
    go_wp2_with (go_at_call 125; refine (sgUp_any _ _ _).mono ?_; rintro e w' ⟨rfl, rfl⟩)
    go_ret
    exact ⟨rfl, rfl⟩
end Go.Proofs.YtobfkabhnanpfaaGreatDoor
