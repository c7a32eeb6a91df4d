/- Plain facts on prefixes: of two that share an address one lies within the other; the text of an address is read as that address. -/
import Derived.Test.YtkjjalaelehjeabDoorAddrPP
import Derived.Test.YtkjjalaelehjeabDoorAddrHas
namespace Go.Proofs.YtkjjalaelehjeabDoor
open Go.RowKit
set_option linter.unusedVariables false

theorem pw_split {l m : Int} (h0 : 0 ≤ m) (h1 : m ≤ l) (h2 : l ≤ 32) : ∃ k : Int, 1 ≤ k ∧ pw (32 - m) = k * pw (32 - l) := by
  refine ⟨pw (l - m), pw_pos _, ?_⟩
  unfold pw
  have e : (32 - m).toNat = (l - m).toNat + (32 - l).toNat := by omega
  rw [e, Nat.pow_add]; simp
theorem aligned {a P : Int} (h : a % P = 0) : ∃ c : Int, a = c * P := ⟨a / P, by have := Int.emod_add_mul_ediv a P; rw [h, Int.mul_comm] at this; omega⟩
theorem step_le {c d P : Int} (hP : 1 ≤ P) (h : c * P < d * P) : c * P + P ≤ d * P := by
  have h1 : c < d := Int.lt_of_mul_lt_mul_right h (by omega)
  have h2 : (c + 1) * P ≤ d * P := Int.mul_le_mul_of_nonneg_right (by omega) (by omega)
  rw [Int.add_mul] at h2; omega
theorem nest {a l b m : Int} (hp : prefE a l = 0) (hq : prefE b m = 0) (h : m ≤ l) (h1 : b ≤ a) (h2 : a ≤ b + pw (32 - m) - 1) : a + pw (32 - l) - 1 ≤ b + pw (32 - m) - 1 := by
  obtain ⟨hA, hL, hm⟩ := prefE_zero hp
  obtain ⟨hB, hM, hn⟩ := prefE_zero hq
  obtain ⟨k, hk, e⟩ := pw_split hM.1 h hL.2
  have hP := pw_pos (32 - l)
  obtain ⟨c, hc⟩ := aligned hm
  obtain ⟨d, hd⟩ := aligned hn
  rw [e] at h2 hd ⊢
  generalize pw (32 - l) = P at *
  have e2 : b + k * P = (d * k + k) * P := by rw [hd, Int.add_mul, Int.mul_assoc]
  have h3 : c * P < (d * k + k) * P := by rw [← e2, ← hc]; omega
  have := step_le hP h3
  rw [← e2, ← hc] at this; omega
theorem nest_at {a l b m x : Int} (hp : prefE a l = 0) (hq : prefE b m = 0) (h : m ≤ l) (h1 : a ≤ x) (h2 : x ≤ a + pw (32 - l) - 1) (h3 : b ≤ x) (h4 : x ≤ b + pw (32 - m) - 1) : b ≤ a ∧ a ≤ b + pw (32 - m) - 1 := by
  obtain ⟨hA, hL, hm⟩ := prefE_zero hp
  obtain ⟨hB, hM, hn⟩ := prefE_zero hq
  obtain ⟨k, hk, e⟩ := pw_split hM.1 h hL.2
  have hP := pw_pos (32 - l)
  obtain ⟨c, hc⟩ := aligned hm
  obtain ⟨d, hd⟩ := aligned hn
  refine ⟨?_, by omega⟩
  rw [e] at hd
  generalize pw (32 - l) = P at *
  rw [← Int.mul_assoc] at hd
  rcases Int.lt_or_le a b with hlt | hle
  · rw [hc, hd] at hlt
    have := step_le hP hlt
    rw [← hc, ← hd] at this; omega
  · exact hle
theorem pw_lt {l m : Int} (h0 : 0 ≤ l) (h1 : l < m) (h2 : m ≤ 32) : pw (32 - m) < pw (32 - l) := by
  obtain ⟨k, hk, e⟩ := pw_split (l := m - 1) (m := l) h0 (by omega) (by omega)
  have e2 : pw (32 - (m - 1)) = pw (32 - m) * 2 := by
    have := pw_succ (32 - m).toNat
    have e3 : (((32 - m).toNat : Nat) : Int) = 32 - m := by omega
    rw [e3] at this
    have e4 : 32 - (m - 1) = 32 - m + 1 := by omega
    rw [e4]; exact this
  have hP := pw_pos (32 - m)
  rw [e, e2]
  have : 1 * (pw (32 - m) * 2) ≤ k * (pw (32 - m) * 2) := Int.mul_le_mul_of_nonneg_right hk (by omega)
  omega

theorem in_both {a l b m : Int} (hp : prefE a l = 0) (hq : prefE b m = 0) : inB a l b m = (hasB b m a && hasB b m (a + pw (32 - l) - 1)) := by
  have hP := pw_pos (32 - l)
  unfold inB
  rw [hasB_eq hq, hasB_eq hq, decide_eq_true hp, Bool.true_and]
  by_cases h1 : b ≤ a
  · by_cases h2 : a ≤ b + pw (32 - m) - 1
    · obtain ⟨hA, hL, hm⟩ := prefE_zero hp
      obtain ⟨hB, hM, hn⟩ := prefE_zero hq
      have h3 : b ≤ a + pw (32 - l) - 1 := by omega
      by_cases h4 : m ≤ l
      · have := nest hp hq h4 h1 h2
        simp [h1, h2, h3, h4, this]
      · have h5 := pw_lt hL.1 (by omega : l < m) hM.2
        have h6 : ¬ a + pw (32 - l) - 1 ≤ b + pw (32 - m) - 1 := by omega
        simp [h4, h6]
    · simp [h2]
  · simp [h1]
theorem has_low {a l : Int} (hp : prefE a l = 0) : hasB a l a = true := by
  have hP := pw_pos (32 - l)
  rw [hasB_eq hp]; simp; omega
theorem has_under {a l : Int} (hp : prefE a l = 0) : hasB a l (a - 1) = false := by
  rw [hasB_eq hp]; simp; omega
theorem has_over {a l : Int} (hp : prefE a l = 0) : hasB a l (a + pw (32 - l) - 1 + 1) = false := by
  rw [hasB_eq hp]; simp; omega
theorem has_shared {a l b m x : Int} (hp : prefE a l = 0) (hq : prefE b m = 0) (h1 : inB a l b m = false) (h2 : inB b m a l = false) : (hasB a l x && hasB b m x) = false := by
  rcases h : (hasB a l x && hasB b m x) with _ | _
  · rfl
  · exfalso
    rw [hasB_eq hp, hasB_eq hq] at h
    simp at h
    obtain ⟨⟨x1, x2⟩, x3, x4⟩ := h
    by_cases hlm : m ≤ l
    · have := nest_at hp hq hlm x1 x2 x3 x4
      unfold inB at h1
      rw [hasB_eq hq] at h1
      simp [hp, hlm, this.1, this.2] at h1
    · have := nest_at hq hp (by omega : l ≤ m) x3 x4 x1 x2
      unfold inB at h2
      rw [hasB_eq hp] at h2
      have hml : l ≤ m := by omega
      simp [hq, hml, this.1, this.2] at h2
theorem in_bad {a l b m : Int} (h : prefE a l ≠ 0 ∨ prefE b m ≠ 0) : inB a l b m = false := by
  unfold inB hasB
  rcases h with h | h <;> simp [h]
theorem has_bad {a l x : Int} (h : prefE a l ≠ 0) : hasB a l x = false := by
  unfold hasB; simp [h]
end Go.Proofs.YtkjjalaelehjeabDoor
