/- Plain facts: the fewest prefixes from one address to another one, as a list ('spreadL'). -/
import Derived.Test.YtkjjalaelehjeabDoorNum
namespace Go.Proofs.YtkjjalaelehjeabDoor
open Go.RowKit
set_option linter.unusedVariables false

def fitsB (low high : Int) (n : Nat) : Bool := decide (low % pw (32 - (n : Int)) = 0 ∧ low + pw (32 - (n : Int)) - 1 ≤ high)
def findN (low high : Int) : Nat → Nat → Nat
  | 0, n => n
  | f + 1, n => if fitsB low high n = true then n else findN low high f (n + 1)
def bestN (low high : Int) : Nat := findN low high 32 0
theorem findN_le (low high : Int) : ∀ (f n : Nat), findN low high f n ≤ n + f
  | 0, n => by simp [findN]
  | f + 1, n => by
      unfold findN
      split
      · omega
      · have := findN_le low high f (n + 1); omega
theorem bestN_le (low high : Int) : bestN low high ≤ 32 := by have := findN_le low high 32 0; unfold bestN; omega
theorem pw_0 : pw 0 = 1 := by decide
theorem fits_32 {low high : Int} (h : low ≤ high) : fitsB low high 32 = true := by
  unfold fitsB
  have e : (32 : Int) - ((32 : Nat) : Int) = 0 := by omega
  rw [e, pw_0]
  simp; omega
def spreadF : Nat → Int → Int → List (Int × Int)
  | 0, _, _ => []
  | f + 1, low, high => if low ≤ high then (low, (bestN low high : Int)) :: spreadF f (low + pw (32 - (bestN low high : Int))) high else []
theorem spreadF_eq : ∀ (f g : Nat) (low high : Int), (high - low + 1).toNat ≤ f → (high - low + 1).toNat ≤ g → spreadF f low high = spreadF g low high
  | 0, 0, _, _, _, _ => rfl
  | 0, g + 1, low, high, h, _ => by rw [spreadF, spreadF, if_neg (by omega)]
  | f + 1, 0, low, high, _, h => by rw [spreadF, spreadF, if_neg (by omega)]
  | f + 1, g + 1, low, high, h1, h2 => by
      have hp := pw_pos (32 - (bestN low high : Int))
      rw [spreadF, spreadF]
      split
      · rw [spreadF_eq f g _ high (by omega) (by omega)]
      · rfl
def spreadL (low high : Int) : List (Int × Int) := spreadF (high - low + 1).toNat low high
theorem spreadL_no {low high : Int} (h : high < low) : spreadL low high = [] := by
  unfold spreadL
  have e : (high - low + 1).toNat = 0 := by omega
  rw [e, spreadF]
theorem spreadL_yes {low high : Int} (h : low ≤ high) : spreadL low high = (low, (bestN low high : Int)) :: spreadL (low + pw (32 - (bestN low high : Int))) high := by
  have hp := pw_pos (32 - (bestN low high : Int))
  unfold spreadL
  obtain ⟨f, hf⟩ : ∃ f, (high - low + 1).toNat = f + 1 := ⟨(high - low).toNat, by omega⟩
  rw [hf, spreadF, if_pos h, spreadF_eq f _ _ high (by omega) (Nat.le_refl _)]

end Go.Proofs.YtkjjalaelehjeabDoor
