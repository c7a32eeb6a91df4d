/- The lines that give no name ('outL'). -/
import Derived.Test.YtjhofmmmlemfcaaDoorRuleLin
namespace Go.Proofs.YtjhofmmmlemfcaaDoor
open Go.RowKit
set_option linter.unusedVariables false
set_option maxRecDepth 10000

def letP : List UInt8 := [108, 101, 116, 32]
def noLet (x : List UInt8) : Bool := !Lib.hasPrefix x letP
/-- The lines that give no name. -/
def outL (ls : List (List UInt8)) : List UInt8 := (ls.filter noLet).flatten
theorem outL_snoc (pre : List (List UInt8)) (x : List UInt8) : outL (pre ++ [x]) = if Lib.hasPrefix x letP = true then outL pre else outL pre ++ x := by
  unfold outL noLet
  rw [List.filter_append]
  rcases h : Lib.hasPrefix x letP with _ | _
  · simp [h]
  · simp [h]
theorem outL_len (ls : List (List UInt8)) : ∀ (pre : List (List UInt8)), pre <+: ls → (outL pre).length ≤ ls.flatten.length := by
  intro pre ⟨t, ht⟩
  have : ∀ (l : List (List UInt8)), (outL l).length ≤ l.flatten.length := fun l => by
    induction l with
    | nil => simp [outL]
    | cons a l ih =>
      unfold outL at ih ⊢
      rw [List.filter_cons]
      split
      · simp only [List.flatten_cons, List.length_append]; omega
      · simp only [List.flatten_cons, List.length_append]; omega
  have h := this pre
  rw [← ht, List.flatten_append, List.length_append]
  omega
theorem lnsF_flat : ∀ (k : Nat) (l : List UInt8), l.length ≤ k → (lnsF k l).flatten = l
  | 0, l, h => by
      have : l = [] := List.length_eq_zero_iff.1 (by omega)
      subst this; rfl
  | k + 1, l, h => by
      rw [lnsF]
      by_cases h0 : l = []
      · rw [if_pos h0, h0]; rfl
      rw [if_neg h0]
      have hp : 0 < l.length := List.length_pos_iff.2 h0
      by_cases hi : Lib.indexByte l 10 < 0
      · rw [if_pos hi]; simp
      · rw [if_neg hi, List.flatten_cons, lnsF_flat k _ (by rw [List.length_drop]; omega), List.take_append_drop]
theorem lnsL_flat (l : List UInt8) : (lnsL l).flatten = l := lnsF_flat _ _ (Nat.le_refl _)
end Go.Proofs.YtjhofmmmlemfcaaDoor
