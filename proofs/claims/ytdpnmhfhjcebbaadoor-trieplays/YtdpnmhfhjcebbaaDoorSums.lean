/- What the functions of package sum and of the reference that they are held against return, each for every input that the callers hand it; bytes lie in memory as the callers lay them. -/
import Derived.Test.YtdpnmhfhjcebbaaDoorProg
import Derived.Test.YtdpnmhfhjcebbaaDoorMath
import Derived.WalkKit
import Derived.Deep.QuietTactic
import Derived.BigQuiet
namespace Go.Proofs.YtdpnmhfhjcebbaaDoor
open Go.RowKit
set_option linter.unusedVariables false


/-- A row of bytes in memory, written out. -/
def Row (w : World) (b off : Nat) (zs : List Int) : Prop :=
  (∀ i, i < zs.length → w.cell? ⟨b, off + i, none⟩ = some (.int .u8 (zs.getD i 0))) ∧ ∀ x ∈ zs, 0 ≤ x ∧ x ≤ 255


/-- A value that is a slice of these bytes. -/
def Bytes (w : World) (v : Value) (zs : List Int) : Prop :=
  (zs = [] ∧ ∃ a cap, v = .slice a 0 cap ∧ (a = none → cap = 0)) ∨
  ∃ b off len cap, v = .slice (some ⟨b, off, none⟩) len cap ∧ len ≤ cap ∧ cap ≤ maxLen ∧ len < 2 ^ 62 ∧ zs.length = len ∧ Row w b off zs

theorem Row.drewN {w : World} {b off : Nat} {zs : List Int} (h : Row w b off zs) (n : Nat) : Row (w.drewN n) b off zs := by
  refine ⟨fun i hi => ?_, h.2⟩
  have := h.1 i hi
  simpa using this
theorem Bytes.drewN {w : World} {v : Value} {zs : List Int} (h : Bytes w v zs) (n : Nat) : Bytes (w.drewN n) v zs := by
  rcases h with h | ⟨b, off, len, cap, h1, h2, h3, h4, h5, h6⟩
  · exact .inl h
  · exact .inr ⟨b, off, len, cap, h1, h2, h3, h4, h5, h6.drewN n⟩
theorem Bytes.byte {w : World} {v : Value} {zs : List Int} (h : Bytes w v zs) : ∀ x ∈ zs, 0 ≤ x ∧ x ≤ 255 := by
  rcases h with ⟨rfl, _⟩ | ⟨_, _, _, _, _, _, _, _, _, h⟩
  · intro x hx; cases hx
  · exact h.2
theorem Bytes.tot {w : World} {v : Value} {zs : List Int} (h : Bytes w v zs) : 0 ≤ tot 0 zs ∧ Go.Proofs.YtdpnmhfhjcebbaaDoor.tot 0 zs ≤ 65535 :=
  tot_range zs 0 h.byte (by omega) (by omega)

end Go.Proofs.YtdpnmhfhjcebbaaDoor
