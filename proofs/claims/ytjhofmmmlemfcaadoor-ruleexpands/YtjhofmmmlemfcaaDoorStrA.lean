/- A variable that holds a text: 'StrAt'. -/
import Derived.Test.YtjhofmmmlemfcaaDoorTxt
import Derived.Test.YtjhofmmmlemfcaaDoorTurnT
import Derived.Laws.Rows
namespace Go.Proofs.YtjhofmmmlemfcaaDoor
open Go.RowKit
set_option linter.unusedVariables false
set_option maxRecDepth 10000

def StrAt (w : World) (g : Nat) (l : List UInt8) : Prop := w.heap[g]? = some (.cells #[.string (mkB l)] 9 (0, 0))
theorem StrAt.lt {w : World} {g : Nat} {l : List UInt8} (h : StrAt w g l) : g < w.heap.size := (Array.getElem?_eq_some_iff.1 h).1
theorem StrAt.keep {w w' : World} {g : Nat} {l : List UInt8} (h : StrAt w g l) (hb : w'.heap[g]? = w.heap[g]?) : StrAt w' g l := hb.trans h
theorem StrAt.cell {w : World} {g : Nat} {l : List UInt8} (h : StrAt w g l) : w.cell? ⟨g, 0, none⟩ = some (.string (mkB l)) := by rw [cell_of_row w g _ _ _ _ h]; rfl
theorem StrAt.free {w : World} {g : Nat} {l : List UInt8} (h : StrAt w g l) : w.frozen? ⟨g, 0, none⟩ = false := frozen_of_row w g 0 _ _ h
theorem StrAt.store {w : World} {g : Nat} {l : List UInt8} (h : StrAt w g l) (m : List UInt8) : ∃ w', w.setCell ⟨g, 0, none⟩ (.string (mkB m)) = w' ∧ StrAt w' g m ∧ Only g w w' :=
  ⟨_, rfl, heap_setCell_same _ g 0 _ _ (.string (mkB m)) h, (Only.refl _ _).setCell _ _⟩
theorem mk_ext (l : List UInt8) : (⟨l.toArray⟩ : ByteArray) = mkB l := rfl
end Go.Proofs.YtjhofmmmlemfcaaDoor
