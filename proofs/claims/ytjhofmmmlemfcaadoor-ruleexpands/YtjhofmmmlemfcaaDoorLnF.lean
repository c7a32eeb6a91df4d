/- strings.Lines hands back its closure; a block of one cell. -/
import Derived.Test.YtjhofmmmlemfcaaDoorProg
import Derived.WalkKit
import Derived.Laws.Rows
import Derived.Test.YtjhofmmmlemfcaaDoorTurnT
namespace Go.Proofs.YtjhofmmmlemfcaaDoor
open Go.RowKit
set_option linter.unusedVariables false
set_option maxRecDepth 10000

theorem cell1 {w : World} {g : Nat} {v : Value} {t : TypeId} (h : w.heap[g]? = some (.cells #[v] t (0, 0))) : w.cell? ⟨g, 0, none⟩ = some v ∧ w.frozen? ⟨g, 0, none⟩ = false := ⟨by rw [cell_of_row w g _ _ _ _ h]; rfl, frozen_of_row w g 0 _ _ h⟩
/-- strings.Lines hands back its closure. -/
theorem linesF_any (s : ByteArray) (w : World) : Calls Tryd.prog 11 #[.string s] w fun e w' => e = .returned (.func (.func 21) #[] #[.pointer (some ⟨w.heap.size, 0, none⟩)]) ∧ w' = w.alloc (.cells #[.string s] 9) := by
  go_enter Tryd.func11, Tryd.ntmps11
  go_wp2
  go_ret
  exact ⟨rfl, rfl⟩
end Go.Proofs.YtjhofmmmlemfcaaDoor
