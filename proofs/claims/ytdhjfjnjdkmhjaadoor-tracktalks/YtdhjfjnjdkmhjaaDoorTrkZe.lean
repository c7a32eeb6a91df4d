/- A flow that is nothing as an answer, for Begin and Step of package track. -/
import Derived.Test.YtdhjfjnjdkmhjaaDoorTrkSay
namespace Go.Proofs.YtdhjfjnjdkmhjaaDoor
open Go.RowKit
set_option linter.unusedVariables false

theorem zero_cells {w : World} {b : Nat} (h : FlAt w b zeroF) :
    w.cell? ⟨b, 0, none⟩ = some (.int .i64 0) ∧ w.cell? ⟨b, 1, none⟩ = some (.int .i64 0) ∧ w.cell? ⟨b, 2, none⟩ = some (.int .i64 0) ∧ w.cell? ⟨b, 3, none⟩ = some (.int .i64 0) ∧ w.cell? ⟨b, 4, none⟩ = some (.int .i64 0) ∧ w.cell? ⟨b, 5, none⟩ = some (.int .i64 0) ∧ w.cell? ⟨b, 6, none⟩ = some (.int .i64 0) ∧ w.cell? ⟨b, 7, none⟩ = some (.int .i64 0) ∧ w.cell? ⟨b, 8, none⟩ = some (.int .i64 0) ∧ w.cell? ⟨b, 9, none⟩ = some (.int .i64 0) ∧ w.cell? ⟨b, 10, none⟩ = some (.int .i64 0) ∧ w.cell? ⟨b, 11, none⟩ = some (.int .i64 0) ∧ w.cell? ⟨b, 12, none⟩ = some (.bool false) ∧ w.cell? ⟨b, 13, none⟩ = some (.bool false) ∧ w.cell? ⟨b, 14, none⟩ = some (.int .i64 0) := h.cells
theorem Fsz.wipe {w W : World} {f g : Fl} {s : Sg} {bv : Value} (h : Fsz w f s bv g W) :
    ∃ W', (((((((((((((((W.setCell ⟨w.heap.size + 2, 0, none⟩ (.int .i64 0)).setCell ⟨w.heap.size + 2, 1, none⟩ (.int .i64 0)).setCell ⟨w.heap.size + 2, 2, none⟩ (.int .i64 0)).setCell ⟨w.heap.size + 2, 3, none⟩ (.int .i64 0)).setCell ⟨w.heap.size + 2, 4, none⟩ (.int .i64 0)).setCell ⟨w.heap.size + 2, 5, none⟩ (.int .i64 0)).setCell ⟨w.heap.size + 2, 6, none⟩ (.int .i64 0)).setCell ⟨w.heap.size + 2, 7, none⟩ (.int .i64 0)).setCell ⟨w.heap.size + 2, 8, none⟩ (.int .i64 0)).setCell ⟨w.heap.size + 2, 9, none⟩ (.int .i64 0)).setCell ⟨w.heap.size + 2, 10, none⟩ (.int .i64 0)).setCell ⟨w.heap.size + 2, 11, none⟩ (.int .i64 0)).setCell ⟨w.heap.size + 2, 12, none⟩ (.bool false)).setCell ⟨w.heap.size + 2, 13, none⟩ (.bool false)).setCell ⟨w.heap.size + 2, 14, none⟩ (.int .i64 0)) = W' ∧ FlAt W' (w.heap.size + 2) zeroF ∧ Below w.heap.size w W' := h.fin zeroF
theorem errV_val (e : Int) : errV e = .nilIface ∨ ∃ z, errV e = .iface 59 (.int .i64 z) := by
  unfold errV
  split
  · exact .inl rfl
  · exact .inr ⟨_, rfl⟩
end Go.Proofs.YtdhjfjnjdkmhjaaDoor
