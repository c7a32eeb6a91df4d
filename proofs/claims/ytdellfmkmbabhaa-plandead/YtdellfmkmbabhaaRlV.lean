/- A rule as a value ('rlV'), and in a block of its own ('RlAt'). -/
import Derived.Test.YtdellfmkmbabhaaRuleMath
import Derived.Laws.Rows
namespace Go.Proofs.Ytdellfmkmbabhaa
open Go.RowKit
set_option linter.unusedVariables false

def RlAt (w : World) (b : Nat) (r : Rl) (fv tv : Value) : Prop :=
  w.heap[b]? = some (.cells #[.bool r.pass, .bool r.quick, .bool r.keep, .int .i64 r.way, .int .i64 r.kind, .int .i64 r.sa, .int .i64 r.sl, .int .i64 r.da, .int .i64 r.dl, fv, tv] 34 (0, 0))
def rlV (r : Rl) (fv tv : Value) : Value := .agg #[.bool r.pass, .bool r.quick, .bool r.keep, .int .i64 r.way, .int .i64 r.kind, .int .i64 r.sa, .int .i64 r.sl, .int .i64 r.da, .int .i64 r.dl, fv, tv]
section
variable {w w' : World} {b : Nat} {r : Rl} {fv tv : Value}
theorem RlAt.lt (h : RlAt w b r fv tv) : b < w.heap.size := (Array.getElem?_eq_some_iff.1 h).1
theorem RlAt.keep (h : RlAt w b r fv tv) (hb : w'.heap[b]? = w.heap[b]?) : RlAt w' b r fv tv := hb.trans h
theorem RlAt.below {B : Nat} (h : RlAt w b r fv tv) (hB : b < B) (hb : Below B w w') : RlAt w' b r fv tv := h.keep (hb.block b hB)
theorem RlAt.new (w : World) (r : Rl) (fv tv : Value) : RlAt (w.alloc (.cells #[.bool r.pass, .bool r.quick, .bool r.keep, .int .i64 r.way, .int .i64 r.kind, .int .i64 r.sa, .int .i64 r.sl, .int .i64 r.da, .int .i64 r.dl, fv, tv] 34)) w.heap.size r fv tv := heap_alloc_new w _
theorem RlAt.cells (h : RlAt w b r fv tv) :
    w.cell? ⟨b, 0, none⟩ = some (.bool r.pass) ∧ w.cell? ⟨b, 1, none⟩ = some (.bool r.quick) ∧ w.cell? ⟨b, 2, none⟩ = some (.bool r.keep) ∧ w.cell? ⟨b, 3, none⟩ = some (.int .i64 r.way) ∧ w.cell? ⟨b, 4, none⟩ = some (.int .i64 r.kind) ∧
    w.cell? ⟨b, 5, none⟩ = some (.int .i64 r.sa) ∧ w.cell? ⟨b, 6, none⟩ = some (.int .i64 r.sl) ∧ w.cell? ⟨b, 7, none⟩ = some (.int .i64 r.da) ∧ w.cell? ⟨b, 8, none⟩ = some (.int .i64 r.dl) ∧ w.cell? ⟨b, 9, none⟩ = some fv ∧ w.cell? ⟨b, 10, none⟩ = some tv := by
  refine ⟨?_, ?_, ?_, ?_, ?_, ?_, ?_, ?_, ?_, ?_, ?_⟩ <;> (rw [cell_of_row w b _ _ _ _ h]; rfl)
end
end Go.Proofs.Ytdellfmkmbabhaa
