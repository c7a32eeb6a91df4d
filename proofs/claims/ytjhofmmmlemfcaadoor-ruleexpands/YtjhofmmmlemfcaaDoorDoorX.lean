/- What the rows of this seat list (errors.errorType and two tables of Go's) gives the walks of its texts ('ErrLaid', 'MxL'), and a world that meets the list. -/
import Derived.Test.YtjhofmmmlemfcaaDoorOpen
import Derived.Test.YtjhofmmmlemfcaaDoorAs
import Derived.Test.YtjhofmmmlemfcaaDoorSplA
import Derived.Lay
import Derived.LaidSub
import Derived.LaidHandle
import Derived.Lib.LaidTab
import Derived.Shelf.Vars
namespace Go.Proofs.YtjhofmmmlemfcaaDoor
open Go.ChangeShapes Go.WideShapes Go.ChangeAt Go.RowKit
set_option linter.unusedVariables false

def tabsLaid : List (String × DataW Unit) := [("unicode/utf8.acceptRanges", Rows.laid_unicode_utf8_acceptRanges), ("unicode/utf8.first", Rows.laid_unicode_utf8_first)]
def doorLaid : List (String × DataW Unit) := [("unicode/utf8.acceptRanges", Rows.laid_unicode_utf8_acceptRanges), ("errors.errorType", Rows.laid_errors_errorType), ("unicode/utf8.first", Rows.laid_unicode_utf8_first)]
theorem doorVar : Tryd.prog.globalNamed "errors.errorType" = some 0 := by kernel_rfl
theorem doorRtype : (Tryd.prog.cutTypes.find? (·.1 == "internal/reflectlite.rtype")).map (·.2) = some 91 := by kernel_rfl
theorem doorOne : ((List.range 143).filter fun t => Tryd.prog.rowNamed t [101, 114, 114, 111, 114]) = [26] := by kernel_rfl
theorem doorSize : Tryd.prog.types.size = 143 := by kernel_rfl
theorem mxl_of_shaped {W : World} (hsh : W.ShapedOpen Tryd.prog) : MxL W :=
  cell_of_shapedOpen_int (g := 1) (t := 3) (zero := #[.int .i64 0]) hsh (of_decide_eq_true (by kernel_rfl)) (by kernel_rfl) rfl (by kernel_rfl) (by kernel_rfl) Tryd.underlying3
theorem parts_of_laid {W : World} (h : laidMetH Tryd.prog doorLaid W) : laidMet Tryd.prog tabsLaid W ∧ handlesMet Tryd.prog [("errors.errorType", Rows.laid_errors_errorType)] W := h
theorem errLaid_of_laid {W : World} (h : laidMetH Tryd.prog doorLaid W) : ErrLaid W := by
  obtain ⟨name, u, ty, e1, e2, e3, e4, e5⟩ := (parts_of_laid h).2 _ (List.mem_singleton.2 rfl)
  have en : name = [101, 114, 114, 111, 114] := (Option.some.inj e1).symm
  subst en
  obtain rfl := Option.some.inj (doorRtype.symm.trans e2)
  have hm : ty ∈ (List.range 143).filter fun t => Tryd.prog.rowNamed t [101, 114, 114, 111, 114] := List.mem_filter.2 ⟨List.mem_range.2 (by rw [← doorSize]; exact e3), e4⟩
  rw [doorOne] at hm
  obtain rfl := List.mem_singleton.1 hm
  have hh : typeHandle Tryd.prog 26 = .pointer (some ⟨4, 26, none⟩) := by kernel_rfl
  rw [hh] at e5
  unfold ErrLaid
  simpa using World.var?_cell doorVar e5 0

theorem doorWorld_met (os : Os) (args : Array Value) : laidMetH Tryd.prog doorLaid ((({ World.holding Tryd.prog os ⟨#[], #[], []⟩ with heap := (World.holding Tryd.prog os ⟨#[], #[], []⟩).heap.modify 0 (fun | .cells _ t frozen => .cells #[.iface 91 (.agg #[.pointer (some ⟨4, 26, none⟩)])] t frozen | o => o) } : World).layVars Tryd.prog tabsLaid).forCall (fun _ _ => 0) ⟨#[], args, []⟩).memory := by
  refine laidMetH_of_parts ?_ (by kernel_rfl)
  have e : (doorLaid.filter fun x => x.2.handleName?.isNone) = tabsLaid := by kernel_rfl
  rw [e]
  have e1 : (tabsLaid.filter fun x => (tabsLaid.map (·.1)).contains x.1) = tabsLaid := by kernel_rfl
  have e2 : (tabsLaid.filter fun x => !(tabsLaid.map (·.1)).contains x.1) = [] := by kernel_rfl
  have h : laidMet Tryd.prog tabsLaid (({ World.holding Tryd.prog os ⟨#[], #[], []⟩ with heap := (World.holding Tryd.prog os ⟨#[], #[], []⟩).heap.modify 0 (fun | .cells _ t frozen => .cells #[.iface 91 (.agg #[.pointer (some ⟨4, 26, none⟩)])] t frozen | o => o) } : World).layVars Tryd.prog tabsLaid) := laidMet_layVars (w0 := ({ World.holding Tryd.prog os ⟨#[], #[], []⟩ with heap := (World.holding Tryd.prog os ⟨#[], #[], []⟩).heap.modify 0 (fun | .cells _ t frozen => .cells #[.iface 91 (.agg #[.pointer (some ⟨4, 26, none⟩)])] t frozen | o => o) } : World)) (tabsLaid.map (·.1)) [] (by rw [e1]) (by rw [e1]; kernel_rfl) (by rw [e1]; kernel_rfl) (by rw [e2]; exact LaidIn.none)
  exact h.of_heap (by simp [World.memory, World.forCall, Input.heap])
end Go.Proofs.YtjhofmmmlemfcaaDoor
