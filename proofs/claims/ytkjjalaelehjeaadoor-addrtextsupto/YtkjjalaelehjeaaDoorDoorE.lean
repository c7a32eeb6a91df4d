/- What the rows of this seat list of the library's table of powers of ten and of the package variable errors.errorType gives the walks both, and a world that meets the list. -/
import Derived.Test.YtkjjalaelehjeaaDoorOpen
import Derived.Test.YtkjjalaelehjeaaDoorAddrPrint
import Derived.Test.YtkjjalaelehjeaaDoorAs
import Derived.Lay
import Derived.LaidSub
import Derived.LaidHandle
import Derived.Lib.LaidTab
namespace Go.Proofs.YtkjjalaelehjeaaDoor
open Go.ChangeShapes Go.WideShapes Go.ChangeAt Go.RowKit
set_option linter.unusedVariables false

def tabsLaid : List (String × DataW Unit) := [("math/bits.deBruijn32tab", Rows.laid_math_bits_deBruijn32tab), ("math/bits.deBruijn64tab", Rows.laid_math_bits_deBruijn64tab), ("internal/strconv.uint64pow10", Rows.laid_internal_strconv_uint64pow10)]
def doorLaid : List (String × DataW Unit) := [("math/bits.deBruijn32tab", Rows.laid_math_bits_deBruijn32tab), ("math/bits.deBruijn64tab", Rows.laid_math_bits_deBruijn64tab), ("internal/strconv.uint64pow10", Rows.laid_internal_strconv_uint64pow10), ("errors.errorType", Rows.laid_errors_errorType)]
theorem doorVar : Tryd.prog.globalNamed "errors.errorType" = some 0 := by kernel_rfl
theorem doorRtype : (Tryd.prog.cutTypes.find? (·.1 == "internal/reflectlite.rtype")).map (·.2) = some 106 := by kernel_rfl
theorem doorOne : ((List.range 179).filter fun t => Tryd.prog.rowNamed t [101, 114, 114, 111, 114]) = [28] := by kernel_rfl
theorem doorSize : Tryd.prog.types.size = 179 := by kernel_rfl

theorem parts_of_laid {W : World} (h : laidMetH Tryd.prog doorLaid W) : laidMet Tryd.prog tabsLaid W ∧ handlesMet Tryd.prog [("errors.errorType", Rows.laid_errors_errorType)] W := h
theorem tab_of_laid {W : World} (h : laidMetH Tryd.prog doorLaid W) : Tab W := by
  have h2 := (parts_of_laid h).1.filter (fun x => x.1 == "internal/strconv.uint64pow10")
  have e : tabsLaid.filter (fun x => x.1 == "internal/strconv.uint64pow10") = [("internal/strconv.uint64pow10", Lib.tabData .u64 Lib.pow10Tab)] := by kernel_rfl
  rw [e] at h2
  exact Lib.tabIs_of_head (g := 2) (t := 138) (e := 120) (n := 20) (by kernel_rfl) (by kernel_rfl) Tryd.underlying138 Tryd.underlying120 (by kernel_rfl) (by kernel_rfl) h2
theorem errLaid_of_laid {W : World} (h : laidMetH Tryd.prog doorLaid W) : ErrLaid W := by
  obtain ⟨name, u, ty, e1, e2, e3, e4, e5⟩ := (parts_of_laid h).2 _ (List.mem_singleton.2 rfl)
  have en : name = [101, 114, 114, 111, 114] := (Option.some.inj e1).symm
  subst en
  obtain rfl := Option.some.inj (doorRtype.symm.trans e2)
  have hm : ty ∈ (List.range 179).filter fun t => Tryd.prog.rowNamed t [101, 114, 114, 111, 114] := List.mem_filter.2 ⟨List.mem_range.2 (by rw [← doorSize]; exact e3), e4⟩
  rw [doorOne] at hm
  obtain rfl := List.mem_singleton.1 hm
  have hh : typeHandle Tryd.prog 28 = .pointer (some ⟨5, 28, none⟩) := by kernel_rfl
  rw [hh] at e5
  unfold ErrLaid
  simpa using World.var?_cell doorVar e5 0

theorem doorWorld_met (os : Os) (args : Array Value) : laidMetH Tryd.prog doorLaid ((({ World.holding Tryd.prog os ⟨#[], #[], []⟩ with heap := (World.holding Tryd.prog os ⟨#[], #[], []⟩).heap.modify 0 (fun | .cells _ t frozen => .cells #[.iface 106 (.agg #[.pointer (some ⟨5, 28, none⟩)])] t frozen | o => o) } : World).layVars Tryd.prog tabsLaid).forCall (fun _ _ => 0) ⟨#[], args, []⟩).memory := by
  refine laidMetH_of_parts ?_ (by kernel_rfl)
  have e : (doorLaid.filter fun x => x.2.handleName?.isNone) = tabsLaid := by kernel_rfl
  rw [e]
  have e1 : (tabsLaid.filter fun x => (tabsLaid.map (·.1)).contains x.1) = tabsLaid := by kernel_rfl
  have e2 : (tabsLaid.filter fun x => !(tabsLaid.map (·.1)).contains x.1) = [] := by kernel_rfl
  have h : laidMet Tryd.prog tabsLaid (({ World.holding Tryd.prog os ⟨#[], #[], []⟩ with heap := (World.holding Tryd.prog os ⟨#[], #[], []⟩).heap.modify 0 (fun | .cells _ t frozen => .cells #[.iface 106 (.agg #[.pointer (some ⟨5, 28, none⟩)])] t frozen | o => o) } : World).layVars Tryd.prog tabsLaid) := laidMet_layVars (w0 := ({ World.holding Tryd.prog os ⟨#[], #[], []⟩ with heap := (World.holding Tryd.prog os ⟨#[], #[], []⟩).heap.modify 0 (fun | .cells _ t frozen => .cells #[.iface 106 (.agg #[.pointer (some ⟨5, 28, none⟩)])] t frozen | o => o) } : World)) (tabsLaid.map (·.1)) [] (by rw [e1]) (by rw [e1]; kernel_rfl) (by rw [e1]; kernel_rfl) (by rw [e2]; exact LaidIn.none)
  exact h.of_heap (by simp [World.memory, World.forCall, Input.heap])
end Go.Proofs.YtkjjalaelehjeaaDoor
