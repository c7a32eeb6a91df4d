/- What the rows of this seat list of the library's table of powers of ten gives the walks the table, and a world that meets the list. -/
import Derived.Test.YtkjjalaelehjeabDoorOpen
import Derived.Test.YtkjjalaelehjeabDoorAddrPrint
import Derived.Lay
import Derived.LaidSub
import Derived.Lib.LaidTab
namespace Go.Proofs.YtkjjalaelehjeabDoor
open Go.ChangeShapes Go.WideShapes Go.ChangeAt Go.RowKit
set_option linter.unusedVariables false

def doorLaid : List (String × DataW Unit) := [("math/bits.deBruijn32tab", Rows.laid_math_bits_deBruijn32tab), ("math/bits.deBruijn64tab", Rows.laid_math_bits_deBruijn64tab), ("internal/strconv.uint64pow10", Rows.laid_internal_strconv_uint64pow10)]
theorem tab_of_laid {W : World} (h : laidMetH Tryd.prog doorLaid W) : Tab W := by
  have h1 : laidMet Tryd.prog doorLaid W := h
  have h2 := h1.filter (fun x => x.1 == "internal/strconv.uint64pow10")
  have e : doorLaid.filter (fun x => x.1 == "internal/strconv.uint64pow10") = [("internal/strconv.uint64pow10", Lib.tabData .u64 Lib.pow10Tab)] := by kernel_rfl
  rw [e] at h2
  exact Lib.tabIs_of_head (g := 1) (t := 104) (e := 85) (n := 20) (by kernel_rfl) (by kernel_rfl) Tryd.underlying104 Tryd.underlying85 (by kernel_rfl) (by kernel_rfl) h2
theorem tabWorld_met (os : Os) (args : Array Value) : laidMetH Tryd.prog doorLaid ((World.laidAll Tryd.prog os doorLaid).forCall (fun _ _ => 0) ⟨#[], args, []⟩).memory := by
  refine laidMetH_of_parts ?_ (by kernel_rfl)
  have e : (doorLaid.filter fun x => x.2.handleName?.isNone) = doorLaid := by kernel_rfl
  rw [e]
  exact laidMet_laidAll _ (by kernel_rfl) (by kernel_rfl)
end Go.Proofs.YtkjjalaelehjeabDoor
