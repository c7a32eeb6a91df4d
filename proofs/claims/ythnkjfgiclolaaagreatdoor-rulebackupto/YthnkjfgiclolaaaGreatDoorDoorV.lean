/- The library's variables and the words of package rule, as a row lists them that does not list errors.errorType: a world that meets the list. -/
import Derived.Test.YthnkjfgiclolaaaGreatDoorDoorW
namespace Go.Proofs.YthnkjfgiclolaaaGreatDoor
open Go.ChangeShapes Go.WideShapes Go.ChangeAt Go.RowKit
set_option linter.unusedVariables false

theorem txWorld_metV (os : Os) (args : Array Value) : laidMetH Tryz.prog tabsLaid ((World.laidAll Tryz.prog os tabsLaid).forCall (fun _ _ => 0) ⟨#[], args, []⟩).memory := by
  refine laidMetH_of_parts ?_ (by kernel_rfl)
  have e : (tabsLaid.filter fun x => x.2.handleName?.isNone) = tabsLaid := by kernel_rfl
  rw [e]
  exact laidMet_laidAll _ (by kernel_rfl) (by kernel_rfl)
end Go.Proofs.YthnkjfgiclolaaaGreatDoor
