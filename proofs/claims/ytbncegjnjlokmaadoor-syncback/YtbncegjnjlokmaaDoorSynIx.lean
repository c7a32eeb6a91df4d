/- An element of an array of two truths. -/
import Derived.Test.YtbncegjnjlokmaaDoorSynAt
namespace Go.Proofs.YtbncegjnjlokmaaDoor
open Go.RowKit
set_option linter.unusedVariables false
theorem Tryd.idxB0 (x y : Bool) (w : World) : (Instr.index 25 (.agg #[.bool x, .bool y]) (.int .i64 0)).run Tryd.prog w = .ok (.bool x) w := by
  kernel_rfl
theorem Tryd.idxB1 (x y : Bool) (w : World) : (Instr.index 25 (.agg #[.bool x, .bool y]) (.int .i64 1)).run Tryd.prog w = .ok (.bool y) w := by
  kernel_rfl
end Go.Proofs.YtbncegjnjlokmaaDoor
