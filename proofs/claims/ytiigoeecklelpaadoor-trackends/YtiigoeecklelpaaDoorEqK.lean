/- '==' and '!=' of a key and itself (api.Key), as the walk meets them. -/
import Derived.Test.YtiigoeecklelpaaDoorSegAt
namespace Go.Proofs.YtiigoeecklelpaaDoor
open Go.RowKit
set_option linter.unusedVariables false

theorem Tryd.keyHeld : Tryd.prog.stoodInHeld 23 = false := by kernel_rfl
theorem Tryd.keyFields : Tryd.prog.underlying 23 = some (.struct (Tryd.prog.fieldsOf 23)) := by kernel_rfl
theorem Tryd.keyEqual (a b c d e : Int) (w : World) : (Op.equalIn 10000 23 (.agg #[.int .i64 a, .int .i64 b, .int .i64 c, .int .i64 d, .int .i64 e]) (.agg #[.int .i64 a, .int .i64 b, .int .i64 c, .int .i64 d, .int .i64 e])).run Tryd.prog w = .ok true w := by
  have h := run_equalIn_agg (P := Tryd.prog) w 9999 23 #[.int .i64 a, .int .i64 b, .int .i64 c, .int .i64 d, .int .i64 e] #[.int .i64 a, .int .i64 b, .int .i64 c, .int .i64 d, .int .i64 e] Tryd.keyFields Tryd.keyHeld
  refine h.trans ?_
  simp [Program.fieldsOf, Tryd.underlying23, Op.eqFields, part, isAgg, underlying, Tryd.underlying3, Result.andThen, run_equalIn_int (P := Tryd.prog) _ 9998 3 .i64 .i64 _ _ Tryd.underlying3]
theorem Tryd.keyNeq (a b c d e : Int) (w : World) : (binOp .neq 23 (.agg #[.int .i64 a, .int .i64 b, .int .i64 c, .int .i64 d, .int .i64 e]) (.agg #[.int .i64 a, .int .i64 b, .int .i64 c, .int .i64 d, .int .i64 e])).run Tryd.prog w = .ok (.bool false) w := by
  rw [run_neq_struct, Tryd.keyEqual]; rfl
theorem Tryd.keyEql (a b c d e : Int) (w : World) : (binOp .eql 23 (.agg #[.int .i64 a, .int .i64 b, .int .i64 c, .int .i64 d, .int .i64 e]) (.agg #[.int .i64 a, .int .i64 b, .int .i64 c, .int .i64 d, .int .i64 e])).run Tryd.prog w = .ok (.bool true) w := by
  rw [run_eql_struct, Tryd.keyEqual]; rfl
end Go.Proofs.YtiigoeecklelpaaDoor
