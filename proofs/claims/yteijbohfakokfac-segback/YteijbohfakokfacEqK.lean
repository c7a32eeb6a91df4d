/- '==' and '!=' of a key and itself (api.Key), as the walk meets them. -/
import Derived.Test.YteijbohfakokfacSegAt
namespace Go.Proofs.Yteijbohfakokfac
open Go.RowKit
set_option linter.unusedVariables false

theorem Try.keyHeld : Try.prog.stoodInHeld 26 = false := by kernel_rfl
theorem Try.keyFields : Try.prog.underlying 26 = some (.struct (Try.prog.fieldsOf 26)) := by kernel_rfl
theorem Try.keyEqual (a b c d e : Int) (w : World) : (Op.equalIn 10000 26 (.agg #[.int .i64 a, .int .i64 b, .int .i64 c, .int .i64 d, .int .i64 e]) (.agg #[.int .i64 a, .int .i64 b, .int .i64 c, .int .i64 d, .int .i64 e])).run Try.prog w = .ok true w := by
  have h := run_equalIn_agg (P := Try.prog) w 9999 26 #[.int .i64 a, .int .i64 b, .int .i64 c, .int .i64 d, .int .i64 e] #[.int .i64 a, .int .i64 b, .int .i64 c, .int .i64 d, .int .i64 e] Try.keyFields Try.keyHeld
  refine h.trans ?_
  simp [Program.fieldsOf, Try.underlying26, Op.eqFields, part, isAgg, underlying, Try.underlying3, Result.andThen, run_equalIn_int (P := Try.prog) _ 9998 3 .i64 .i64 _ _ Try.underlying3]
theorem Try.keyNeq (a b c d e : Int) (w : World) : (binOp .neq 26 (.agg #[.int .i64 a, .int .i64 b, .int .i64 c, .int .i64 d, .int .i64 e]) (.agg #[.int .i64 a, .int .i64 b, .int .i64 c, .int .i64 d, .int .i64 e])).run Try.prog w = .ok (.bool false) w := by
  rw [run_neq_struct, Try.keyEqual]; rfl
theorem Try.keyEql (a b c d e : Int) (w : World) : (binOp .eql 26 (.agg #[.int .i64 a, .int .i64 b, .int .i64 c, .int .i64 d, .int .i64 e]) (.agg #[.int .i64 a, .int .i64 b, .int .i64 c, .int .i64 d, .int .i64 e])).run Try.prog w = .ok (.bool true) w := by
  rw [run_eql_struct, Try.keyEqual]; rfl
end Go.Proofs.Yteijbohfakokfac
