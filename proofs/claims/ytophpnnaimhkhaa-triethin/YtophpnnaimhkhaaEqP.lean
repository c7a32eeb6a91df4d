/- '==' and '!=' of two pairs of numbers (api.Prefix), as the walk meets them. -/
import Derived.Test.YtophpnnaimhkhaaNum
namespace Go.Proofs.Ytophpnnaimhkhaa
open Go.RowKit
set_option linter.unusedVariables false

theorem Try.prefGuard : Try.prog.eqGuardType Try.prog.depth 30 = false := by kernel_rfl
theorem Try.prefHeld : Try.prog.stoodInHeld 30 = false := by kernel_rfl
theorem Try.prefFields : Try.prog.underlying 30 = some (.struct (Try.prog.fieldsOf 30)) := by kernel_rfl
theorem Try.prefEqual (a b c d : Int) (w : World) : (Op.equalIn 10000 30 (.agg #[.int .i64 a, .int .i64 b]) (.agg #[.int .i64 c, .int .i64 d])).run Try.prog w = .ok (a == c && b == d) w := by
  have h := run_equalIn_agg (P := Try.prog) w 9999 30 #[.int .i64 a, .int .i64 b] #[.int .i64 c, .int .i64 d] Try.prefFields Try.prefHeld
  refine h.trans ?_
  simp [Program.fieldsOf, Try.underlying30, Op.eqFields, part, isAgg, underlying, Try.underlying3, Result.andThen, run_equalIn_int (P := Try.prog) _ 9998 3 .i64 .i64 _ _ Try.underlying3]
  by_cases h1 : a = c <;> by_cases h2 : b = d <;> simp [h1, h2]
theorem Try.prefNeq (a b c d : Int) (w : World) : (binOp .neq 30 (.agg #[.int .i64 a, .int .i64 b]) (.agg #[.int .i64 c, .int .i64 d])).run Try.prog w = .ok (.bool (!(a == c && b == d))) w := by
  rw [run_neq_struct, Try.prefEqual]; rfl
theorem Try.prefEql (a b c d : Int) (w : World) : (binOp .eql 30 (.agg #[.int .i64 a, .int .i64 b]) (.agg #[.int .i64 c, .int .i64 d])).run Try.prog w = .ok (.bool (a == c && b == d)) w := by
  rw [run_eql_struct, Try.prefEqual]; rfl
end Go.Proofs.Ytophpnnaimhkhaa
