/- '==' and '!=' of two pairs of numbers (api.Prefix), as the walk meets them. -/
import Derived.Test.YtdpnmhfhjcebbaaDoorNum
namespace Go.Proofs.YtdpnmhfhjcebbaaDoor
open Go.RowKit
set_option linter.unusedVariables false

theorem Tryd.prefGuard : Tryd.prog.eqGuardType Tryd.prog.depth 25 = false := by kernel_rfl
theorem Tryd.prefHeld : Tryd.prog.stoodInHeld 25 = false := by kernel_rfl
theorem Tryd.prefFields : Tryd.prog.underlying 25 = some (.struct (Tryd.prog.fieldsOf 25)) := by kernel_rfl
theorem Tryd.prefEqual (a b c d : Int) (w : World) : (Op.equalIn 10000 25 (.agg #[.int .i64 a, .int .i64 b]) (.agg #[.int .i64 c, .int .i64 d])).run Tryd.prog w = .ok (a == c && b == d) w := by
  have h := run_equalIn_agg (P := Tryd.prog) w 9999 25 #[.int .i64 a, .int .i64 b] #[.int .i64 c, .int .i64 d] Tryd.prefFields Tryd.prefHeld
  refine h.trans ?_
  simp [Program.fieldsOf, Tryd.underlying25, Op.eqFields, part, isAgg, underlying, Tryd.underlying3, Result.andThen, run_equalIn_int (P := Tryd.prog) _ 9998 3 .i64 .i64 _ _ Tryd.underlying3]
  by_cases h1 : a = c <;> by_cases h2 : b = d <;> simp [h1, h2]
theorem Tryd.prefNeq (a b c d : Int) (w : World) : (binOp .neq 25 (.agg #[.int .i64 a, .int .i64 b]) (.agg #[.int .i64 c, .int .i64 d])).run Tryd.prog w = .ok (.bool (!(a == c && b == d))) w := by
  rw [run_neq_struct, Tryd.prefEqual]; rfl
theorem Tryd.prefEql (a b c d : Int) (w : World) : (binOp .eql 25 (.agg #[.int .i64 a, .int .i64 b]) (.agg #[.int .i64 c, .int .i64 d])).run Tryd.prog w = .ok (.bool (a == c && b == d)) w := by
  rw [run_eql_struct, Tryd.prefEqual]; rfl
end Go.Proofs.YtdpnmhfhjcebbaaDoor
