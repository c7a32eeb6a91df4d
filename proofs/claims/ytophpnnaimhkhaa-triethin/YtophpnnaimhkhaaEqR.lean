/- '==' and '!=' of a pair (api.Pair) and itself, and of two prefixes, as the walk meets them. -/
import Derived.Test.YtophpnnaimhkhaaEqP
import Derived.Test.YtophpnnaimhkhaaTrieMath
namespace Go.Proofs.Ytophpnnaimhkhaa
open Go.RowKit
set_option linter.unusedVariables false

theorem Try.prHeld : Try.prog.stoodInHeld 32 = false := by kernel_rfl
theorem Try.prFields : Try.prog.underlying 32 = some (.struct (Try.prog.fieldsOf 32)) := by kernel_rfl
theorem Try.prGuard : Try.prog.eqGuardType Try.prog.depth 32 = false := by kernel_rfl
theorem Try.infoPf : (Try.prog.info? 30).map (fun i => (i.zero, i.size, i.bytes)) = some (some (.agg #[.int .i64 0, .int .i64 0]), 2, 16) := by kernel_rfl
theorem Try.prefEqual8 (a b : Int) (w : World) : (Op.equalIn 9999 30 (.agg #[.int .i64 a, .int .i64 b]) (.agg #[.int .i64 a, .int .i64 b])).run Try.prog w = .ok true w := by
  have h := run_equalIn_agg (P := Try.prog) w 9998 30 #[.int .i64 a, .int .i64 b] #[.int .i64 a, .int .i64 b] Try.prefFields Try.prefHeld
  refine h.trans ?_
  simp [Program.fieldsOf, Try.underlying30, Op.eqFields, part, isAgg, underlying, Try.underlying3, Result.andThen, run_equalIn_int (P := Try.prog) _ 9997 3 .i64 .i64 _ _ Try.underlying3]
theorem Try.prEqual (a b c : Int) (w : World) : (Op.equalIn 10000 32 (.agg #[.int .i64 a, .int .i64 b, .int .i64 c]) (.agg #[.int .i64 a, .int .i64 b, .int .i64 c])).run Try.prog w = .ok true w := by
  have h := run_equalIn_agg (P := Try.prog) w 9999 32 #[.int .i64 a, .int .i64 b, .int .i64 c] #[.int .i64 a, .int .i64 b, .int .i64 c] Try.prFields Try.prHeld
  obtain ⟨i0, hi, hz0, hz1, hz2⟩ := info_parts Try.infoPf
  refine h.trans ?_
  simp [Program.fieldsOf, Try.underlying32, Op.eqFields, part, isAgg, underlying, sizeOf, typeInfo, hi, hz1, Try.underlying30, Try.underlying3, Result.andThen, Try.prefEqual8, run_equalIn_int (P := Try.prog) _ 9998 3 .i64 .i64 _ _ Try.underlying3]
theorem Try.prNeq (a b c : Int) (w : World) : (binOp .neq 32 (.agg #[.int .i64 a, .int .i64 b, .int .i64 c]) (.agg #[.int .i64 a, .int .i64 b, .int .i64 c])).run Try.prog w = .ok (.bool false) w := by
  rw [run_neq_struct, Try.prEqual]; rfl
theorem Try.prEql (a b c : Int) (w : World) : (binOp .eql 32 (.agg #[.int .i64 a, .int .i64 b, .int .i64 c]) (.agg #[.int .i64 a, .int .i64 b, .int .i64 c])).run Try.prog w = .ok (.bool true) w := by
  rw [run_eql_struct, Try.prEqual]; rfl
end Go.Proofs.Ytophpnnaimhkhaa
