/- '==' and '!=' of a pair (api.Pair) and itself, and of two prefixes, as the walk meets them. -/
import Derived.Test.YtdpnmhfhjcebbaaDoorEqP
import Derived.Test.YtdpnmhfhjcebbaaDoorTrieMath
namespace Go.Proofs.YtdpnmhfhjcebbaaDoor
open Go.RowKit
set_option linter.unusedVariables false

theorem Tryd.prHeld : Tryd.prog.stoodInHeld 34 = false := by kernel_rfl
theorem Tryd.prFields : Tryd.prog.underlying 34 = some (.struct (Tryd.prog.fieldsOf 34)) := by kernel_rfl
theorem Tryd.prGuard : Tryd.prog.eqGuardType Tryd.prog.depth 34 = false := by kernel_rfl
theorem Tryd.infoPf : (Tryd.prog.info? 25).map (fun i => (i.zero, i.size, i.bytes)) = some (some (.agg #[.int .i64 0, .int .i64 0]), 2, 16) := by kernel_rfl
theorem Tryd.prefEqual8 (a b : Int) (w : World) : (Op.equalIn 9999 25 (.agg #[.int .i64 a, .int .i64 b]) (.agg #[.int .i64 a, .int .i64 b])).run Tryd.prog w = .ok true w := by
  have h := run_equalIn_agg (P := Tryd.prog) w 9998 25 #[.int .i64 a, .int .i64 b] #[.int .i64 a, .int .i64 b] Tryd.prefFields Tryd.prefHeld
  refine h.trans ?_
  simp [Program.fieldsOf, Tryd.underlying25, Op.eqFields, part, isAgg, underlying, Tryd.underlying3, Result.andThen, run_equalIn_int (P := Tryd.prog) _ 9997 3 .i64 .i64 _ _ Tryd.underlying3]
theorem Tryd.prEqual (a b c : Int) (w : World) : (Op.equalIn 10000 34 (.agg #[.int .i64 a, .int .i64 b, .int .i64 c]) (.agg #[.int .i64 a, .int .i64 b, .int .i64 c])).run Tryd.prog w = .ok true w := by
  have h := run_equalIn_agg (P := Tryd.prog) w 9999 34 #[.int .i64 a, .int .i64 b, .int .i64 c] #[.int .i64 a, .int .i64 b, .int .i64 c] Tryd.prFields Tryd.prHeld
  obtain ⟨i0, hi, hz0, hz1, hz2⟩ := info_parts Tryd.infoPf
  refine h.trans ?_
  simp [Program.fieldsOf, Tryd.underlying34, Op.eqFields, part, isAgg, underlying, sizeOf, typeInfo, hi, hz1, Tryd.underlying25, Tryd.underlying3, Result.andThen, Tryd.prefEqual8, run_equalIn_int (P := Tryd.prog) _ 9998 3 .i64 .i64 _ _ Tryd.underlying3]
theorem Tryd.prNeq (a b c : Int) (w : World) : (binOp .neq 34 (.agg #[.int .i64 a, .int .i64 b, .int .i64 c]) (.agg #[.int .i64 a, .int .i64 b, .int .i64 c])).run Tryd.prog w = .ok (.bool false) w := by
  rw [run_neq_struct, Tryd.prEqual]; rfl
theorem Tryd.prEql (a b c : Int) (w : World) : (binOp .eql 34 (.agg #[.int .i64 a, .int .i64 b, .int .i64 c]) (.agg #[.int .i64 a, .int .i64 b, .int .i64 c])).run Tryd.prog w = .ok (.bool true) w := by
  rw [run_eql_struct, Tryd.prEqual]; rfl
end Go.Proofs.YtdpnmhfhjcebbaaDoor
