/- '==' and '!=' of two spans ([2]int), as the walk meets them. -/
import Derived.Test.YtfhchbpgpaljhaaDoorSpnAt
import Derived.ChangeKeysEq
namespace Go.Proofs.YtfhchbpgpaljhaaDoor
open Go.RowKit
set_option linter.unusedVariables false

theorem Tryd.spGuard : Tryd.prog.eqGuardType Tryd.prog.depth 62 = false := by kernel_rfl
theorem Tryd.infoIntE : (Tryd.prog.info? 3).map (fun i => (i.zero, i.size, i.bytes)) = some (some (.int .i64 0), 1, 8) := by kernel_rfl
theorem Tryd.spEqual (a b c d : Int) (w : World) : (Op.equalIn 10000 62 (.agg #[.int .i64 a, .int .i64 b]) (.agg #[.int .i64 c, .int .i64 d])).run Tryd.prog w = .ok (a == c && b == d) w := by
  obtain ⟨i0, hi, hz0, hz1, hz2⟩ := info_parts Tryd.infoIntE
  have h := run_equalIn_array (P := Tryd.prog) w 9999 #[.int .i64 a, .int .i64 b] #[.int .i64 c, .int .i64 d] Tryd.underlying62 hi
  refine h.trans ?_
  rw [show List.range 2 = [0, 1] from rfl, show Tryd.prog.cellsOf 3 = 1 by kernel_rfl]
  simp [Op.eqItems, part, isAgg, underlying, Tryd.underlying3, Result.andThen, run_equalIn_int (P := Tryd.prog) _ 9998 3 .i64 .i64 _ _ Tryd.underlying3]
  by_cases h1 : a = c <;> by_cases h2 : b = d <;> simp [h1, h2]
theorem Tryd.spNeq (a b c d : Int) (w : World) : (binOp .neq 62 (.agg #[.int .i64 a, .int .i64 b]) (.agg #[.int .i64 c, .int .i64 d])).run Tryd.prog w = .ok (.bool (!(a == c && b == d))) w := by
  rw [run_neq_struct, Tryd.spEqual]; rfl
theorem Tryd.spNeqSame (a b : Int) (w : World) : (binOp .neq 62 (.agg #[.int .i64 a, .int .i64 b]) (.agg #[.int .i64 a, .int .i64 b])).run Tryd.prog w = .ok (.bool false) w := by
  rw [Tryd.spNeq]; simp
end Go.Proofs.YtfhchbpgpaljhaaDoor
