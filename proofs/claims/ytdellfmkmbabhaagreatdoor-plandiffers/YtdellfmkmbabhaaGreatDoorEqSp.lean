/- '==' and '!=' of two spans ([2]int), as the walk meets them. -/
import Derived.Test.YtdellfmkmbabhaaGreatDoorSpnAt
import Derived.ChangeKeysEq
namespace Go.Proofs.YtdellfmkmbabhaaGreatDoor
open Go.RowKit
set_option linter.unusedVariables false

theorem Tryz.spGuard : Tryz.prog.eqGuardType Tryz.prog.depth 29 = false := by kernel_rfl
theorem Tryz.infoIntE : (Tryz.prog.info? 3).map (fun i => (i.zero, i.size, i.bytes)) = some (some (.int .i64 0), 1, 8) := by kernel_rfl
theorem Tryz.spEqual (a b c d : Int) (w : World) : (Op.equalIn 10000 29 (.agg #[.int .i64 a, .int .i64 b]) (.agg #[.int .i64 c, .int .i64 d])).run Tryz.prog w = .ok (a == c && b == d) w := by
  obtain ⟨i0, hi, hz0, hz1, hz2⟩ := info_parts Tryz.infoIntE
  have h := run_equalIn_array (P := Tryz.prog) w 9999 #[.int .i64 a, .int .i64 b] #[.int .i64 c, .int .i64 d] Tryz.underlying29 hi
  refine h.trans ?_
  rw [show List.range 2 = [0, 1] from rfl, show Tryz.prog.cellsOf 3 = 1 by kernel_rfl]
  simp [Op.eqItems, part, isAgg, underlying, Tryz.underlying3, Result.andThen, run_equalIn_int (P := Tryz.prog) _ 9998 3 .i64 .i64 _ _ Tryz.underlying3]
  by_cases h1 : a = c <;> by_cases h2 : b = d <;> simp [h1, h2]
theorem Tryz.spNeq (a b c d : Int) (w : World) : (binOp .neq 29 (.agg #[.int .i64 a, .int .i64 b]) (.agg #[.int .i64 c, .int .i64 d])).run Tryz.prog w = .ok (.bool (!(a == c && b == d))) w := by
  rw [run_neq_struct, Tryz.spEqual]; rfl
theorem Tryz.spNeqSame (a b : Int) (w : World) : (binOp .neq 29 (.agg #[.int .i64 a, .int .i64 b]) (.agg #[.int .i64 a, .int .i64 b])).run Tryz.prog w = .ok (.bool false) w := by
  rw [Tryz.spNeq]; simp
end Go.Proofs.YtdellfmkmbabhaaGreatDoor
