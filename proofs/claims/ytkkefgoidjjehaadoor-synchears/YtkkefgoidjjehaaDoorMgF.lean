/- '==' and '!=' of a key and itself (api.Key), as the walk meets them. -/
import Derived.Test.YtkkefgoidjjehaaDoorMgC
import Derived.ChangeKeysEq
namespace Go.Proofs.YtkkefgoidjjehaaDoor
open Go.RowKit
set_option linter.unusedVariables false

theorem Tryd.keyHeld : Tryd.prog.stoodInHeld 23 = false := by kernel_rfl
theorem Tryd.keyFields : Tryd.prog.underlying 23 = some (.struct (Tryd.prog.fieldsOf 23)) := by kernel_rfl
theorem Tryd.keyEqual (a b c d e : Int) (w : World) : (Op.equalIn 10000 23 (.agg #[.int .i64 a, .int .i64 b, .int .i64 c, .int .i64 d, .int .i64 e]) (.agg #[.int .i64 a, .int .i64 b, .int .i64 c, .int .i64 d, .int .i64 e])).run Tryd.prog w = .ok true w := by
  have h := run_equalIn_agg (P := Tryd.prog) w 9999 23 #[.int .i64 a, .int .i64 b, .int .i64 c, .int .i64 d, .int .i64 e] #[.int .i64 a, .int .i64 b, .int .i64 c, .int .i64 d, .int .i64 e] Tryd.keyFields Tryd.keyHeld
  refine h.trans ?_
  simp [Program.fieldsOf, Tryd.underlying23, Op.eqFields, part, isAgg, underlying, Tryd.underlying3, Result.andThen, run_equalIn_int (P := Tryd.prog) _ 9998 3 .i64 .i64 _ _ Tryd.underlying3]
theorem Tryd.keyNeq (a b c d e : Int) (w : World) : (binOp .neq 23 (.agg #[.int .i64 a, .int .i64 b, .int .i64 c, .int .i64 d, .int .i64 e]) (.agg #[.int .i64 a, .int .i64 b, .int .i64 c, .int .i64 d, .int .i64 e])).run Tryd.prog w = .ok (.bool false) w := by
  rw [run_neq_struct, Tryd.keyEqual]; rfl
theorem Tryd.keyEql (a b c d e : Int) (w : World) : (binOp .eql 23 (.agg #[.int .i64 a, .int .i64 b, .int .i64 c, .int .i64 d, .int .i64 e]) (.agg #[.int .i64 a, .int .i64 b, .int .i64 c, .int .i64 d, .int .i64 e])).run Tryd.prog w = .ok (.bool true) w := by
  rw [run_eql_struct, Tryd.keyEqual]; rfl
end Go.Proofs.YtkkefgoidjjehaaDoor

namespace Go.Proofs.YtkkefgoidjjehaaDoor
open Go.RowKit
set_option linter.unusedVariables false

theorem Tryd.ar2Guard : Tryd.prog.eqGuardType Tryd.prog.depth 24 = false := by kernel_rfl
theorem Tryd.ab2Guard : Tryd.prog.eqGuardType Tryd.prog.depth 25 = false := by kernel_rfl
theorem Tryd.infoIntE : (Tryd.prog.info? 3).map (fun i => (i.zero, i.size, i.bytes)) = some (some (.int .i64 0), 1, 8) := by kernel_rfl
theorem Tryd.infoBoolE : (Tryd.prog.info? 4).map (fun i => (i.zero, i.size, i.bytes)) = some (some (.bool false), 1, 1) := by kernel_rfl
theorem Tryd.ar2EqualD (n : Nat) (a b c d : Int) (w : World) : (Op.equalIn (n + 2) 24 (.agg #[.int .i64 a, .int .i64 b]) (.agg #[.int .i64 c, .int .i64 d])).run Tryd.prog w = .ok (a == c && b == d) w := by
  obtain ⟨i0, hi, hz0, hz1, hz2⟩ := info_parts Tryd.infoIntE
  have h := run_equalIn_array (P := Tryd.prog) w (n + 1) #[.int .i64 a, .int .i64 b] #[.int .i64 c, .int .i64 d] Tryd.underlying24 hi
  refine h.trans ?_
  rw [show List.range 2 = [0, 1] from rfl, show Tryd.prog.cellsOf 3 = 1 by kernel_rfl]
  simp [Op.eqItems, part, isAgg, underlying, Tryd.underlying3, Result.andThen, run_equalIn_int (P := Tryd.prog) _ n 3 .i64 .i64 _ _ Tryd.underlying3]
  by_cases h1 : a = c <;> by_cases h2 : b = d <;> simp [h1, h2]
theorem Tryd.ab2EqualD (n : Nat) (a b c d : Bool) (w : World) : (Op.equalIn (n + 2) 25 (.agg #[.bool a, .bool b]) (.agg #[.bool c, .bool d])).run Tryd.prog w = .ok (a == c && b == d) w := by
  obtain ⟨i0, hi, hz0, hz1, hz2⟩ := info_parts Tryd.infoBoolE
  have h := run_equalIn_array (P := Tryd.prog) w (n + 1) #[.bool a, .bool b] #[.bool c, .bool d] Tryd.underlying25 hi
  refine h.trans ?_
  rw [show List.range 2 = [0, 1] from rfl, show Tryd.prog.cellsOf 4 = 1 by kernel_rfl]
  simp [Op.eqItems, part, isAgg, underlying, Tryd.underlying4, Result.andThen, run_equalIn_bool (P := Tryd.prog) _ n 4 _ _ Tryd.underlying4]
  cases a <;> cases b <;> cases c <;> cases d <;> rfl
theorem Tryd.ar2Neq (a b c d : Int) (w : World) : (binOp .neq 24 (.agg #[.int .i64 a, .int .i64 b]) (.agg #[.int .i64 c, .int .i64 d])).run Tryd.prog w = .ok (.bool (!(a == c && b == d))) w := by
  rw [run_neq_struct, Tryd.ar2EqualD 9998]; rfl
theorem Tryd.ab2Neq (a b c d : Bool) (w : World) : (binOp .neq 25 (.agg #[.bool a, .bool b]) (.agg #[.bool c, .bool d])).run Tryd.prog w = .ok (.bool (!(a == c && b == d))) w := by
  rw [run_neq_struct, Tryd.ab2EqualD 9998]; rfl
theorem Tryd.keyEqualD (n : Nat) (a b c d e : Int) (w : World) : (Op.equalIn (n + 2) 23 (.agg #[.int .i64 a, .int .i64 b, .int .i64 c, .int .i64 d, .int .i64 e]) (.agg #[.int .i64 a, .int .i64 b, .int .i64 c, .int .i64 d, .int .i64 e])).run Tryd.prog w = .ok true w := by
  have h := run_equalIn_agg (P := Tryd.prog) w (n + 1) 23 #[.int .i64 a, .int .i64 b, .int .i64 c, .int .i64 d, .int .i64 e] #[.int .i64 a, .int .i64 b, .int .i64 c, .int .i64 d, .int .i64 e] Tryd.keyFields Tryd.keyHeld
  refine h.trans ?_
  simp [Program.fieldsOf, Tryd.underlying23, Op.eqFields, part, isAgg, underlying, Tryd.underlying3, Result.andThen, run_equalIn_int (P := Tryd.prog) _ n 3 .i64 .i64 _ _ Tryd.underlying3]
theorem Tryd.flGuard : Tryd.prog.eqGuardType Tryd.prog.depth 27 = false := by kernel_rfl
theorem Tryd.flHeld : Tryd.prog.stoodInHeld 27 = false := by kernel_rfl
theorem Tryd.flFields : Tryd.prog.underlying 27 = some (.struct (Tryd.prog.fieldsOf 27)) := by kernel_rfl
theorem Tryd.flEqual (p : Fl) (w : World) : (Op.equalIn 10000 27 (.agg #[.int .i64 p.key.kind, .int .i64 p.key.src, .int .i64 p.key.frm, .int .i64 p.key.dst, .int .i64 p.key.too, .int .i64 p.st, .int .i64 p.unt, .int .i64 p.stp, .int .i64 p.h0, .int .i64 p.h1, .int .i64 p.w0, .int .i64 p.w1, .bool p.d0, .bool p.d1, .int .i64 p.num]) (.agg #[.int .i64 p.key.kind, .int .i64 p.key.src, .int .i64 p.key.frm, .int .i64 p.key.dst, .int .i64 p.key.too, .int .i64 p.st, .int .i64 p.unt, .int .i64 p.stp, .int .i64 p.h0, .int .i64 p.h1, .int .i64 p.w0, .int .i64 p.w1, .bool p.d0, .bool p.d1, .int .i64 p.num])).run Tryd.prog w = .ok true w := by
  have h := run_equalIn_agg (P := Tryd.prog) w 9999 27 #[.int .i64 p.key.kind, .int .i64 p.key.src, .int .i64 p.key.frm, .int .i64 p.key.dst, .int .i64 p.key.too, .int .i64 p.st, .int .i64 p.unt, .int .i64 p.stp, .int .i64 p.h0, .int .i64 p.h1, .int .i64 p.w0, .int .i64 p.w1, .bool p.d0, .bool p.d1, .int .i64 p.num] #[.int .i64 p.key.kind, .int .i64 p.key.src, .int .i64 p.key.frm, .int .i64 p.key.dst, .int .i64 p.key.too, .int .i64 p.st, .int .i64 p.unt, .int .i64 p.stp, .int .i64 p.h0, .int .i64 p.h1, .int .i64 p.w0, .int .i64 p.w1, .bool p.d0, .bool p.d1, .int .i64 p.num] Tryd.flFields Tryd.flHeld
  refine h.trans ?_
  simp [Program.fieldsOf, Tryd.underlying27, Op.eqFields, part, isAgg, underlying, Tryd.underlying3, Tryd.underlying23, Tryd.underlying24, Tryd.underlying25, Result.andThen, run_equalIn_int (P := Tryd.prog) _ 9998 3 .i64 .i64 _ _ Tryd.underlying3, Tryd.keyEqualD 9997, Tryd.ar2EqualD 9997, Tryd.ab2EqualD 9997]
theorem Tryd.flNeq (p : Fl) (w : World) : (binOp .neq 27 (.agg #[.int .i64 p.key.kind, .int .i64 p.key.src, .int .i64 p.key.frm, .int .i64 p.key.dst, .int .i64 p.key.too, .int .i64 p.st, .int .i64 p.unt, .int .i64 p.stp, .int .i64 p.h0, .int .i64 p.h1, .int .i64 p.w0, .int .i64 p.w1, .bool p.d0, .bool p.d1, .int .i64 p.num]) (.agg #[.int .i64 p.key.kind, .int .i64 p.key.src, .int .i64 p.key.frm, .int .i64 p.key.dst, .int .i64 p.key.too, .int .i64 p.st, .int .i64 p.unt, .int .i64 p.stp, .int .i64 p.h0, .int .i64 p.h1, .int .i64 p.w0, .int .i64 p.w1, .bool p.d0, .bool p.d1, .int .i64 p.num])).run Tryd.prog w = .ok (.bool false) w := by
  rw [run_neq_struct, Tryd.flEqual]; rfl
theorem Tryd.flEql (p : Fl) (w : World) : (binOp .eql 27 (.agg #[.int .i64 p.key.kind, .int .i64 p.key.src, .int .i64 p.key.frm, .int .i64 p.key.dst, .int .i64 p.key.too, .int .i64 p.st, .int .i64 p.unt, .int .i64 p.stp, .int .i64 p.h0, .int .i64 p.h1, .int .i64 p.w0, .int .i64 p.w1, .bool p.d0, .bool p.d1, .int .i64 p.num]) (.agg #[.int .i64 p.key.kind, .int .i64 p.key.src, .int .i64 p.key.frm, .int .i64 p.key.dst, .int .i64 p.key.too, .int .i64 p.st, .int .i64 p.unt, .int .i64 p.stp, .int .i64 p.h0, .int .i64 p.h1, .int .i64 p.w0, .int .i64 p.w1, .bool p.d0, .bool p.d1, .int .i64 p.num])).run Tryd.prog w = .ok (.bool true) w := by
  rw [run_eql_struct, Tryd.flEqual]; rfl
end Go.Proofs.YtkkefgoidjjehaaDoor
