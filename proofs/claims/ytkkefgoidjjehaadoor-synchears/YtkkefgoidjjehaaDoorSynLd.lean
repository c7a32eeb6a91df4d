/- A note read whole and stored whole, as one step of a walk. -/
import Derived.Test.YtkkefgoidjjehaaDoorSynAt
import Derived.Laws.Tables
import Derived.Laws.CopyOwn
import Derived.OwnWalk
namespace Go.Proofs.YtkkefgoidjjehaaDoor
open Go.RowKit
set_option linter.unusedVariables false

theorem Tryd.ntSize : (Tryd.prog.info? 29).map (·.size) = some 17 := by kernel_rfl
theorem NtAt.ld {W : World} {b : Nat} {p : Nt} (h : NtAt W b p) : (loadVar 29 ⟨b, 0, none⟩).run Tryd.prog W = .ok (.agg #[.int .i64 p.what, .int .i64 p.seq, .int .i64 p.fl.key.kind, .int .i64 p.fl.key.src, .int .i64 p.fl.key.frm, .int .i64 p.fl.key.dst, .int .i64 p.fl.key.too, .int .i64 p.fl.st, .int .i64 p.fl.unt, .int .i64 p.fl.stp, .int .i64 p.fl.h0, .int .i64 p.fl.h1, .int .i64 p.fl.w0, .int .i64 p.fl.w1, .bool p.fl.d0, .bool p.fl.d1, .int .i64 p.fl.num]) W :=
  run_loadVar_row W b 29 29 _ (0, 0) _ h Tryd.ntFields rfl Tryd.ntSize
theorem Only.setRow {W : World} (b : Nat) (cs : Array Value) : Only b W (W.setRow b cs) :=
  ⟨rfl, rfl, rfl, by simp [World.setRow], fun k hk => setRow_other W b k cs hk⟩
theorem NtAt.st {W : World} {b : Nat} {p : Nt} (h : NtAt W b p) (q : Nt) : ∃ W', (storeVar 29 ⟨b, 0, none⟩ (.agg #[.int .i64 q.what, .int .i64 q.seq, .int .i64 q.fl.key.kind, .int .i64 q.fl.key.src, .int .i64 q.fl.key.frm, .int .i64 q.fl.key.dst, .int .i64 q.fl.key.too, .int .i64 q.fl.st, .int .i64 q.fl.unt, .int .i64 q.fl.stp, .int .i64 q.fl.h0, .int .i64 q.fl.h1, .int .i64 q.fl.w0, .int .i64 q.fl.w1, .bool q.fl.d0, .bool q.fl.d1, .int .i64 q.fl.num])).run Tryd.prog W = .ok () W' ∧ NtAt W' b q ∧ Only b W W' := by
  refine ⟨_, run_storeVar_row W b 29 29 _ _ h Tryd.ntSize rfl (by simp [Value.oneCell']), ?_, Only.setRow _ _⟩
  exact setRow_heap W b _ _ 29 _ h
theorem NtAt.ldI {W : World} {b : Nat} {p : Nt} (h : NtAt W b p) : (Instr.loadAt 29 (.pointer (some ⟨b, 0, none⟩))).run Tryd.prog W = .ok (.agg #[.int .i64 p.what, .int .i64 p.seq, .int .i64 p.fl.key.kind, .int .i64 p.fl.key.src, .int .i64 p.fl.key.frm, .int .i64 p.fl.key.dst, .int .i64 p.fl.key.too, .int .i64 p.fl.st, .int .i64 p.fl.unt, .int .i64 p.fl.stp, .int .i64 p.fl.h0, .int .i64 p.fl.h1, .int .i64 p.fl.w0, .int .i64 p.fl.w1, .bool p.fl.d0, .bool p.fl.d1, .int .i64 p.fl.num]) W := by
  have hrun := h.ld
  simp only [Instr.loadAt]
  exact hrun
theorem NtAt.stI {W : World} {b : Nat} {p : Nt} (h : NtAt W b p) (q : Nt) : ∃ W', (Instr.storeAt 29 (.pointer (some ⟨b, 0, none⟩)) (.agg #[.int .i64 q.what, .int .i64 q.seq, .int .i64 q.fl.key.kind, .int .i64 q.fl.key.src, .int .i64 q.fl.key.frm, .int .i64 q.fl.key.dst, .int .i64 q.fl.key.too, .int .i64 q.fl.st, .int .i64 q.fl.unt, .int .i64 q.fl.stp, .int .i64 q.fl.h0, .int .i64 q.fl.h1, .int .i64 q.fl.w0, .int .i64 q.fl.w1, .bool q.fl.d0, .bool q.fl.d1, .int .i64 q.fl.num])).run Tryd.prog W = .ok () W' ∧ NtAt W' b q ∧ Only b W W' := by
  obtain ⟨W', hrun, n', o'⟩ := h.st q
  refine ⟨W', ?_, n', o'⟩
  simp only [Instr.storeAt]
  exact hrun
theorem NtAt.stZ {W : World} {b : Nat} {p : Nt} (h : NtAt W b p) : ∃ W', (Instr.storeAt 29 (.pointer (some ⟨b, 0, none⟩)) (.agg #[.int .i64 0, .int .i64 0, .int .i64 0, .int .i64 0, .int .i64 0, .int .i64 0, .int .i64 0, .int .i64 0, .int .i64 0, .int .i64 0, .int .i64 0, .int .i64 0, .int .i64 0, .int .i64 0, .bool false, .bool false, .int .i64 0])).run Tryd.prog W = .ok () W' ∧ NtAt W' b zeroN ∧ Only b W W' := h.stI zeroN
set_option maxRecDepth 100000 in
theorem wpList_store_nt {w : World} {ops : Array Oper} {rest : List Oper} {o : Oper} {a : Act} {Q : Exit → Act → World → Prop} (hgd : o.guard = none) (hdst : o.dst = none) (d s : Operand)
    (ho : o.op = .store 29 d s) (b : Nat) (p q : Nt) (hd : a.eval d = .pointer (some ⟨b, 0, none⟩)) (hs : a.eval s = .agg #[.int .i64 q.what, .int .i64 q.seq, .int .i64 q.fl.key.kind, .int .i64 q.fl.key.src, .int .i64 q.fl.key.frm, .int .i64 q.fl.key.dst, .int .i64 q.fl.key.too, .int .i64 q.fl.st, .int .i64 q.fl.unt, .int .i64 q.fl.stp, .int .i64 q.fl.h0, .int .i64 q.fl.h1, .int .i64 q.fl.w0, .int .i64 q.fl.w1, .bool q.fl.d0, .bool q.fl.d1, .int .i64 q.fl.num]) (hn : NtAt w b p)
    (h : ∀ W', NtAt W' b q → Only b w W' → wpList Tryd.prog ops Q rest a W') : wpList Tryd.prog ops Q (o :: rest) a w := by
  refine wpList_plain hgd fun K hK => ?_
  obtain ⟨W', hrun, n', o'⟩ := hn.stI q
  unfold Oper.wp
  have hk := hK _ _ (h W' n' o')
  simp [execOp, ho, hd, hs, hrun, Result.andThen]
  rw [Oper.upon_skip, hdst]
  exact hk
set_option maxRecDepth 100000 in
theorem wpList_load_nt {w : World} {ops : Array Oper} {rest : List Oper} {o : Oper} {a : Act} {Q : Exit → Act → World → Prop} (hgd : o.guard = none) (d : Operand)
    (ho : o.op = .load 29 d) (b : Nat) (p : Nt) (hd : a.eval d = .pointer (some ⟨b, 0, none⟩)) (hn : NtAt w b p)
    (h : wpList Tryd.prog ops Q rest (a.put o.dst (.agg #[.int .i64 p.what, .int .i64 p.seq, .int .i64 p.fl.key.kind, .int .i64 p.fl.key.src, .int .i64 p.fl.key.frm, .int .i64 p.fl.key.dst, .int .i64 p.fl.key.too, .int .i64 p.fl.st, .int .i64 p.fl.unt, .int .i64 p.fl.stp, .int .i64 p.fl.h0, .int .i64 p.fl.h1, .int .i64 p.fl.w0, .int .i64 p.fl.w1, .bool p.fl.d0, .bool p.fl.d1, .int .i64 p.fl.num])) w) : wpList Tryd.prog ops Q (o :: rest) a w := by
  refine wpList_plain hgd fun K hK => ?_
  have hrun := hn.ldI
  unfold Oper.wp
  simp [execOp, ho, hd, hrun, Result.andThen]
  exact hK _ _ h
theorem res_nt3 {fn : Func} (h : fn.results = #[.cell 2 29, .tmp 3, .tmp 4]) (tmps : Array Value) (b : Nat) (p : Nt) (ht : tmps.getD 2 undef = .pointer (some ⟨b, 0, none⟩)) (w : World) (hn : NtAt w b p) :
    (results fn tmps).run Tryd.prog w = .ok (.tuple #[ntV p, tmps.getD 3 undef, tmps.getD 4 undef]) w := by
  have hrun := hn.ld
  have ht' : tmps[2]?.getD undef = .pointer (some ⟨b, 0, none⟩) := by simpa using ht
  unfold ntV
  simp [results, h, ht', asAddr, hrun, Result.andThen]
theorem res_nt1 {fn : Func} (h : fn.results = #[.cell 2 29]) (tmps : Array Value) (b : Nat) (p : Nt) (ht : tmps.getD 2 undef = .pointer (some ⟨b, 0, none⟩)) (w : World) (hn : NtAt w b p) :
    (results fn tmps).run Tryd.prog w = .ok (ntV p) w := by
  have hrun := hn.ld
  have ht' : tmps[2]?.getD undef = .pointer (some ⟨b, 0, none⟩) := by simpa using ht
  unfold ntV
  simp [results, h, ht', asAddr, hrun]
end Go.Proofs.YtkkefgoidjjehaaDoor
