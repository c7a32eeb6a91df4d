/- An event read whole and stored whole, as one step of a walk. -/
import Derived.Test.YtfgaalhaeadhmaaDoorAuAt
namespace Go.Proofs.YtfgaalhaeadhmaaDoor
open Go.RowKit
set_option linter.unusedVariables false

theorem Tryd.evSize : (Tryd.prog.info? 54).map (·.size) = some 8 := by kernel_rfl
theorem Tryd.evFieldsL : Tryd.prog.underlying 54 = some (.struct (Tryd.prog.fieldsOf 54)) := by kernel_rfl
def zeroE : Ev := { time := 0, node := 0, what := 0, key := { kind := 0, src := 0, frm := 0, dst := 0, too := 0 } }
theorem EvAt.zero (w : World) : EvAt (w.alloc (.cells #[.int .i64 0, .int .i64 0, .int .i64 0, .int .i64 0, .int .i64 0, .int .i64 0, .int .i64 0, .int .i64 0] 54)) w.heap.size zeroE := heap_alloc_new w _
theorem EvAt.ldI {W : World} {b : Nat} {p : Ev} (h : EvAt W b p) : (Instr.loadAt 54 (.pointer (some ⟨b, 0, none⟩))).run Tryd.prog W = .ok (.agg #[.int .i64 p.time, .int .i64 p.node, .int .i64 p.what, .int .i64 p.key.kind, .int .i64 p.key.src, .int .i64 p.key.frm, .int .i64 p.key.dst, .int .i64 p.key.too]) W := by
  have hrun := run_loadVar_row W b 54 54 _ (0, 0) _ h Tryd.evFieldsL rfl Tryd.evSize
  simp only [Instr.loadAt]
  exact hrun
theorem EvAt.stI {W : World} {b : Nat} {p : Ev} (h : EvAt W b p) (q : Ev) : ∃ W', (Instr.storeAt 54 (.pointer (some ⟨b, 0, none⟩)) (.agg #[.int .i64 q.time, .int .i64 q.node, .int .i64 q.what, .int .i64 q.key.kind, .int .i64 q.key.src, .int .i64 q.key.frm, .int .i64 q.key.dst, .int .i64 q.key.too])).run Tryd.prog W = .ok () W' ∧ EvAt W' b q ∧ Below b W W' := by
  have hrun := run_storeVar_row W b 54 54 _ #[.int .i64 q.time, .int .i64 q.node, .int .i64 q.what, .int .i64 q.key.kind, .int .i64 q.key.src, .int .i64 q.key.frm, .int .i64 q.key.dst, .int .i64 q.key.too] h Tryd.evSize rfl (by simp [Value.oneCell'])
  refine ⟨_, ?_, setRow_heap W b _ _ 54 _ h, below_setRow (Below.refl _ _) (Nat.le_refl _) _⟩
  simp only [Instr.storeAt]
  exact hrun
set_option maxRecDepth 100000 in
theorem wpList_store_ev {w : World} {ops : Array Oper} {rest : List Oper} {o : Oper} {a : Act} {Q : Exit → Act → World → Prop} (hgd : o.guard = none) (hdst : o.dst = none) (d s : Operand)
    (ho : o.op = .store 54 d s) (b : Nat) (p q : Ev) (hd : a.eval d = .pointer (some ⟨b, 0, none⟩)) (hs : a.eval s = (.agg #[.int .i64 q.time, .int .i64 q.node, .int .i64 q.what, .int .i64 q.key.kind, .int .i64 q.key.src, .int .i64 q.key.frm, .int .i64 q.key.dst, .int .i64 q.key.too])) (hn : EvAt w b p)
    (h : ∀ W', EvAt W' b q → Below b w W' → wpList Tryd.prog ops Q rest a W') : wpList Tryd.prog ops Q (o :: rest) a w := by
  refine wpList_plain hgd fun K hK => ?_
  obtain ⟨W', hrun, n', o'⟩ := hn.stI q
  unfold Oper.wp
  have hk := hK _ _ (h W' n' o')
  simp [execOp, ho, hd, hs, hrun, Result.andThen]
  rw [Oper.upon_skip, hdst]
  exact hk
set_option maxRecDepth 100000 in
theorem wpList_load_ev {w : World} {ops : Array Oper} {rest : List Oper} {o : Oper} {a : Act} {Q : Exit → Act → World → Prop} (hgd : o.guard = none) (d : Operand)
    (ho : o.op = .load 54 d) (b : Nat) (p : Ev) (hd : a.eval d = .pointer (some ⟨b, 0, none⟩)) (hn : EvAt w b p)
    (h : wpList Tryd.prog ops Q rest (a.put o.dst (.agg #[.int .i64 p.time, .int .i64 p.node, .int .i64 p.what, .int .i64 p.key.kind, .int .i64 p.key.src, .int .i64 p.key.frm, .int .i64 p.key.dst, .int .i64 p.key.too])) w) : wpList Tryd.prog ops Q (o :: rest) a w := by
  refine wpList_plain hgd fun K hK => ?_
  have hrun := hn.ldI
  unfold Oper.wp
  simp [execOp, ho, hd, hrun, Result.andThen]
  exact hK _ _ h
end Go.Proofs.YtfgaalhaeadhmaaDoor
