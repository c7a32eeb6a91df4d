/- Rows of pairs of numbers as arrays ([2]int) of the call's own: 'OwnA', what append and a store leave of them. -/
import Derived.Test.YtkjjalaelehjeabDoorOwnP
namespace Go.Proofs.YtkjjalaelehjeabDoor
open Go.RowKit
set_option linter.unusedVariables false

def OwnA (w : World) (base : Nat) (v : Value) (ps : List (Int × Int)) : Prop :=
  w.ownsRow base 51 2 v ps.length (pairCells ps)
theorem Tryd.infoArr : (Tryd.prog.info? 51).map (fun i => (i.zero, i.size, i.bytes)) = some (some (.agg #[.int .i64 0, .int .i64 0]), 2, 16) := by kernel_rfl
theorem OwnA.nil (w : World) (base : Nat) : OwnA w base (.slice none 0 0) [] := World.ownsRow_nil _ _ _ _
theorem OwnA.alloc {w : World} {base : Nat} {v : Value} {ps : List (Int × Int)} (h : OwnA w base v ps) (o : Obj) : OwnA (w.alloc o) base v ps := World.ownsRow.alloc h o

/-- 'append' of one prefix onto a row of the call's own. -/
theorem wpList_append_arr {w : World} {ops : Array Oper} {rest : List Oper} {o : Oper} {a : Act} {Q : Exit → Act → World → Prop} (hgd : o.guard = none) (s x : Operand)
    (ho : o.op = .call { callee := .builtin .append, args := #[s, x], argTypes := #[49, 49] })
    (base : Nat) (v : Value) (ps : List (Int × Int)) (hs : a.eval s = v) (hown : OwnA w base v ps) (c d : Int) (hx : a.eval x = .slice (some ⟨w.heap.size, 0, none⟩) 1 1)
    (hlen : ps.length ≤ 4398046511104) (hbase : base ≤ w.heap.size)
    (h : ∀ v' w', OwnA w' base v' (ps ++ [(c, d)]) → (w.alloc (.cells #[.int .i64 c, .int .i64 d] 51)).grownBy w' v.ownBlock → wpList Tryd.prog ops Q rest (a.put o.dst v') w') :
    wpList Tryd.prog ops Q (o :: rest) a (w.alloc (.cells #[.int .i64 c, .int .i64 d] 51)) := by
  obtain ⟨i0, hi, hz0, hz1, hz2⟩ := info_parts Tryd.infoArr
  refine wpList_append_own _ hgd s x 49 ho base 51 i0 (.agg #[.int .i64 0, .int .i64 0]) 2 16 Tryd.underlying49 hi hz0 hz1 hz2 rfl (by decide) v ps.length (pairCells ps) hs (OwnA.alloc hown _) ⟨w.heap.size, 0, none⟩ 1 1 [.int .i64 c, .int .i64 d] hx rfl ?_ ?_ (by unfold maxLen; omega) (by omega) (by simp; omega) ?_
  · intro j u hj
    match j, hj with
    | 0, hj => simp at hj; subst hj; simp [Addr.add]
    | 1, hj => simp at hj; subst hj; simp [Addr.add]
  · intro u hu
    rcases (by simpa using hu : u = .int .i64 c ∨ u = .int .i64 d) with rfl | rfl <;> rfl
  · intro v' w' h1 h2 _
    refine h v' w' ?_ h2
    unfold OwnA
    rw [List.length_append, pairCells_append]; exact h1

theorem OwnA.base {w : World} {b b' : Nat} {v : Value} {ps : List (Int × Int)} (h : OwnA w b v ps) (hb : b' ≤ b) : OwnA w b' v ps := by
  obtain ⟨h1, h2⟩ := h
  refine ⟨h1, ?_⟩
  rcases h2 with h2 | ⟨g, cap, cur, hv, hbg, rest⟩
  · exact .inl h2
  · exact .inr ⟨g, cap, cur, hv, Nat.le_trans hb hbg, rest⟩
theorem OwnA.below {w w' : World} {base : Nat} {v : Value} {ps : List (Int × Int)} (h : OwnA w base v ps) (hb : Below w.heap.size w w') : OwnA w' base v ps := by
  obtain ⟨h1, h2⟩ := h
  refine ⟨h1, ?_⟩
  rcases h2 with h2 | ⟨g, cap, cur, hv, hbg, hh, rest⟩
  · exact .inl h2
  · refine .inr ⟨g, cap, cur, hv, hbg, ?_, rest⟩
    have hlt : g < w.heap.size := by
      rcases Nat.lt_or_ge g w.heap.size with h | h
      · exact h
      · simp [Array.getElem?_eq_none h] at hh
    rw [hb.block g hlt]; exact hh
theorem OwnA.other {w : World} {base : Nat} {v : Value} {ps : List (Int × Int)} {g off : Nat} (h : OwnA w base v ps) (hne : v.ownBlock ≠ some g) (u : Value) : OwnA (w.setCell ⟨g, off, none⟩ u) base v ps :=
  ownsRow_setCell_other h hne u
theorem OwnA.shape {w : World} {base : Nat} {v : Value} {ps : List (Int × Int)} (h : OwnA w base v ps) (hz : 0 < ps.length) : ∃ g cap, v = .slice (some ⟨g, 0, none⟩) ps.length cap ∧ base ≤ g ∧ g < w.heap.size := by
  obtain ⟨_, h2⟩ := h
  rcases h2 with ⟨_, h0⟩ | ⟨g, cap, cur, rfl, hb, hh, _⟩
  · omega
  · refine ⟨g, cap, rfl, hb, ?_⟩
    rcases Nat.lt_or_ge g w.heap.size with h1 | h1
    · exact h1
    · simp [Array.getElem?_eq_none h1] at hh
theorem pairCells_set (R : List (Int × Int)) (a b c : Int) : (pairCells (R ++ [(a, b)])).set (R.length * 2 + 1) (.int .i64 c) = pairCells (R ++ [(a, c)]) := by
  rw [pairCells_append, pairCells_append]
  have h := pairCells_len R
  rw [List.set_append_right _ _ (by omega)]
  have e : R.length * 2 + 1 - (pairCells R).length = 1 := by omega
  rw [e]; rfl
theorem OwnA.set {w : World} {base g cap n : Nat} {R : List (Int × Int)} {a b : Int} (h : OwnA w base (.slice (some ⟨g, 0, none⟩) n cap) (R ++ [(a, b)])) (hn : n = (R ++ [(a, b)]).length) (c : Int) :
    OwnA (w.setCell ⟨g, R.length * 2 + 1, none⟩ (.int .i64 c)) base (.slice (some ⟨g, 0, none⟩) n cap) (R ++ [(a, c)]) := by
  subst hn
  have := (World.ownsRow.stored h (R.length * 2 + 1) (.int .i64 c)).1
  rw [pairCells_set] at this
  unfold OwnA
  have e : (R ++ [(a, c)]).length = (R ++ [(a, b)]).length := by simp
  rw [e]; exact this
theorem pairCells_at (ps : List (Int × Int)) (i : Nat) (h : i < ps.length) : (pairCells ps)[i * 2]? = some (.int .i64 (ps.getD i (0, 0)).1) ∧ (pairCells ps)[i * 2 + 1]? = some (.int .i64 (ps.getD i (0, 0)).2) := by
  induction ps generalizing i with
  | nil => simp at h
  | cons q r ih =>
    have e : pairCells (q :: r) = .int .i64 q.1 :: .int .i64 q.2 :: pairCells r := by simp [pairCells]
    rw [e]
    cases i with
    | zero => simp [List.getD]
    | succ i =>
      have := ih i (by simpa using h)
      have e1 : (i + 1) * 2 = i * 2 + 1 + 1 := by omega
      rw [e1]
      simpa [List.getD] using this
theorem OwnA.cells {w : World} {base g cap n : Nat} {Q : List (Int × Int)} (h : OwnA w base (.slice (some ⟨g, 0, none⟩) n cap) Q) (hn : n = Q.length) (i : Nat) (hi : i < Q.length) :
    w.cell? ⟨g, i * 2, none⟩ = some (.int .i64 (Q.getD i (0, 0)).1) ∧ w.cell? ⟨g, i * 2 + 1, none⟩ = some (.int .i64 (Q.getD i (0, 0)).2) ∧ w.frozen? ⟨g, i * 2 + 1, none⟩ = false := by
  subst hn
  have c0 := World.ownsRow.cellAt h (i * 2) (by omega)
  have c1 := World.ownsRow.cellAt h (i * 2 + 1) (by omega)
  obtain ⟨p0, p1⟩ := pairCells_at Q i hi
  exact ⟨c0.trans p0, c1.trans p1, World.ownsRow.frozenAt h _⟩
end Go.Proofs.YtkjjalaelehjeabDoor
