/- Rows of prefixes of the call's own: 'OwnP', and what append leaves of them. -/
import Derived.Test.YtkjjalaelehjeabDoorNum
import Derived.Test.YtkjjalaelehjeabDoorGrow
import Derived.Laws.AppendOwn
import Derived.Laws.OwnMore
import Derived.OneCell
namespace Go.Proofs.YtkjjalaelehjeabDoor
open Go.RowKit
set_option linter.unusedVariables false

/-- The value v is a slice of the call's own that holds the prefixes ps. -/
def pairCells (ps : List (Int × Int)) : List Value := ps.flatMap fun p => [.int .i64 p.1, .int .i64 p.2]
def OwnP (w : World) (base : Nat) (v : Value) (ps : List (Int × Int)) : Prop :=
  w.ownsRow base 28 2 v ps.length (pairCells ps)
theorem pairCells_append (a b : List (Int × Int)) : pairCells (a ++ b) = pairCells a ++ pairCells b := by simp [pairCells]
theorem Tryd.infoPref : (Tryd.prog.info? 28).map (fun i => (i.zero, i.size, i.bytes)) = some (some (.agg #[.int .i64 0, .int .i64 0]), 2, 16) := by kernel_rfl
theorem OwnP.nil (w : World) (base : Nat) : OwnP w base (.slice none 0 0) [] := World.ownsRow_nil _ _ _ _
theorem OwnP.alloc {w : World} {base : Nat} {v : Value} {ps : List (Int × Int)} (h : OwnP w base v ps) (o : Obj) : OwnP (w.alloc o) base v ps := World.ownsRow.alloc h o

/-- 'append' of one prefix onto a row of the call's own. -/
theorem wpList_append_pref {w : World} {ops : Array Oper} {rest : List Oper} {o : Oper} {a : Act} {Q : Exit → Act → World → Prop} (hgd : o.guard = none) (s x : Operand)
    (ho : o.op = .call { callee := .builtin .append, args := #[s, x], argTypes := #[22, 22] })
    (base : Nat) (v : Value) (ps : List (Int × Int)) (hs : a.eval s = v) (hown : OwnP w base v ps) (c d : Int) (hx : a.eval x = .slice (some ⟨w.heap.size, 0, none⟩) 1 1)
    (hlen : ps.length ≤ 4398046511104) (hbase : base ≤ w.heap.size)
    (h : ∀ v' w', OwnP w' base v' (ps ++ [(c, d)]) → (w.alloc (.cells #[.int .i64 c, .int .i64 d] 28)).grownBy w' v.ownBlock → wpList Tryd.prog ops Q rest (a.put o.dst v') w') :
    wpList Tryd.prog ops Q (o :: rest) a (w.alloc (.cells #[.int .i64 c, .int .i64 d] 28)) := by
  obtain ⟨i0, hi, hz0, hz1, hz2⟩ := info_parts Tryd.infoPref
  refine wpList_append_own _ hgd s x 22 ho base 28 i0 (.agg #[.int .i64 0, .int .i64 0]) 2 16 Tryd.underlying22 hi hz0 hz1 hz2 rfl (by decide) v ps.length (pairCells ps) hs (OwnP.alloc hown _) ⟨w.heap.size, 0, none⟩ 1 1 [.int .i64 c, .int .i64 d] hx rfl ?_ ?_ (by unfold maxLen; omega) (by omega) (by simp; omega) ?_
  · intro j u hj
    match j, hj with
    | 0, hj => simp at hj; subst hj; simp [Addr.add]
    | 1, hj => simp at hj; subst hj; simp [Addr.add]
  · intro u hu
    rcases (by simpa using hu : u = .int .i64 c ∨ u = .int .i64 d) with rfl | rfl <;> rfl
  · intro v' w' h1 h2 _
    refine h v' w' ?_ h2
    unfold OwnP
    rw [List.length_append, pairCells_append]; exact h1

theorem OwnP.base {w : World} {b b' : Nat} {v : Value} {ps : List (Int × Int)} (h : OwnP w b v ps) (hb : b' ≤ b) : OwnP w b' v ps := by
  obtain ⟨h1, h2⟩ := h
  refine ⟨h1, ?_⟩
  rcases h2 with h2 | ⟨g, cap, cur, hv, hbg, rest⟩
  · exact .inl h2
  · exact .inr ⟨g, cap, cur, hv, Nat.le_trans hb hbg, rest⟩
theorem OwnP.below {w w' : World} {base : Nat} {v : Value} {ps : List (Int × Int)} (h : OwnP w base v ps) (hb : Below w.heap.size w w') : OwnP w' base v ps := by
  obtain ⟨h1, h2⟩ := h
  refine ⟨h1, ?_⟩
  rcases h2 with h2 | ⟨g, cap, cur, hv, hbg, hh, rest⟩
  · exact .inl h2
  · refine .inr ⟨g, cap, cur, hv, hbg, ?_, rest⟩
    have hlt : g < w.heap.size := by
      rcases Nat.lt_or_ge g w.heap.size with h | h
      · exact h
      · simp [Array.getElem?_eq_none h] at hh
    rw [hb.block g hlt]; exact hh
theorem OwnP.other {w : World} {base : Nat} {v : Value} {ps : List (Int × Int)} {g off : Nat} (h : OwnP w base v ps) (hne : v.ownBlock ≠ some g) (u : Value) : OwnP (w.setCell ⟨g, off, none⟩ u) base v ps :=
  ownsRow_setCell_other h hne u
theorem OwnP.shape {w : World} {base : Nat} {v : Value} {ps : List (Int × Int)} (h : OwnP w base v ps) (hz : 0 < ps.length) : ∃ g cap, v = .slice (some ⟨g, 0, none⟩) ps.length cap ∧ base ≤ g ∧ g < w.heap.size := by
  obtain ⟨_, h2⟩ := h
  rcases h2 with ⟨_, h0⟩ | ⟨g, cap, cur, rfl, hb, hh, _⟩
  · omega
  · refine ⟨g, cap, rfl, hb, ?_⟩
    rcases Nat.lt_or_ge g w.heap.size with h1 | h1
    · exact h1
    · simp [Array.getElem?_eq_none h1] at hh
theorem pairCells_len (ps : List (Int × Int)) : (pairCells ps).length = ps.length * 2 := by
  induction ps with
  | nil => rfl
  | cons p r ih => simp only [pairCells, List.flatMap_cons, List.length_append] at ih ⊢; simp at ih ⊢; omega
theorem pairCells_one (ps : List (Int × Int)) : ∀ u ∈ pairCells ps, u.oneCell' = true := by
  intro u hu
  obtain ⟨p, _, hp⟩ := List.mem_flatMap.1 hu
  rcases (by simpa using hp : u = .int .i64 p.1 ∨ u = .int .i64 p.2) with rfl | rfl <;> rfl
/-- 'append' of the prefixes of one row of the call's own onto another. -/
theorem wpList_append_prefs {w : World} {ops : Array Oper} {rest : List Oper} {o : Oper} {a : Act} {Q : Exit → Act → World → Prop} (hgd : o.guard = none) (s x : Operand)
    (ho : o.op = .call { callee := .builtin .append, args := #[s, x], argTypes := #[22, 22] })
    (base : Nat) (v : Value) (ps : List (Int × Int)) (hs : a.eval s = v) (hown : OwnP w base v ps) (base2 : Nat) (vx : Value) (qs : List (Int × Int)) (hx : a.eval x = vx) (hox : OwnP w base2 vx qs) (hq : 0 < qs.length)
    (hlen : ps.length + qs.length ≤ 4398046511104) (hbase : base ≤ w.heap.size)
    (h : ∀ v' w', OwnP w' base v' (ps ++ qs) → w.grownBy w' v.ownBlock → (v'.ownBlock = v.ownBlock ∨ v'.ownBlock = some w.heap.size) → wpList Tryd.prog ops Q rest (a.put o.dst v') w') :
    wpList Tryd.prog ops Q (o :: rest) a w := by
  obtain ⟨i0, hi, hz0, hz1, hz2⟩ := info_parts Tryd.infoPref
  obtain ⟨g, cap, hv, _, _⟩ := hox.shape hq
  refine wpList_append_at hgd s x 22 ho base 28 i0 (.agg #[.int .i64 0, .int .i64 0]) 2 16 Tryd.underlying22 hi hz0 hz1 hz2 rfl (by decide) v ps.length (pairCells ps) hs hown ⟨g, 0, none⟩ qs.length cap (pairCells qs) (by rw [hx, hv]) (pairCells_len qs) ?_ (pairCells_one qs) (by unfold maxLen; omega) (by omega) hbase ?_
  · exact World.ownsRow.cells hox (g := g) (by rw [hv]; rfl)
  · intro v' w' h1 h2 h3
    refine h v' w' ?_ h2 h3
    unfold OwnP
    rw [List.length_append, pairCells_append]; exact h1

end Go.Proofs.YtkjjalaelehjeabDoor
