/- Rows of pairs (a prefix and its value) of the call's own: 'OwnR', and what append leaves of them. Conditions: lengths within what the model lets grow. -/
import Derived.Test.YtdpnmhfhjcebbaaDoorTrieMath
import Derived.Test.YtdpnmhfhjcebbaaDoorGrow
import Derived.Test.YtdpnmhfhjcebbaaDoorTurnT
import Derived.Deep.AppendLies
import Derived.Deep.RegionHeldLaw
namespace Go.Proofs.YtdpnmhfhjcebbaaDoor
open Go.RowKit
set_option linter.unusedVariables false

def prCells (ps : List Pr) : List Value := ps.flatMap fun p => [.int .i64 p.a, .int .i64 p.l, .int .i64 p.v]
/-- The value v is a slice of the call's own, from block 'base' on, that holds the pairs ps. -/
def OwnR (w : World) (base : Nat) (v : Value) (ps : List Pr) : Prop := w.ownsRow base 34 3 v ps.length (prCells ps)
theorem prCells_append (a b : List Pr) : prCells (a ++ b) = prCells a ++ prCells b := by simp [prCells]
theorem prCells_len (ps : List Pr) : (prCells ps).length = ps.length * 3 := by
  induction ps with
  | nil => rfl
  | cons p r ih => simp only [prCells, List.flatMap_cons, List.length_append] at ih ⊢; simp at ih ⊢; omega
theorem prCells_one (ps : List Pr) : ∀ u ∈ prCells ps, u.oneCell' = true := by
  intro u hu
  obtain ⟨p, _, hp⟩ := List.mem_flatMap.1 hu
  rcases (by simpa using hp : u = .int .i64 p.a ∨ u = .int .i64 p.l ∨ u = .int .i64 p.v) with rfl | rfl | rfl <;> rfl
theorem prCells_get : ∀ (ps : List Pr) (i : Nat) (h : i < ps.length), (prCells ps)[i * 3]? = some (.int .i64 ps[i].a) ∧ (prCells ps)[i * 3 + 1]? = some (.int .i64 ps[i].l) ∧ (prCells ps)[i * 3 + 2]? = some (.int .i64 ps[i].v)
  | [], i, h => by simp at h
  | p :: r, 0, h => by simp [prCells]
  | p :: r, i + 1, h => by
      have ih := prCells_get r i (by simpa using h)
      have e : prCells (p :: r) = [.int .i64 p.a, .int .i64 p.l, .int .i64 p.v] ++ prCells r := by simp [prCells]
      rw [e]
      have e1 : (i + 1) * 3 = i * 3 + 3 := by omega
      rw [e1]
      simp only [List.getElem_cons_succ]
      refine ⟨?_, ?_, ?_⟩
      · rw [List.getElem?_append_right (by simp)]; simpa using ih.1
      · rw [show i * 3 + 3 + 1 = (i * 3 + 1) + 3 by omega, List.getElem?_append_right (by simp)]; simpa using ih.2.1
      · rw [show i * 3 + 3 + 2 = (i * 3 + 2) + 3 by omega, List.getElem?_append_right (by simp)]; simpa using ih.2.2
theorem Tryd.infoPr : (Tryd.prog.info? 34).map (fun i => (i.zero, i.size, i.bytes)) = some (some (.agg #[.int .i64 0, .int .i64 0, .int .i64 0]), 3, 24) := by kernel_rfl
theorem OwnR.nil (w : World) (base : Nat) : OwnR w base (.slice none 0 0) [] := World.ownsRow_nil _ _ _ _
theorem OwnR.alloc {w : World} {base : Nat} {v : Value} {ps : List Pr} (h : OwnR w base v ps) (o : Obj) : OwnR (w.alloc o) base v ps := World.ownsRow.alloc h o
theorem OwnR.drewN {w : World} {base : Nat} {v : Value} {ps : List Pr} (h : OwnR w base v ps) (n : Nat) : OwnR (w.drewN n) base v ps := h
theorem OwnR.drew {w : World} {base : Nat} {v : Value} {ps : List Pr} (h : OwnR w base v ps) : OwnR w.drew base v ps := h
theorem OwnR.block {w : World} {base : Nat} {v : Value} {ps : List Pr} (h : OwnR w base v ps) : ∀ k, v.ownBlock = some k → base ≤ k ∧ k < w.heap.size := fun k hk => World.ownsRow.lt h k hk
theorem OwnR.blk {w w' : World} {base : Nat} {v : Value} {ps : List Pr} (h : OwnR w base v ps) (hb : ∀ k, v.ownBlock = some k → w'.heap[k]? = w.heap[k]?) : OwnR w' base v ps := by
  obtain ⟨h1, h2⟩ := h
  refine ⟨h1, ?_⟩
  rcases h2 with h2 | ⟨g, cap, cur, hv, hbg, hh, rest⟩
  · exact .inl h2
  · refine .inr ⟨g, cap, cur, hv, hbg, ?_, rest⟩
    rw [hb g (by rw [hv]; rfl)]; exact hh
theorem OwnR.below {w w' : World} {base : Nat} {v : Value} {ps : List Pr} (h : OwnR w base v ps) (hb : Below w.heap.size w w') : OwnR w' base v ps := h.blk (fun k hk => hb.block k (h.block k hk).2)
theorem OwnR.base {w : World} {b b' : Nat} {v : Value} {ps : List Pr} (h : OwnR w b v ps) (hb : b' ≤ b) : OwnR w b' v ps := by
  obtain ⟨h1, h2⟩ := h
  refine ⟨h1, ?_⟩
  rcases h2 with h2 | ⟨g, cap, cur, hv, hbg, rest⟩
  · exact .inl h2
  · exact .inr ⟨g, cap, cur, hv, Nat.le_trans hb hbg, rest⟩
theorem OwnR.shape {w : World} {base : Nat} {v : Value} {ps : List Pr} (h : OwnR w base v ps) (hz : 0 < ps.length) :
    ∃ g cap, v = .slice (some ⟨g, 0, none⟩) ps.length cap ∧ base ≤ g ∧ g < w.heap.size ∧ ps.length ≤ cap ∧ cap ≤ maxLen := by
  obtain ⟨_, h2⟩ := h
  rcases h2 with ⟨_, h0⟩ | ⟨g, cap, cur, rfl, hb, hh, hl, hm, _, _⟩
  · omega
  · refine ⟨g, cap, rfl, hb, ?_, hl, hm⟩
    rcases Nat.lt_or_ge g w.heap.size with h1 | h1
    · exact h1
    · simp [Array.getElem?_eq_none h1] at hh
theorem OwnR.len {w : World} {base : Nat} {v : Value} {ps : List Pr} (h : OwnR w base v ps) : ∃ a c, v = .slice a ps.length c := by
  obtain ⟨_, h2⟩ := h
  rcases h2 with ⟨rfl, h0⟩ | ⟨g, cap, cur, rfl, _⟩
  · exact ⟨none, 0, by rw [h0]⟩
  · exact ⟨_, _, rfl⟩
theorem OwnR.cells {w : World} {base g n cap : Nat} {ps : List Pr} (h : OwnR w base (.slice (some ⟨g, 0, none⟩) n cap) ps) (i : Nat) (hi : i < ps.length) :
    w.cell? ⟨g, i * 3, none⟩ = some (.int .i64 ps[i].a) ∧ w.cell? ⟨g, i * 3 + 1, none⟩ = some (.int .i64 ps[i].l) ∧ w.cell? ⟨g, i * 3 + 2, none⟩ = some (.int .i64 ps[i].v) := by
  have hc := World.ownsRow.cells h (g := g) rfl
  obtain ⟨h0, h1, h2⟩ := prCells_get ps i hi
  have add : ∀ j, Addr.add ⟨g, 0, none⟩ j = ⟨g, j, none⟩ := fun j => by by_cases hj : j = 0 <;> simp [Addr.add, hj]
  refine ⟨?_, ?_, ?_⟩
  · have := hc _ _ h0; rw [add] at this; exact this
  · have := hc _ _ h1; rw [add] at this; exact this
  · have := hc _ _ h2; rw [add] at this; exact this
/-- 'append' of one pair onto a row of the call's own, at a step of a region that draws its order. -/
theorem step_append_pr {w : World} {ops : Array Oper} {o : Oper} {a : Act} {K : Act → World → Prop} {Q : Exit → Act → World → Prop} {E : Prop} (hgd : o.guard = none) (s x : Operand)
    (ho : o.op = .call { callee := .builtin .append, args := #[s, x], argTypes := #[22, 22] })
    (base : Nat) (v : Value) (ps : List Pr) (hs : a.eval s = v) (hown : OwnR w base v ps) (p : Pr) (hx : a.eval x = .slice (some ⟨w.heap.size, 0, none⟩) 1 1)
    (hlen : ps.length ≤ 1000000) (hbase : base ≤ w.heap.size)
    (h : ∀ g cap w', OwnR w' base (.slice (some ⟨g, 0, none⟩) (ps.length + 1) cap) (ps ++ [p]) → (w.alloc (.cells #[.int .i64 p.a, .int .i64 p.l, .int .i64 p.v] 34)).grownBy w' v.ownBlock → (v.ownBlock = some g ∨ g = w.heap.size + 1) → K (a.put o.dst (.slice (some ⟨g, 0, none⟩) (ps.length + 1) cap)) w') :
    if Region.wanted o (yielded ops a.tmps) = true then Oper.wp Tryd.prog o a (w.alloc (.cells #[.int .i64 p.a, .int .i64 p.l, .int .i64 p.v] 34)) K Q else E := by
  obtain ⟨i0, hi, hz0, hz1, hz2⟩ := info_parts Tryd.infoPr
  refine step_append_lies _ hgd s x 22 ho base 34 i0 (.agg #[.int .i64 0, .int .i64 0, .int .i64 0]) 3 24 Tryd.underlying22 hi hz0 hz1 hz2 rfl (by decide) v ps.length (prCells ps) hs (OwnR.alloc hown _) ⟨w.heap.size, 0, none⟩ 1 1 [.int .i64 p.a, .int .i64 p.l, .int .i64 p.v] hx rfl ?_ ?_ (by decide) (by unfold maxLen; omega) (by omega) (by simp; omega) (w.heap.size + 1) (by simp) ?_
  · intro j u hj
    match j, hj with
    | 0, hj => simp at hj; subst hj; simp [Addr.add]
    | 1, hj => simp at hj; subst hj; simp [Addr.add]
    | 2, hj => simp at hj; subst hj; simp [Addr.add]
  · intro u hu
    rcases (by simpa using hu : u = .int .i64 p.a ∨ u = .int .i64 p.l ∨ u = .int .i64 p.v) with rfl | rfl | rfl <;> rfl
  · intro g cap w' h1 h2 h3 _
    refine h g cap w' ?_ h2 h3
    unfold OwnR
    rw [List.length_append, prCells_append]; exact h1
theorem wpList_append_pr {w : World} {ops : Array Oper} {rest : List Oper} {o : Oper} {a : Act} {Q : Exit → Act → World → Prop} (hgd : o.guard = none) (s x : Operand)
    (ho : o.op = .call { callee := .builtin .append, args := #[s, x], argTypes := #[22, 22] })
    (base : Nat) (v : Value) (ps : List Pr) (hs : a.eval s = v) (hown : OwnR w base v ps) (p : Pr) (hx : a.eval x = .slice (some ⟨w.heap.size, 0, none⟩) 1 1)
    (hlen : ps.length ≤ 1000000) (hbase : base ≤ w.heap.size)
    (h : ∀ g cap w', OwnR w' base (.slice (some ⟨g, 0, none⟩) (ps.length + 1) cap) (ps ++ [p]) → (w.alloc (.cells #[.int .i64 p.a, .int .i64 p.l, .int .i64 p.v] 34)).grownBy w' v.ownBlock → (v.ownBlock = some g ∨ g = w.heap.size + 1) → wpList Tryd.prog ops Q rest (a.put o.dst (.slice (some ⟨g, 0, none⟩) (ps.length + 1) cap)) w') :
    wpList Tryd.prog ops Q (o :: rest) a (w.alloc (.cells #[.int .i64 p.a, .int .i64 p.l, .int .i64 p.v] 34)) := by
  obtain ⟨i0, hi, hz0, hz1, hz2⟩ := info_parts Tryd.infoPr
  refine wpList_append_lies _ hgd s x 22 ho base 34 i0 (.agg #[.int .i64 0, .int .i64 0, .int .i64 0]) 3 24 Tryd.underlying22 hi hz0 hz1 hz2 rfl (by decide) v ps.length (prCells ps) hs (OwnR.alloc hown _) ⟨w.heap.size, 0, none⟩ 1 1 [.int .i64 p.a, .int .i64 p.l, .int .i64 p.v] hx rfl ?_ ?_ (by decide) (by unfold maxLen; omega) (by omega) (by simp; omega) (w.heap.size + 1) (by simp) ?_
  · intro j u hj
    match j, hj with
    | 0, hj => simp at hj; subst hj; simp [Addr.add]
    | 1, hj => simp at hj; subst hj; simp [Addr.add]
    | 2, hj => simp at hj; subst hj; simp [Addr.add]
  · intro u hu
    rcases (by simpa using hu : u = .int .i64 p.a ∨ u = .int .i64 p.l ∨ u = .int .i64 p.v) with rfl | rfl | rfl <;> rfl
  · intro g cap w' h1 h2 h3 _
    refine h g cap w' ?_ h2 h3
    unfold OwnR
    rw [List.length_append, prCells_append]; exact h1
end Go.Proofs.YtdpnmhfhjcebbaaDoor
