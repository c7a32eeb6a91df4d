/- Rows of pairs of the call's own: what append of another row leaves, and a value that is set. -/
import Derived.Test.YtdpnmhfhjcebbaaDoorRefT0
import Derived.Deep.Upon
namespace Go.Proofs.YtdpnmhfhjcebbaaDoor
open Go.RowKit
set_option linter.unusedVariables false
set_option maxRecDepth 4000

/-- 'append' of the pairs of any slice onto a row of the call's own. -/
theorem wpList_append_prs {w : World} {ops : Array Oper} {rest : List Oper} {o : Oper} {a : Act} {Q : Exit → Act → World → Prop} (hgd : o.guard = none) (s x : Operand)
    (ho : o.op = .call { callee := .builtin .append, args := #[s, x], argTypes := #[22, 22] })
    (base : Nat) (v : Value) (ps : List Pr) (hs : a.eval s = v) (hown : OwnR w base v ps) (vx : Value) (qs : List Pr) (hx : a.eval x = vx) (hsrc : Prs w vx qs)
    (hlen : ps.length + qs.length ≤ 1000000) (hbase : base ≤ w.heap.size)
    (h : ∀ v' w', OwnR w' base v' (ps ++ qs) → w.grownBy w' v.ownBlock → (v'.ownBlock = v.ownBlock ∨ v'.ownBlock = some w.heap.size) → wpList Tryd.prog ops Q rest (a.put o.dst v') w') :
    wpList Tryd.prog ops Q (o :: rest) a w := by
  obtain ⟨i0, hi, hz0, hz1, hz2⟩ := info_parts Tryd.infoPr
  rcases hsrc with ⟨rfl, ax, cx, rfl⟩ | ⟨b, off, len, cap, rfl, h2, h3, h4, h5, h6⟩
  · refine wpList_plain hgd fun K hK => ?_
    obtain ⟨av, cv, hv, hle⟩ : ∃ av cv, v = .slice av ps.length cv ∧ ps.length ≤ cv := by
      rcases Nat.eq_zero_or_pos ps.length with h0 | h0
      · obtain ⟨av, cv, hv⟩ := hown.len
        exact ⟨av, cv, hv, by omega⟩
      · obtain ⟨g, cap, hv, _, _, h7, _⟩ := hown.shape h0
        exact ⟨_, cap, hv, h7⟩
    have hsr : Src Tryd.prog i0.size 22 (.slice ax 0 cx) 0 [] w := by
      rcases ax with _ | ax
      · exact Src.ofNil w Tryd.underlying22 cx
      · exact Src.ofSlice w Tryd.underlying22 ax 0 cx [] (by simp) (fun j u hj => by simp at hj) (fun u hu => by cases hu)
    have hr := run_append_nothing (P := Tryd.prog) w 22 22 o.type 34 i0 Tryd.underlying22 hi av ps.length cv hle _ hsr
    unfold Oper.wp execOp
    rw [hv] at hs
    simp only [ho, resolve, invoke, builtin, Sem.run_bind, Sem.run_pure, Result.andThen_ok, List.map_toArray, List.map_cons, List.map_nil, hs, hx, hr]
    rw [← hv]
    exact hK _ _ (h v w (by rw [List.append_nil]; exact hown) (World.grownBy.refl _ _) (.inl rfl))
  · refine wpList_append_at hgd s x 22 ho base 34 i0 (.agg #[.int .i64 0, .int .i64 0, .int .i64 0]) 3 24 Tryd.underlying22 hi hz0 hz1 hz2 rfl (by decide) v ps.length (prCells ps) hs hown ⟨b, off, none⟩ qs.length cap (prCells qs) (by rw [hx, h4]) (prCells_len qs) ?_ (prCells_one qs) (by unfold maxLen; omega) (by omega) hbase ?_
    · intro j u hj
      have hjl : j < qs.length * 3 := by
        rcases Nat.lt_or_ge j (qs.length * 3) with h7 | h7
        · exact h7
        · rw [List.getElem?_eq_none (by rw [prCells_len]; exact h7)] at hj; cases hj
      have hi' : j / 3 < qs.length := by omega
      obtain ⟨k0, k1, k2⟩ := prCells_get qs (j / 3) hi'
      obtain ⟨c0, c1, c2⟩ := h6 (j / 3) hi'
      have add : Addr.add ⟨b, off, none⟩ j = ⟨b, off + j, none⟩ := by by_cases hj : j = 0 <;> simp [Addr.add, hj]
      rw [add]
      rcases (by omega : j % 3 = 0 ∨ j % 3 = 1 ∨ j % 3 = 2) with h7 | h7 | h7
      · rw [show j / 3 * 3 = j by omega] at k0 c0
        rw [k0] at hj; rw [← hj]; exact c0
      · rw [show j / 3 * 3 + 1 = j by omega] at k1
        rw [show off + j / 3 * 3 + 1 = off + j by omega] at c1
        rw [k1] at hj; rw [← hj]; exact c1
      · rw [show j / 3 * 3 + 2 = j by omega] at k2
        rw [show off + j / 3 * 3 + 2 = off + j by omega] at c2
        rw [k2] at hj; rw [← hj]; exact c2
    · intro v' w' h1 h2 h3
      refine h v' w' ?_ h2 h3
      unfold OwnR
      rw [List.length_append, prCells_append]; exact h1
/-- The value of one pair of a row is set. -/
theorem OwnR.setVal {w : World} {base g n cap : Nat} {A B : List Pr} {x : Pr} (h : OwnR w base (.slice (some ⟨g, 0, none⟩) n cap) (A ++ x :: B)) (y : Int) : OwnR (w.setCell ⟨g, A.length * 3 + 2, none⟩ (.int .i64 y)) base (.slice (some ⟨g, 0, none⟩) n cap) (A ++ ⟨x.a, x.l, y⟩ :: B) := by
  obtain ⟨h1, h2⟩ := h
  refine ⟨prCells_len _, ?_⟩
  rcases h2 with ⟨h2, _⟩ | ⟨g', cap', cur, hv, hbg, hh, hl, hm, hc, ht⟩
  · cases h2
  · simp only [Value.slice.injEq, Option.some.injEq, Addr.mk.injEq] at hv
    obtain ⟨⟨rfl, _⟩, hn, rfl⟩ := hv
    have hs := heap_setCell_same w g (A.length * 3 + 2) _ _ (.int .i64 y) hh
    refine .inr ⟨g, cap, cur.setIfInBounds (A.length * 3 + 2) (.int .i64 y), ?_, hbg, hs, ?_, hm, ?_, ?_⟩
    · rw [hn]; simp
    · simpa using hl
    · rw [Array.size_setIfInBounds]; exact hc
    · rw [Array.toList_setIfInBounds, List.take_set]
      have e : (A ++ (⟨x.a, x.l, y⟩ : Pr) :: B).length = (A ++ x :: B).length := by simp
      rw [e, ht, prCells_append, prCells_append]
      have e2 : ∀ z : Pr, prCells (z :: B) = [.int .i64 z.a, .int .i64 z.l, .int .i64 z.v] ++ prCells B := fun z => by simp [prCells]
      rw [e2, e2, List.set_append_right _ _ (by rw [prCells_len]; omega), prCells_len]
      congr 1
      rw [show A.length * 3 + 2 - A.length * 3 = 2 by omega]
      rfl
theorem Prs.head {w : World} {base g n cap : Nat} {L : List Pr} (h : OwnR w base (.slice (some ⟨g, 0, none⟩) n cap) L) (hz : 0 < L.length) {k : Nat} (hk : k ≤ L.length) : Prs w (.slice (some ⟨g, 0, none⟩) k cap) (L.take k) := by
  obtain ⟨g', cap', hv, _, h2, h3, h4⟩ := h.shape hz
  simp only [Value.slice.injEq, Option.some.injEq, Addr.mk.injEq] at hv
  obtain ⟨⟨rfl, _⟩, hn, rfl⟩ := hv
  refine .inr ⟨g, 0, k, cap, rfl, by omega, h4, by rw [List.length_take]; omega, h2, fun i hi => ?_⟩
  rw [List.length_take] at hi
  rw [Nat.zero_add, List.getElem_take]
  exact h.cells i (by omega)
theorem Prs.tail {w : World} {base g n cap c : Nat} {L : List Pr} (h : OwnR w base (.slice (some ⟨g, 0, none⟩) n cap) L) (hz : 0 < L.length) {k m : Nat} (hk : k + m = L.length) (hc : m ≤ c) (hc2 : c ≤ maxLen) : Prs w (.slice (some ⟨g, k * 3, none⟩) m c) (L.drop k) := by
  obtain ⟨g', cap', hv, _, h2, h3, h4⟩ := h.shape hz
  simp only [Value.slice.injEq, Option.some.injEq, Addr.mk.injEq] at hv
  obtain ⟨⟨rfl, _⟩, hn, rfl⟩ := hv
  refine .inr ⟨g, k * 3, m, c, rfl, hc, hc2, by rw [List.length_drop]; omega, h2, fun i hi => ?_⟩
  rw [List.length_drop] at hi
  rw [← Nat.add_mul, List.getElem_drop]
  exact h.cells (k + i) (by omega)
end Go.Proofs.YtdpnmhfhjcebbaaDoor
