/- Rules in a row of the call's own ('OwnRl'), and what 'append' of rules leaves of them. Conditions: lengths within what the model lets grow. -/
import Derived.Test.YtdellfmkmbabhaaRuleRow
import Derived.Test.YtdellfmkmbabhaaGrow
namespace Go.Proofs.Ytdellfmkmbabhaa
open Go.RowKit
set_option linter.unusedVariables false

abbrev Rx := Rl × Value × Value
def rlCell (x : Rx) : List Value := [.bool x.1.pass, .bool x.1.quick, .bool x.1.keep, .int .i64 x.1.way, .int .i64 x.1.kind, .int .i64 x.1.sa, .int .i64 x.1.sl, .int .i64 x.1.da, .int .i64 x.1.dl, x.2.1, x.2.2]
def rlCells (rs : List Rx) : List Value := rs.flatMap rlCell
/-- The value v is a slice of the call's own, from block 'base' on, that holds the rules rs. -/
def OwnRl (w : World) (base : Nat) (v : Value) (rs : List Rx) : Prop := w.ownsRow base 34 11 v rs.length (rlCells rs)
/-- The ports of rules. -/
def PtsOf (w : World) (x : Rx) : Prop := Spns w x.2.1 x.1.fr ∧ Spns w x.2.2 x.1.tl ∧ x.1.fr.length ≤ 140737488355328 ∧ x.1.tl.length ≤ 140737488355328
def Pts (w : World) (rs : List Rx) : Prop := ∀ x ∈ rs, PtsOf w x
theorem PtsOf.below {w w' : World} {x : Rx} (h : PtsOf w x) (hb : Below w.heap.size w w') : PtsOf w' x := ⟨h.1.below hb, h.2.1.below hb, h.2.2⟩
theorem Pts.below {w w' : World} {rs : List Rx} (h : Pts w rs) (hb : Below w.heap.size w w') : Pts w' rs := fun x hx => (h x hx).below hb
theorem Pts.nil (w : World) : Pts w [] := fun x hx => by cases hx
theorem Pts.append {w : World} {a b : List Rx} (h : Pts w a) (k : Pts w b) : Pts w (a ++ b) := fun x hx => by
  rcases List.mem_append.1 hx with hx | hx
  · exact h x hx
  · exact k x hx
theorem Pts.one {w : World} {x : Rx} (h : PtsOf w x) : Pts w [x] := fun y hy => by rw [List.mem_singleton] at hy; subst hy; exact h
theorem Rls.pts {w : World} {v : Value} {rs : List Rx} (h : Rls w v rs) : Pts w rs := by
  intro x hx
  obtain ⟨i, hi, rfl⟩ := List.getElem_of_mem hx
  obtain ⟨a, c, hv⟩ := h.len
  rw [hv] at h
  obtain ⟨b, off, _, _, _, _, hc⟩ := h.shape (by omega)
  exact (hc i hi).2
theorem PtsOf.one {w : World} {x : Rx} (h : PtsOf w x) : ∀ u ∈ rlCell x, u.oneCell' = true := by
  obtain ⟨af, cf, hf⟩ := h.1.len
  obtain ⟨at', ct, ht⟩ := h.2.1.len
  intro u hu
  simp only [rlCell, List.mem_cons, List.not_mem_nil, or_false] at hu
  rcases hu with rfl | rfl | rfl | rfl | rfl | rfl | rfl | rfl | rfl | rfl | rfl
  · rfl
  · rfl
  · rfl
  · rfl
  · rfl
  · rfl
  · rfl
  · rfl
  · rfl
  · rw [hf]; rfl
  · rw [ht]; rfl
theorem Pts.ones {w : World} {rs : List Rx} (h : Pts w rs) : ∀ u ∈ rlCells rs, u.oneCell' = true := by
  intro u hu
  obtain ⟨x, hx, hu⟩ := List.mem_flatMap.1 hu
  exact (h x hx).one u hu
theorem rlCells_append (a b : List Rx) : rlCells (a ++ b) = rlCells a ++ rlCells b := by simp [rlCells]
theorem rlCells_len (rs : List Rx) : (rlCells rs).length = rs.length * 11 := by
  induction rs with
  | nil => rfl
  | cons p r ih => simp only [rlCells, List.flatMap_cons, List.length_append] at ih ⊢; rw [ih]; simp [rlCell]; omega
theorem rlCells_get : ∀ (rs : List Rx) (i : Nat) (h : i < rs.length) (j : Nat), j < 11 → (rlCells rs)[i * 11 + j]? = (rlCell rs[i])[j]?
  | [], i, h, j, hj => by simp at h
  | x :: r, 0, h, j, hj => by
      have e : rlCells (x :: r) = rlCell x ++ rlCells r := by simp [rlCells]
      rw [e, Nat.zero_mul, Nat.zero_add, List.getElem?_append_left (by simp [rlCell]; omega)]; rfl
  | x :: r, i + 1, h, j, hj => by
      have ih := rlCells_get r i (by simpa using h) j hj
      have e : rlCells (x :: r) = rlCell x ++ rlCells r := by simp [rlCells]
      have hl : (rlCell x).length = 11 := rfl
      rw [e, List.getElem?_append_right (by omega), hl, show (i + 1) * 11 + j - 11 = i * 11 + j by omega, ih]
      rfl
theorem Try.infoRl : (Try.prog.info? 34).map (fun i => (i.zero, i.size, i.bytes)) = some (some (.agg #[.bool false, .bool false, .bool false, .int .i64 0, .int .i64 0, .int .i64 0, .int .i64 0, .int .i64 0, .int .i64 0, .slice none 0 0, .slice none 0 0]), 11, 104) := by kernel_rfl
theorem OwnRl.nil (w : World) (base : Nat) : OwnRl w base (.slice none 0 0) [] := World.ownsRow_nil _ _ _ _
theorem OwnRl.alloc {w : World} {base : Nat} {v : Value} {rs : List Rx} (h : OwnRl w base v rs) (o : Obj) : OwnRl (w.alloc o) base v rs := World.ownsRow.alloc h o
theorem OwnRl.block {w : World} {base : Nat} {v : Value} {rs : List Rx} (h : OwnRl w base v rs) : ∀ k, v.ownBlock = some k → base ≤ k ∧ k < w.heap.size := fun k hk => World.ownsRow.lt h k hk
theorem OwnRl.blk {w w' : World} {base : Nat} {v : Value} {rs : List Rx} (h : OwnRl w base v rs) (hb : ∀ k, v.ownBlock = some k → w'.heap[k]? = w.heap[k]?) : OwnRl w' base v rs := by
  obtain ⟨h1, h2⟩ := h
  refine ⟨h1, ?_⟩
  rcases h2 with h2 | ⟨g, cap, cur, hv, hbg, hh, rest⟩
  · exact .inl h2
  · refine .inr ⟨g, cap, cur, hv, hbg, ?_, rest⟩
    rw [hb g (by rw [hv]; rfl)]; exact hh
theorem OwnRl.below {w w' : World} {base : Nat} {v : Value} {rs : List Rx} (h : OwnRl w base v rs) (hb : Below w.heap.size w w') : OwnRl w' base v rs := h.blk (fun k hk => hb.block k (h.block k hk).2)
theorem OwnRl.base {w : World} {b b' : Nat} {v : Value} {rs : List Rx} (h : OwnRl w b v rs) (hb : b' ≤ b) : OwnRl w b' v rs := by
  obtain ⟨h1, h2⟩ := h
  refine ⟨h1, ?_⟩
  rcases h2 with h2 | ⟨g, cap, cur, hv, hbg, rest⟩
  · exact .inl h2
  · exact .inr ⟨g, cap, cur, hv, Nat.le_trans hb hbg, rest⟩
theorem OwnRl.shape {w : World} {base : Nat} {v : Value} {rs : List Rx} (h : OwnRl w base v rs) (hz : 0 < rs.length) :
    ∃ g cap, v = .slice (some ⟨g, 0, none⟩) rs.length cap ∧ base ≤ g ∧ g < w.heap.size ∧ rs.length ≤ cap ∧ cap ≤ maxLen := by
  obtain ⟨_, h2⟩ := h
  rcases h2 with ⟨_, h0⟩ | ⟨g, cap, cur, rfl, hb, hh, hl, hm, _, _⟩
  · omega
  · refine ⟨g, cap, rfl, hb, ?_, hl, hm⟩
    rcases Nat.lt_or_ge g w.heap.size with h1 | h1
    · exact h1
    · simp [Array.getElem?_eq_none h1] at hh
theorem OwnRl.len {w : World} {base : Nat} {v : Value} {rs : List Rx} (h : OwnRl w base v rs) : ∃ a c, v = .slice a rs.length c := by
  obtain ⟨_, h2⟩ := h
  rcases h2 with ⟨rfl, h0⟩ | ⟨g, cap, cur, rfl, _⟩
  · exact ⟨none, 0, by rw [h0]⟩
  · exact ⟨_, _, rfl⟩
theorem OwnRl.cell {w : World} {base g n cap : Nat} {rs : List Rx} (h : OwnRl w base (.slice (some ⟨g, 0, none⟩) n cap) rs) (i : Nat) (hi : i < rs.length) (j : Nat) (u : Value) (hj : (rlCell rs[i])[j]? = some u) : w.cell? ⟨g, i * 11 + j, none⟩ = some u := by
  have hc := World.ownsRow.cells h (g := g) rfl
  have add : ∀ j, Addr.add ⟨g, 0, none⟩ j = ⟨g, j, none⟩ := fun j => by by_cases hj : j = 0 <;> simp [Addr.add, hj]
  have hj11 : j < 11 := by
    rcases Nat.lt_or_ge j 11 with h | h
    · exact h
    · rw [List.getElem?_eq_none (by simpa [rlCell] using h)] at hj; cases hj
  have := hc _ _ ((rlCells_get rs i hi j hj11).trans hj)
  rw [add] at this; exact this
theorem OwnRl.rls {w : World} {base : Nat} {v : Value} {rs : List Rx} (h : OwnRl w base v rs) (hp : Pts w rs) : Rls w v rs := by
  rcases Nat.eq_zero_or_pos rs.length with h0 | h0
  · have hz : rs = [] := List.length_eq_zero_iff.1 h0
    subst hz
    obtain ⟨a, c, rfl⟩ := h.len
    exact .inl ⟨rfl, a, c, rfl⟩
  · obtain ⟨g, cap, rfl, _, h2, h3, h4⟩ := h.shape h0
    refine .inr ⟨g, 0, rs.length, cap, rfl, h3, h4, rfl, h2, fun i hi => ⟨?_, hp _ (List.getElem_mem hi)⟩⟩
    rw [Nat.zero_add]
    exact ⟨h.cell i hi 0 _ rfl, h.cell i hi 1 _ rfl, h.cell i hi 2 _ rfl, h.cell i hi 3 _ rfl, h.cell i hi 4 _ rfl, h.cell i hi 5 _ rfl, h.cell i hi 6 _ rfl, h.cell i hi 7 _ rfl, h.cell i hi 8 _ rfl, h.cell i hi 9 _ rfl, h.cell i hi 10 _ rfl⟩
theorem RlC.cell {w : World} {b o : Nat} {x : Rx} (h : RlC w b o x.1 x.2.1 x.2.2) (j : Nat) (u : Value) (hj : (rlCell x)[j]? = some u) : w.cell? ⟨b, o + j, none⟩ = some u := by
  obtain ⟨⟨c0, c1, c2, c3, c4, c5, c6, c7, c8, c9, c10⟩, _⟩ := h
  match j, hj with
  | 0, hj => simp [rlCell] at hj; subst hj; exact c0
  | 1, hj => simp [rlCell] at hj; subst hj; exact c1
  | 2, hj => simp [rlCell] at hj; subst hj; exact c2
  | 3, hj => simp [rlCell] at hj; subst hj; exact c3
  | 4, hj => simp [rlCell] at hj; subst hj; exact c4
  | 5, hj => simp [rlCell] at hj; subst hj; exact c5
  | 6, hj => simp [rlCell] at hj; subst hj; exact c6
  | 7, hj => simp [rlCell] at hj; subst hj; exact c7
  | 8, hj => simp [rlCell] at hj; subst hj; exact c8
  | 9, hj => simp [rlCell] at hj; subst hj; exact c9
  | 10, hj => simp [rlCell] at hj; subst hj; exact c10
  | n + 11, hj => rw [List.getElem?_eq_none (by simp [rlCell])] at hj; cases hj
/-- A rule that lies alone in a block, as a slice of one. -/
theorem Rls.box {w : World} {g : Nat} {x : Rx} {t : TypeId} (h : w.heap[g]? = some (.cells (rlCell x).toArray t (0, 0))) (hp : PtsOf w x) : Rls w (.slice (some ⟨g, 0, none⟩) 1 1) [x] := by
  have hlt : g < w.heap.size := (Array.getElem?_eq_some_iff.1 h).1
  refine .inr ⟨g, 0, 1, 1, rfl, Nat.le_refl _, by unfold maxLen; omega, rfl, hlt, fun i hi => ?_⟩
  match i, hi with
  | 0, _ =>
    refine ⟨⟨?_, ?_, ?_, ?_, ?_, ?_, ?_, ?_, ?_, ?_, ?_⟩, hp⟩ <;> (simp only [Nat.zero_mul, Nat.zero_add]; rw [cell_of_row w g _ _ _ _ h]; rfl)
/-- The same, as a row of the call's own. -/
theorem OwnRl.box {w : World} {g base : Nat} {x : Rx} (h : w.heap[g]? = some (.cells (rlCell x).toArray 34 (0, 0))) (hb : base ≤ g) : OwnRl w base (.slice (some ⟨g, 0, none⟩) 1 1) [x] := by
  refine ⟨?_, .inr ⟨g, 1, _, rfl, hb, h, Nat.le_refl _, by unfold maxLen; omega, ?_, ?_⟩⟩
  · rw [rlCells_len]
  · rfl
  · simp [rlCells, rlCell]
/-- 'append' of the rules of any slice onto a row of the call's own. -/
theorem wpList_append_rls {w : World} {ops : Array Oper} {rest : List Oper} {o : Oper} {a : Act} {Q : Exit → Act → World → Prop} (hgd : o.guard = none) (s x : Operand)
    (ho : o.op = .call { callee := .builtin .append, args := #[s, x], argTypes := #[22, 22] })
    (base : Nat) (v : Value) (ps : List Rx) (hs : a.eval s = v) (hown : OwnRl w base v ps) (vx : Value) (qs : List Rx) (hx : a.eval x = vx) (hsrc : Rls w vx qs)
    (hlen : ps.length + qs.length ≤ 1000000) (hbase : base ≤ w.heap.size)
    (h : ∀ v' w', OwnRl w' base v' (ps ++ qs) → w.grownBy w' v.ownBlock → (v'.ownBlock = v.ownBlock ∨ v'.ownBlock = some w.heap.size) → wpList Try.prog ops Q rest (a.put o.dst v') w') :
    wpList Try.prog ops Q (o :: rest) a w := by
  obtain ⟨i0, hi, hz0, hz1, hz2⟩ := info_parts Try.infoRl
  have hpts := hsrc.pts
  rcases hsrc with ⟨rfl, ax, cx, rfl⟩ | ⟨b, off, len, cap, rfl, h2, h3, h4, h5, h6⟩
  · refine wpList_plain hgd fun K hK => ?_
    obtain ⟨av, cv, hv, hle⟩ : ∃ av cv, v = .slice av ps.length cv ∧ ps.length ≤ cv := by
      rcases Nat.eq_zero_or_pos ps.length with h0 | h0
      · obtain ⟨av, cv, hv⟩ := hown.len
        exact ⟨av, cv, hv, by omega⟩
      · obtain ⟨g, cap, hv, _, _, h7, _⟩ := hown.shape h0
        exact ⟨_, cap, hv, h7⟩
    have hsr : Src Try.prog i0.size 22 (.slice ax 0 cx) 0 [] w := by
      rcases ax with _ | ax
      · exact Src.ofNil w Try.underlying22 cx
      · exact Src.ofSlice w Try.underlying22 ax 0 cx [] (by simp) (fun j u hj => by simp at hj) (fun u hu => by cases hu)
    have hr := run_append_nothing (P := Try.prog) w 22 22 o.type 34 i0 Try.underlying22 hi av ps.length cv hle _ hsr
    unfold Oper.wp execOp
    rw [hv] at hs
    simp only [ho, resolve, invoke, builtin, Sem.run_bind, Sem.run_pure, Result.andThen_ok, List.map_toArray, List.map_cons, List.map_nil, hs, hx, hr]
    rw [← hv]
    exact hK _ _ (h v w (by rw [List.append_nil]; exact hown) (World.grownBy.refl _ _) (.inl rfl))
  · refine wpList_append_at hgd s x 22 ho base 34 i0 _ 11 104 Try.underlying22 hi hz0 hz1 hz2 rfl (by decide) v ps.length (rlCells ps) hs hown ⟨b, off, none⟩ qs.length cap (rlCells qs) (by rw [hx, h4]) (rlCells_len qs) ?_ hpts.ones (by unfold maxLen; omega) (by omega) hbase ?_
    · intro j u hj
      have hjl : j < qs.length * 11 := by
        rcases Nat.lt_or_ge j (qs.length * 11) with h7 | h7
        · exact h7
        · rw [List.getElem?_eq_none (by rw [rlCells_len]; exact h7)] at hj; cases hj
      have hi' : j / 11 < qs.length := by omega
      have hk := rlCells_get qs (j / 11) hi' (j % 11) (by omega)
      rw [show j / 11 * 11 + j % 11 = j by omega, hj] at hk
      have := (h6 (j / 11) hi').cell (j % 11) u hk.symm
      have add : Addr.add ⟨b, off, none⟩ j = ⟨b, off + j, none⟩ := by by_cases hj : j = 0 <;> simp [Addr.add, hj]
      rw [add]
      rw [show off + j / 11 * 11 + j % 11 = off + j by omega] at this
      exact this
    · intro v' w' h1 h2 h3
      refine h v' w' ?_ h2 h3
      unfold OwnRl
      rw [List.length_append, rlCells_append]; exact h1
end Go.Proofs.Ytdellfmkmbabhaa
