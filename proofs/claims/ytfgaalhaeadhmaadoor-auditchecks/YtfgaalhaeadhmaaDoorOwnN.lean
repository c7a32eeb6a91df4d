/- Rows of the call's own of things that are n cells each ('OwnN'): where they lie, what append and a store leave of them. Conditions: lengths within what the model lets grow. -/
import Derived.Test.YtfgaalhaeadhmaaDoorGrow
import Derived.Deep.AppendLies
namespace Go.Proofs.YtfgaalhaeadhmaaDoor
open Go.RowKit
set_option linter.unusedVariables false

section
variable {α : Type} {e : TypeId} {n : Nat} {enc : α → List Value}
/-- The value v is a slice of the call's own, from block 'base' on, that holds xs, n cells each. -/
def OwnN (e : TypeId) (n : Nat) (enc : α → List Value) (w : World) (base : Nat) (v : Value) (xs : List α) : Prop := w.ownsRow base e n v xs.length (xs.flatMap enc)
theorem encs_len (hn : ∀ x, (enc x).length = n) (xs : List α) : (xs.flatMap enc).length = xs.length * n := by
  induction xs with
  | nil => simp
  | cons p r ih => rw [List.flatMap_cons, List.length_append, ih, hn, List.length_cons, Nat.add_mul]; omega
theorem encs_get (hn : ∀ x, (enc x).length = n) : ∀ (xs : List α) (i : Nat) (h : i < xs.length) (j : Nat), j < n → (xs.flatMap enc)[i * n + j]? = (enc xs[i])[j]?
  | [], i, h, j, hj => by simp at h
  | x :: r, 0, h, j, hj => by
      rw [List.flatMap_cons, Nat.zero_mul, Nat.zero_add, List.getElem?_append_left (by rw [hn]; exact hj)]; rfl
  | x :: r, i + 1, h, j, hj => by
      have ih := encs_get hn r i (by simpa using h) j hj
      have e : (i + 1) * n + j - n = i * n + j := by rw [Nat.add_mul]; omega
      rw [List.flatMap_cons, List.getElem?_append_right (by rw [hn, Nat.add_mul]; omega), hn, e, ih]
      rfl
theorem encs_set (hn : ∀ x, (enc x).length = n) : ∀ (xs : List α) (i : Nat) (h : i < xs.length) (j : Nat) (u : Value) (y : α), j < n → (enc xs[i]).set j u = enc y → (xs.flatMap enc).set (i * n + j) u = (xs.set i y).flatMap enc
  | [], i, h, j, u, y, hj, hy => by simp at h
  | x :: r, 0, h, j, u, y, hj, hy => by
      rw [List.flatMap_cons, Nat.zero_mul, Nat.zero_add, List.set_append_left _ _ (by rw [hn]; exact hj)]
      simp only [List.getElem_cons_zero] at hy
      rw [hy]; rfl
  | x :: r, i + 1, h, j, u, y, hj, hy => by
      have ih := encs_set hn r i (by simpa using h) j u y hj (by simpa using hy)
      have e : (i + 1) * n + j - n = i * n + j := by rw [Nat.add_mul]; omega
      rw [List.flatMap_cons, List.set_append_right _ _ (by rw [hn, Nat.add_mul]; omega), hn, e, ih]
      rfl
theorem OwnN.nil (w : World) (base : Nat) : OwnN e n enc w base (.slice none 0 0) [] := World.ownsRow_nil _ _ _ _
variable {w w' : World} {base : Nat} {v : Value} {xs : List α}
theorem OwnN.alloc (h : OwnN e n enc w base v xs) (o : Obj) : OwnN e n enc (w.alloc o) base v xs := World.ownsRow.alloc h o
theorem OwnN.block (h : OwnN e n enc w base v xs) : ∀ k, v.ownBlock = some k → base ≤ k ∧ k < w.heap.size := fun k hk => World.ownsRow.lt h k hk
theorem OwnN.blk (h : OwnN e n enc w base v xs) (hb : ∀ k, v.ownBlock = some k → w'.heap[k]? = w.heap[k]?) : OwnN e n enc w' base v xs := by
  obtain ⟨h1, h2⟩ := h
  refine ⟨h1, ?_⟩
  rcases h2 with h2 | ⟨g, cap, cur, hv, hbg, hh, rest⟩
  · exact .inl h2
  · refine .inr ⟨g, cap, cur, hv, hbg, ?_, rest⟩
    rw [hb g (by rw [hv]; rfl)]; exact hh
theorem OwnN.below (h : OwnN e n enc w base v xs) (hb : Below w.heap.size w w') : OwnN e n enc w' base v xs := h.blk (fun k hk => hb.block k (h.block k hk).2)
theorem OwnN.rebase {b' : Nat} (h : OwnN e n enc w base v xs) (hb : b' ≤ base) : OwnN e n enc w b' v xs := by
  obtain ⟨h1, h2⟩ := h
  refine ⟨h1, ?_⟩
  rcases h2 with h2 | ⟨g, cap, cur, hv, hbg, rest⟩
  · exact .inl h2
  · exact .inr ⟨g, cap, cur, hv, Nat.le_trans hb hbg, rest⟩
theorem OwnN.shape (h : OwnN e n enc w base v xs) (hz : 0 < xs.length) :
    ∃ g cap, v = .slice (some ⟨g, 0, none⟩) xs.length cap ∧ base ≤ g ∧ g < w.heap.size ∧ xs.length ≤ cap ∧ cap ≤ maxLen := by
  obtain ⟨_, h2⟩ := h
  rcases h2 with ⟨_, h0⟩ | ⟨g, cap, cur, rfl, hb, hh, hl, hm, _, _⟩
  · omega
  · refine ⟨g, cap, rfl, hb, ?_, hl, hm⟩
    rcases Nat.lt_or_ge g w.heap.size with h1 | h1
    · exact h1
    · simp [Array.getElem?_eq_none h1] at hh
theorem OwnN.len (h : OwnN e n enc w base v xs) : ∃ a c, v = .slice a xs.length c := by
  obtain ⟨_, h2⟩ := h
  rcases h2 with ⟨rfl, h0⟩ | ⟨g, cap, cur, rfl, _⟩
  · exact ⟨none, 0, by rw [h0]⟩
  · exact ⟨_, _, rfl⟩
theorem OwnN.cell {g m cap : Nat} (h : OwnN e n enc w base (.slice (some ⟨g, 0, none⟩) m cap) xs) (hn : ∀ x, (enc x).length = n) (i : Nat) (hi : i < xs.length) (j : Nat) (u : Value) (hj : (enc xs[i])[j]? = some u) : w.cell? ⟨g, i * n + j, none⟩ = some u := by
  have hc := World.ownsRow.cells h (g := g) rfl
  have add : ∀ j, Addr.add ⟨g, 0, none⟩ j = ⟨g, j, none⟩ := fun j => by by_cases hj : j = 0 <;> simp [Addr.add, hj]
  have hjn : j < n := by
    rcases Nat.lt_or_ge j n with h | h
    · exact h
    · rw [List.getElem?_eq_none (by rw [hn]; exact h)] at hj; cases hj
  have := hc _ _ ((encs_get hn xs i hi j hjn).trans hj)
  rw [add] at this; exact this
theorem OwnN.free {g m cap : Nat} (h : OwnN e n enc w base (.slice (some ⟨g, 0, none⟩) m cap) xs) (hm : m = xs.length) (j : Nat) : w.frozen? ⟨g, j, none⟩ = false := by
  subst hm; exact World.ownsRow.frozenAt h j
/-- A store into the row. -/
theorem OwnN.store {g m cap : Nat} (h : OwnN e n enc w base (.slice (some ⟨g, 0, none⟩) m cap) xs) (hm : m = xs.length) (hn : ∀ x, (enc x).length = n) (i : Nat) (hi : i < xs.length) (j : Nat) (u : Value) (y : α) (hj : j < n) (hy : (enc xs[i]).set j u = enc y) :
    OwnN e n enc (w.setCell ⟨g, i * n + j, none⟩ u) base (.slice (some ⟨g, 0, none⟩) m cap) (xs.set i y) := by
  subst hm
  have := (World.ownsRow.stored h (i * n + j) u).1
  rw [encs_set hn xs i hi j u y hj hy] at this
  unfold OwnN
  rw [List.length_set]; exact this
theorem OwnN.other {g off : Nat} (h : OwnN e n enc w base v xs) (hne : v.ownBlock ≠ some g) (u : Value) : OwnN e n enc (w.setCell ⟨g, off, none⟩ u) base v xs := ownsRow_setCell_other h hne u
/-- 'append' of one, out of a block of its own. -/
theorem wpList_append_own1 {P : Program} {ops : Array Oper} {rest : List Oper} {o : Oper} {a : Act} {Q : Exit → Act → World → Prop} (hgd : o.guard = none) (s x : Operand) (t : TypeId)
    (ho : o.op = .call { callee := .builtin .append, args := #[s, x], argTypes := #[t, t] })
    (i : TypeInfo) (z : Value) (bytes : Nat) (ht : P.underlying t = some (.slice e)) (hi : P.info? e = some i) (hz : i.zero = some z)
    (hsize : i.size = n) (hby : i.bytes = bytes) (hzs : z.cells.size = n) (hsz : 0 < n) (hn : ∀ x, (enc x).length = n)
    (hs : a.eval s = v) (hown : OwnN e n enc w base v xs) (y : α) (ad : Addr) (hx : a.eval x = .slice (some ad) 1 1) (hnews : ∀ j u, (enc y)[j]? = some u → w.cell? (ad.add j) = some u) (h1 : ∀ u ∈ enc y, u.oneCell' = true)
    (h63 : xs.length + 1 ≤ maxLen) (hbytes : (xs.length + 1) * bytes ≤ 140737488355328) (hbase : base ≤ w.heap.size)
    (h : ∀ v' w', OwnN e n enc w' base v' (xs ++ [y]) → w.grownBy w' v.ownBlock → (v'.ownBlock = v.ownBlock ∨ v'.ownBlock = some w.heap.size) → wpList P ops Q rest (a.put o.dst v') w') : wpList P ops Q (o :: rest) a w := by
  refine wpList_append_at hgd s x t ho base e i z n bytes ht hi hz hsize hby hzs hsz v xs.length (xs.flatMap enc) hs hown ad 1 1 (enc y) hx (by rw [hn]; omega) hnews h1 h63 hbytes hbase ?_
  intro v' w' h2 h3 h4
  refine h v' w' ?_ h3 h4
  unfold OwnN
  rw [List.length_append, List.flatMap_append]
  simpa using h2
end
end Go.Proofs.YtfgaalhaeadhmaaDoor
