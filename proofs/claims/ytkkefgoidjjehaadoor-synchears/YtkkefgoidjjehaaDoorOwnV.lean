/- A look at a row of things that are n cells each ('ViewN'): a part of a row of the call's own, and what append of it leaves. Conditions: lengths within what the model lets grow. -/
import Derived.Test.YtkkefgoidjjehaaDoorOwnN
import Derived.Deep.Upon
namespace Go.Proofs.YtkkefgoidjjehaaDoor
open Go.RowKit
set_option linter.unusedVariables false

section
variable {α : Type} {e : TypeId} {n : Nat} {enc : α → List Value} {w : World} {base : Nat} {v : Value} {xs : List α}
/-- The value vx is a slice that holds the things qs, wherever it lies. -/
def ViewN (enc : α → List Value) (w : World) (vx : Value) (qs : List α) : Prop :=
  (qs = [] ∧ ∃ a c, vx = .slice a 0 c) ∨ ∃ b off cap, vx = .slice (some ⟨b, off, none⟩) qs.length cap ∧ ∀ j u, (qs.flatMap enc)[j]? = some u → w.cell? ⟨b, off + j, none⟩ = some u
theorem OwnN.view (h : OwnN e n enc w base v xs) : ViewN enc w v xs := by
  obtain ⟨h1, h2⟩ := h
  rcases h2 with ⟨rfl, h0⟩ | ⟨g, cap, cur, rfl, hb, hg, hr⟩
  · exact .inl ⟨List.eq_nil_of_length_eq_zero h0, _, _, rfl⟩
  · refine .inr ⟨g, 0, cap, rfl, fun j u hj => ?_⟩
    have hc := World.ownsRow.cells (w := w) ⟨h1, .inr ⟨g, cap, cur, rfl, hb, hg, hr⟩⟩ (g := g) rfl j u hj
    have add : Addr.add ⟨g, 0, none⟩ j = ⟨g, 0 + j, none⟩ := by by_cases hj : j = 0 <;> simp [Addr.add, hj]
    rw [add] at hc; exact hc
theorem encs_take (hn : ∀ x, (enc x).length = n) (xs : List α) (k : Nat) : (xs.take k).flatMap enc = (xs.flatMap enc).take (k * n) := by
  induction xs generalizing k with
  | nil => simp
  | cons a r ih =>
    cases k with
    | zero => simp
    | succ k =>
      rw [List.take_succ_cons, List.flatMap_cons, List.flatMap_cons, ih, List.take_append, hn]
      have e1 : (enc a).take ((k + 1) * n) = enc a := List.take_of_length_le (by rw [hn, Nat.add_mul]; omega)
      rw [e1, show (k + 1) * n - n = k * n by rw [Nat.add_mul]; omega]
theorem encs_drop (hn : ∀ x, (enc x).length = n) (xs : List α) (k : Nat) : (xs.drop k).flatMap enc = (xs.flatMap enc).drop (k * n) := by
  induction xs generalizing k with
  | nil => simp
  | cons a r ih =>
    cases k with
    | zero => simp
    | succ k =>
      rw [List.drop_succ_cons, List.flatMap_cons, ih, List.drop_append, hn]
      have e1 : (enc a).drop ((k + 1) * n) = [] := List.drop_eq_nil_of_le (by rw [hn, Nat.add_mul]; omega)
      rw [e1, show (k + 1) * n - n = k * n by rw [Nat.add_mul]; omega, List.nil_append]
/-- v[:k] -/
theorem ViewN.front {b off cap m : Nat} (hn : ∀ x, (enc x).length = n) (h : ViewN enc w (.slice (some ⟨b, off, none⟩) m cap) xs) (k : Nat) (hk : k ≤ xs.length) : ViewN enc w (.slice (some ⟨b, off, none⟩) k cap) (xs.take k) := by
  rcases h with ⟨rfl, a, c, he⟩ | ⟨b', off', cap', he, hc⟩
  · have : k = 0 := by simpa using hk
    subst this
    exact .inl ⟨by simp, _, _, rfl⟩
  · simp only [Value.slice.injEq, Option.some.injEq, Addr.mk.injEq, and_true] at he
    obtain ⟨⟨rfl, rfl⟩, _, _⟩ := he
    refine .inr ⟨b, off, cap, by rw [List.length_take, Nat.min_eq_left hk], fun j u hj => hc j u ?_⟩
    rw [encs_take hn, List.getElem?_take] at hj
    split at hj
    · exact hj
    · cases hj
/-- v[k:] -/
theorem ViewN.back {b off cap m : Nat} (hn : ∀ x, (enc x).length = n) (h : ViewN enc w (.slice (some ⟨b, off, none⟩) m cap) xs) (k : Nat) (hk : k ≤ xs.length) (hm : m = xs.length) {ad : Option Addr} (c' : Nat) (ha : ad = some ⟨b, off + k * n, none⟩ ∨ k = xs.length) : ViewN enc w (.slice ad (m - k) c') (xs.drop k) := by
  subst hm
  by_cases hx : k = xs.length
  · subst hx
    exact .inl ⟨by simp, ad, c', by simp⟩
  · rcases ha with rfl | ha
    · rcases h with ⟨rfl, a, c, he⟩ | ⟨b', off', cap', he, hc⟩
      · simp at hk; simp [hk] at hx
      · simp only [Value.slice.injEq, Option.some.injEq, Addr.mk.injEq, and_true] at he
        obtain ⟨⟨rfl, rfl⟩, _⟩ := he
        refine .inr ⟨b, off + k * n, c', by rw [List.length_drop], fun j u hj => ?_⟩
        rw [encs_drop hn, List.getElem?_drop] at hj
        have := hc _ u hj
        rw [show off + (k * n + j) = off + k * n + j by omega] at this
        exact this
    · exact absurd ha hx
/-- 'append' of what a look shows. -/
theorem wpList_append_view {P : Program} {ops : Array Oper} {rest : List Oper} {o : Oper} {a : Act} {Q : Exit → Act → World → Prop} (hgd : o.guard = none) (s x : Operand) (t : TypeId)
    (ho : o.op = .call { callee := .builtin .append, args := #[s, x], argTypes := #[t, t] })
    (i : TypeInfo) (z : Value) (bytes : Nat) (ht : P.underlying t = some (.slice e)) (hi : P.info? e = some i) (hz : i.zero = some z)
    (hsize : i.size = n) (hby : i.bytes = bytes) (hzs : z.cells.size = n) (hsz : 0 < n) (hn : ∀ x, (enc x).length = n) (h1 : ∀ x, ∀ u ∈ enc x, u.oneCell' = true)
    (hs : a.eval s = v) (hown : OwnN e n enc w base v xs) (vx : Value) (qs : List α) (hx : a.eval x = vx) (hsrc : ViewN enc w vx qs)
    (h63 : xs.length + qs.length ≤ maxLen) (hbytes : (xs.length + qs.length) * bytes ≤ 140737488355328) (hbase : base ≤ w.heap.size)
    (h : ∀ v' w', OwnN e n enc w' base v' (xs ++ qs) → w.grownBy w' v.ownBlock → wpList P ops Q rest (a.put o.dst v') w') : wpList P ops Q (o :: rest) a w := by
  rcases hsrc with ⟨rfl, ax, cx, rfl⟩ | ⟨b, off, cap, rfl, hc⟩
  · refine wpList_plain hgd fun K hK => ?_
    obtain ⟨av, cv, hv, hle⟩ : ∃ av cv, v = .slice av xs.length cv ∧ xs.length ≤ cv := by
      rcases Nat.eq_zero_or_pos xs.length with h0 | h0
      · obtain ⟨av, cv, hv⟩ := OwnN.len hown
        exact ⟨av, cv, hv, by omega⟩
      · obtain ⟨g, cap, hv, _, _, h7, _⟩ := OwnN.shape hown h0
        exact ⟨_, cap, hv, h7⟩
    have hsr : Src P i.size t (.slice ax 0 cx) 0 [] w := by
      rcases ax with _ | ax
      · exact Src.ofNil w ht cx
      · exact Src.ofSlice w ht ax 0 cx [] (by simp) (fun j u hj => by simp at hj) (fun u hu => by cases hu)
    have hr := run_append_nothing (P := P) w t t o.type e i ht hi av xs.length cv hle _ hsr
    unfold Oper.wp execOp
    rw [hv] at hs
    simp only [ho, resolve, invoke, builtin, Sem.run_bind, Sem.run_pure, Result.andThen_ok, List.map_toArray, List.map_cons, List.map_nil, hs, hx, hr]
    rw [← hv]
    exact hK _ _ (h v w (by rw [List.append_nil]; exact hown) (World.grownBy.refl _ _))
  · refine wpList_append_at hgd s x t ho base e i z n bytes ht hi hz hsize hby hzs hsz v xs.length (xs.flatMap enc) hs hown ⟨b, off, none⟩ qs.length cap (qs.flatMap enc) hx (encs_len hn qs) ?_ ?_ h63 hbytes hbase ?_
    · intro j u hj
      have add : Addr.add ⟨b, off, none⟩ j = ⟨b, off + j, none⟩ := by by_cases hj : j = 0 <;> simp [Addr.add, hj]
      rw [add]; exact hc j u hj
    · intro u hu
      obtain ⟨q, _, hq⟩ := List.mem_flatMap.1 hu
      exact h1 q u hq
    · intro v' w' h4 h2 _
      refine h v' w' ?_ h2
      unfold OwnN
      rw [List.length_append, List.flatMap_append]; exact h4
end
end Go.Proofs.YtkkefgoidjjehaaDoor
