/- Where Names stands (package rule): 'NmSt'; how its two rows grow. -/
import Derived.Test.YtjhofmmmlemfcaaDoorRegIn
import Derived.Test.YtjhofmmmlemfcaaDoorExP3
import Derived.Test.YtjhofmmmlemfcaaDoorRuleX2
import Derived.Test.YtjhofmmmlemfcaaDoorExN0
namespace Go.Proofs.YtjhofmmmlemfcaaDoor
open Go.RowKit
set_option linter.unusedVariables false
set_option maxRecDepth 10000

structure NmSt (w W : World) (S : Nat) (v u : Value) (ns ts : List ByteArray) : Prop where
  q0 : W.heap[S]? = some (.cells #[v] 22 (0, 0))
  q1 : W.heap[S + 1]? = some (.cells #[u] 22 (0, 0))
  q2 : W.heap[S + 2]? = some (.cells #[.nilIface] 26 (0, 0))
  o1 : OwnS W (S + 4) v ns
  o2 : OwnS W (S + 4) u ts
  ap : ∀ k, v.ownBlock = some k → u.ownBlock ≠ some k
  bel : Below S w W
  sz : S + 4 ≤ W.heap.size
theorem OwnS.grown {W W' : World} {row : Option Nat} {B b : Nat} {v : Value} {ss : List ByteArray} (h : OwnS W b v ss) (hg : W.grownBy W' row) (hr : ∀ r, row = some r → B ≤ r ∧ ∃ o : Obj, W.heap[r]? = some o ∧ o.isCells = false) : OwnS W' b v ss := by
  obtain ⟨h1, h2⟩ := h
  refine ⟨h1, ?_⟩
  rcases h2 with h2 | ⟨g, cap, cur, hv, hbg, hh, rest⟩
  · exact .inl h2
  · exact .inr ⟨g, cap, cur, hv, hbg, cells_grown hg hr hh, rest⟩
theorem NmSt.step {w W W' : World} {S : Nat} {v u : Value} {ns ts : List ByteArray} (h : NmSt w W S v u ns ts) (hb : Below W.heap.size W W') : NmSt w W' S v u ns ts := by
  have k : ∀ j, j < S + 4 → W'.heap[j]? = W.heap[j]? := fun j hj => hb.block j (by have := h.sz; omega)
  exact ⟨(k _ (by omega)).trans h.q0, (k _ (by omega)).trans h.q1, (k _ (by omega)).trans h.q2, h.o1.below hb, h.o2.below hb, h.ap, h.bel.trans (hb.mono (by have := h.sz; omega)), Nat.le_trans h.sz hb.size⟩
theorem NmSt.free {w W W' : World} {S : Nat} {v u : Value} {ns ts : List ByteArray} (h : NmSt w W S v u ns ts) (ho : Only (S + 3) W W') : NmSt w W' S v u ns ts :=
  ⟨(ho.block _ (by omega)).trans h.q0, (ho.block _ (by omega)).trans h.q1, (ho.block _ (by omega)).trans h.q2, h.o1.blk (fun k hk => ho.block k (by have := (h.o1.lt k hk).1; omega)), h.o2.blk (fun k hk => ho.block k (by have := (h.o2.lt k hk).1; omega)), h.ap, ho.below (by omega) h.bel, by rw [ho.size]; exact h.sz⟩
theorem NmSt.turn {w W W' : World} {S : Nat} {v u : Value} {ns ts : List ByteArray} {row : Option Nat} (h : NmSt w W S v u ns ts) (hg : W.grownBy W' row) (hr : ∀ r, row = some r → S + 4 ≤ r ∧ ∃ o : Obj, W.heap[r]? = some o ∧ o.isCells = false) : NmSt w W' S v u ns ts :=
  ⟨cells_grown hg hr h.q0, cells_grown hg hr h.q1, cells_grown hg hr h.q2, h.o1.grown hg hr, h.o2.grown hg hr, h.ap, h.bel.trans (grown_below hg (by have := h.sz; omega) (fun k hk => by have := (hr k hk).1; omega)), Nat.le_trans h.sz hg.size⟩
structure NmEnd (w W : World) (S : Nat) (E : Value) : Prop where
  q0 : W.heap[S]? = some (.cells #[.slice none 0 0] 22 (0, 0))
  q1 : W.heap[S + 1]? = some (.cells #[.slice none 0 0] 22 (0, 0))
  q2 : W.heap[S + 2]? = some (.cells #[E] 26 (0, 0))
  bel : Below S w W
  sz : S + 4 ≤ W.heap.size
theorem NmEnd.free {w W W' : World} {S : Nat} {E : Value} (h : NmEnd w W S E) (ho : Only (S + 3) W W') : NmEnd w W' S E :=
  ⟨(ho.block _ (by omega)).trans h.q0, (ho.block _ (by omega)).trans h.q1, (ho.block _ (by omega)).trans h.q2, ho.below (by omega) h.bel, by rw [ho.size]; exact h.sz⟩
theorem NmEnd.turn {w W W' : World} {S : Nat} {E : Value} {row : Option Nat} (h : NmEnd w W S E) (hg : W.grownBy W' row) (hr : ∀ r, row = some r → S + 4 ≤ r ∧ ∃ o : Obj, W.heap[r]? = some o ∧ o.isCells = false) : NmEnd w W' S E :=
  ⟨cells_grown hg hr h.q0, cells_grown hg hr h.q1, cells_grown hg hr h.q2, h.bel.trans (grown_below hg (by have := h.sz; omega) (fun k hk => by have := (hr k hk).1; omega)), Nat.le_trans h.sz hg.size⟩
/-! ### two rows that grow, one beside the other -/
structure NmMd (w W X : World) (S : Nat) (v u v1 u1 : Value) (n1 t1 : List ByteArray) : Prop where
  q0 : X.heap[S]? = some (.cells #[v] 22 (0, 0))
  q1 : X.heap[S + 1]? = some (.cells #[u] 22 (0, 0))
  q2 : X.heap[S + 2]? = some (.cells #[.nilIface] 26 (0, 0))
  o1 : OwnS X (S + 4) v1 n1
  o2 : OwnS X (S + 4) u1 t1
  ap : ∀ k, v1.ownBlock = some k → u1.ownBlock ≠ some k
  bel : Below S w X
  sz : S + 4 ≤ X.heap.size
  ko : KeepsOthers W X
  lf : Left (S + 3) W X
def NmBl (X : World) (g : Nat) (t : ByteArray) (v1 u1 : Value) : Prop := X.heap[g]? = some (.cells #[.string t] 9 (0, 0)) ∧ v1.ownBlock ≠ some g ∧ u1.ownBlock ≠ some g
theorem NmMd.of {w W : World} {S : Nat} {v u : Value} {ns ts : List ByteArray} (h : NmSt w W S v u ns ts) : NmMd w W W.drew S v u v u ns ts :=
  ⟨h.q0, h.q1, h.q2, h.o1.below (_root_.Go.below_drewN (Below.refl _ _) 1), h.o2.below (_root_.Go.below_drewN (Below.refl _ _) 1), h.ap, _root_.Go.below_drewN h.bel 1, h.sz, KeepsOthers.drew _, rfl⟩
section
variable {w W X Y : World} {S : Nat} {v u v1 u1 v2 : Value} {n1 t1 n2 : List ByteArray}
theorem NmMd.build (h : NmMd w W X S v u v1 u1 n1 t1) (o : Obj) : NmMd w W (X.alloc o) S v u v1 u1 n1 t1 := by
  have ha : Below X.heap.size X (X.alloc o) := (Below.refl _ _).alloc (Nat.le_refl _) _
  have k : ∀ j, j < S + 4 → (X.alloc o).heap[j]? = X.heap[j]? := fun j hj => ha.block j (by have := h.sz; omega)
  exact ⟨(k _ (by omega)).trans h.q0, (k _ (by omega)).trans h.q1, (k _ (by omega)).trans h.q2, h.o1.below ha, h.o2.below ha, h.ap, h.bel.trans (ha.mono (by have := h.sz; omega)), Nat.le_trans h.sz ha.size, h.ko.trans (KeepsOthers.alloc _ _), (k _ (by omega)).trans h.lf⟩
theorem NmMd.bl (h : NmMd w W X S v u v1 u1 n1 t1) (t : ByteArray) : NmBl (X.alloc (.cells #[.string t] 9)) X.heap.size t v1 u1 :=
  ⟨heap_alloc_new X _, fun e => by have := (h.o1.lt _ e).2; omega, fun e => by have := (h.o2.lt _ e).2; omega⟩
theorem NmBl.alloc {g : Nat} {t : ByteArray} (h : NmBl X g t v1 u1) (o : Obj) : NmBl (X.alloc o) g t v1 u1 := by
  have ha : Below X.heap.size X (X.alloc o) := (Below.refl _ _).alloc (Nat.le_refl _) _
  exact ⟨(ha.block g (Array.getElem?_eq_some_iff.1 h.1).1).trans h.1, h.2⟩
theorem NmMd.appA (h : NmMd w W X S v u v1 u1 n1 t1) (own : OwnS Y (S + 4) v2 n2) (gr : X.grownBy Y v1.ownBlock) (loc : v2.ownBlock = v1.ownBlock ∨ v2.ownBlock = some X.heap.size) : NmMd w W Y S v u v2 u1 n2 t1 := by
  have blo : ∀ j, j < S + 4 → Y.heap[j]? = X.heap[j]? := fun j hj => gr.block j (by have := h.sz; omega) (fun e => by have := (h.o1.lt j e.symm).1; omega)
  have ko : KeepsOthers X Y := KeepsOthers.of_grownBy gr (fun j ob e hj => by
    obtain ⟨_, h2⟩ := h.o1
    rcases h2 with ⟨rfl, _⟩ | ⟨g, cap, cur, rfl, _, hh, _⟩
    · cases e
    · cases e; rw [hh] at hj; cases hj; rfl)
  refine ⟨(blo _ (by omega)).trans h.q0, (blo _ (by omega)).trans h.q1, (blo _ (by omega)).trans h.q2, own, h.o2.blk (fun k hk => gr.block k (h.o2.lt k hk).2 (fun e => h.ap k e.symm hk)), ?_, h.bel.trans (grown_below gr (by have := h.sz; omega) (fun k hk => by have := (h.o1.lt k hk).1; omega)), Nat.le_trans h.sz gr.size, h.ko.trans ko, (blo _ (by omega)).trans h.lf⟩
  intro k hk hu
  rcases loc with e | e
  · rw [e] at hk; exact h.ap k hk hu
  · rw [e] at hk; cases hk
    have := (h.o2.lt _ hu).2; omega
theorem NmMd.appB (h : NmMd w W X S v u v1 u1 n1 t1) (own : OwnS Y (S + 4) v2 n2) (gr : X.grownBy Y u1.ownBlock) (loc : v2.ownBlock = u1.ownBlock ∨ v2.ownBlock = some X.heap.size) : NmMd w W Y S v u v1 v2 n1 n2 := by
  have blo : ∀ j, j < S + 4 → Y.heap[j]? = X.heap[j]? := fun j hj => gr.block j (by have := h.sz; omega) (fun e => by have := (h.o2.lt j e.symm).1; omega)
  have ko : KeepsOthers X Y := KeepsOthers.of_grownBy gr (fun j ob e hj => by
    obtain ⟨_, h2⟩ := h.o2
    rcases h2 with ⟨rfl, _⟩ | ⟨g, cap, cur, rfl, _, hh, _⟩
    · cases e
    · cases e; rw [hh] at hj; cases hj; rfl)
  refine ⟨(blo _ (by omega)).trans h.q0, (blo _ (by omega)).trans h.q1, (blo _ (by omega)).trans h.q2, h.o1.blk (fun k hk => gr.block k (h.o1.lt k hk).2 (fun e => h.ap k hk e.symm)), own, ?_, h.bel.trans (grown_below gr (by have := h.sz; omega) (fun k hk => by have := (h.o2.lt k hk).1; omega)), Nat.le_trans h.sz gr.size, h.ko.trans ko, (blo _ (by omega)).trans h.lf⟩
  intro k hk hu
  rcases loc with e | e
  · rw [e] at hu; exact h.ap k hk hu
  · rw [e] at hu; cases hu
    have := (h.o1.lt _ hk).2; omega
theorem NmBl.appA {g : Nat} {t : ByteArray} (h : NmBl X g t v1 u1) (gr : X.grownBy Y v1.ownBlock) (loc : v2.ownBlock = v1.ownBlock ∨ v2.ownBlock = some X.heap.size) : NmBl Y g t v2 u1 := by
  have hlt := (Array.getElem?_eq_some_iff.1 h.1).1
  refine ⟨(gr.block g hlt (fun e => h.2.1 e.symm)).trans h.1, fun e => ?_, h.2.2⟩
  rcases loc with e2 | e2
  · rw [e2] at e; exact h.2.1 e
  · rw [e2] at e; cases e; omega
theorem NmMd.cells (h : NmMd w W X S v u v1 u1 n1 t1) : X.cell? ⟨S, 0, none⟩ = some v ∧ X.cell? ⟨S + 1, 0, none⟩ = some u := ⟨(cell1 h.q0).1, (cell1 h.q1).1⟩
theorem NmMd.fin (h : NmMd w W X S v u v1 u1 n1 t1) : NmSt w ((X.setCell ⟨S, 0, none⟩ v1).setCell ⟨S + 1, 0, none⟩ u1) S v1 u1 n1 t1 ∧ KeepsOthers W ((X.setCell ⟨S, 0, none⟩ v1).setCell ⟨S + 1, 0, none⟩ u1) ∧ Left (S + 3) W ((X.setCell ⟨S, 0, none⟩ v1).setCell ⟨S + 1, 0, none⟩ u1) := by
  have a := (Only.refl S X).setCell 0 v1
  have e0 := heap_setCell_same X S 0 _ _ v1 h.q0
  have ka := KeepsOthers.setCell X ⟨S, 0, none⟩ v1
  generalize X.setCell ⟨S, 0, none⟩ v1 = A at a e0 ka ⊢
  have e1 := (a.block (S + 1) (by omega)).trans h.q1
  have b := (Only.refl (S + 1) A).setCell 0 u1
  have e2 := heap_setCell_same A (S + 1) 0 _ _ u1 e1
  have kb := KeepsOthers.setCell A ⟨S + 1, 0, none⟩ u1
  generalize A.setCell ⟨S + 1, 0, none⟩ u1 = B at b e2 kb ⊢
  have hb : ∀ k, k ≠ S → k ≠ S + 1 → B.heap[k]? = X.heap[k]? := fun k h0 h1 => (b.block k h1).trans (a.block k h0)
  refine ⟨⟨(b.block _ (by omega)).trans e0, e2, (hb _ (by omega) (by omega)).trans h.q2, h.o1.blk (fun k hk => hb k (by have := (h.o1.lt k hk).1; omega) (by have := (h.o1.lt k hk).1; omega)), h.o2.blk (fun k hk => hb k (by have := (h.o2.lt k hk).1; omega) (by have := (h.o2.lt k hk).1; omega)), h.ap, b.below (by omega) (a.below (Nat.le_refl _) h.bel), by rw [b.size, a.size]; exact h.sz⟩, (h.ko.trans ka).trans kb, (hb _ (by omega) (by omega)).trans h.lf⟩
end
/-- 'append' of one text, by itself. -/
theorem wp_append_str {w : World} {o : Oper} {a : Act} {K : Act → World → Prop} {Q : Exit → Act → World → Prop} (s x : Operand)
    (ho : o.op = .call { callee := .builtin .append, args := #[s, x], argTypes := #[22, 22] })
    (base : Nat) (v : Value) (ss : List ByteArray) (hs : a.eval s = v) (hown : OwnS w base v ss) (t : ByteArray) (g : Nat) (hx : a.eval x = .slice (some ⟨g, 0, none⟩) 1 1) (hg : w.heap[g]? = some (.cells #[.string t] 9 (0, 0)))
    (hlen : ss.length ≤ 4398046511104) (hbase : base ≤ w.heap.size)
    (h : ∀ v' w', OwnS w' base v' (ss ++ [t]) → w.grownBy w' v.ownBlock → (v'.ownBlock = v.ownBlock ∨ v'.ownBlock = some w.heap.size) → K (a.put o.dst v') w') : o.wp Tryd.prog a w K Q := by
  obtain ⟨i0, hi, hz0, hz1, hz2⟩ := info_parts Tryd.infoStr
  have hn : ∀ (j : Nat) (y : Value), ([Value.string t] : List Value)[j]? = some y → w.cell? ((⟨g, 0, none⟩ : Addr).add j) = some y := by
    intro j y hj
    match j, hj with
    | 0, hj =>
      simp at hj; subst hj
      simp only [Addr.add]
      exact (cell1 hg).1
  have hone : ∀ y ∈ ([Value.string t] : List Value), y.oneCell' = true := fun y hy => by simp at hy; subst hy; rfl
  obtain ⟨v', w', hr, h2, h3, _⟩ := run_append_own (P := Tryd.prog) w base 22 o.type 9 i0 (.string ⟨#[]⟩) 1 16 Tryd.underlying22 hi hz0 hz1 hz2 rfl (by decide) v ss.length (ss.map Value.string) hown ⟨g, 0, none⟩ 1 1 [.string t] rfl hn hone (by unfold maxLen; omega) (by omega) hbase
  have h4 := run_append_where (P := Tryd.prog) w base 22 o.type 9 i0 (.string ⟨#[]⟩) Tryd.underlying22 hi hz0 v ss.length (ss.map Value.string) (by rw [hz1]; exact hown) ⟨g, 0, none⟩ 1 1 [.string t] (by rw [hz1]; rfl) hn hone (by unfold maxLen; omega) (by rw [hz2]; omega) hr
  have h5 := h v' w' (by unfold OwnS; rw [List.length_append, List.map_append]; exact h2) h3 h4
  unfold Oper.wp execOp
  simp only [ho, resolve, invoke, builtin, Sem.run_bind, Sem.run_pure, Result.andThen_ok, List.map_toArray, List.map_cons, List.map_nil, hs, hx, hr]
  exact h5
end Go.Proofs.YtjhofmmmlemfcaaDoor
