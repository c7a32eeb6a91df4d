/- Where 'lay' stands (package plan). -/
import Derived.Test.YtdellfmkmbabhaaPlanLay
namespace Go.Proofs.Ytdellfmkmbabhaa
open Go.RowKit
set_option linter.unusedVariables false
set_option maxRecDepth 10000

/-- Where 'lay' stands while it takes the deeds. -/
structure DdSt (w W : World) (P : Nat) (v : Value) (xs : List Rl) : Prop where
  box : W.heap[P]? = some (.cells #[v, .slice none 0 0, .slice none 0 0, .slice none 0 0, .slice none 0 0, .slice none 0 0, .slice none 0 0] 61 (0, 0))
  own : OwnD W (P + 1) v xs
  bel : Below P w W
  sz : P + 1 ≤ W.heap.size
section
variable {w W W' : World} {P : Nat} {v : Value} {xs : List Rl}
theorem DdSt.below (h : DdSt w W P v xs) (hb : Below W.heap.size W W') : DdSt w W' P v xs :=
  ⟨(hb.block P (by have := h.sz; omega)).trans h.box, OwnN.below h.own hb, h.bel.trans (hb.mono (by have := h.sz; omega)), Nat.le_trans h.sz hb.size⟩
theorem DdSt.append {v' : Value} {r : Rl} {o : Obj} (h : DdSt w W P v xs) (own : OwnD W' (P + 1) v' (xs ++ [r])) (gr : (W.alloc o).grownBy W' v.ownBlock) :
    DdSt w (W'.setCell ⟨P, 0, none⟩ v') P v' (xs ++ [r]) ∧ W'.cell? ⟨P, 0, none⟩ = some v ∧ W'.frozen? ⟨P, 0, none⟩ = false ∧ ∀ k, k < W.heap.size → k ≠ P → v.ownBlock ≠ some k → (W'.setCell ⟨P, 0, none⟩ v').heap[k]? = W.heap[k]? := by
  have ha : Below W.heap.size W (W.alloc o) := (Below.refl _ _).alloc (Nat.le_refl _) _
  have hz : (W.alloc o).heap.size = W.heap.size + 1 := by simp
  have hlt := fun k hk => OwnN.block h.own k hk
  have blo : ∀ k, k < W.heap.size → v.ownBlock ≠ some k → W'.heap[k]? = W.heap[k]? := fun k hk hne => (gr.block k (by omega) (fun e => hne e.symm)).trans (ha.block k hk)
  have hb1 := (blo P (by have := h.sz; omega) (fun e => by have := (hlt P e).1; omega)).trans h.box
  have hoth := fun k (hk : k ≠ P) => heap_setCell_other W' ⟨P, 0, none⟩ k v' hk
  have hsz : (W'.setCell ⟨P, 0, none⟩ v').heap.size = W'.heap.size := by simp [World.setCell]
  refine ⟨⟨?_, ?_, ?_, ?_⟩, ?_, ?_, fun k h1 h2 h3 => (hoth k h2).trans (blo k h1 h3)⟩
  · exact heap_setCell_same W' P 0 _ _ v' hb1
  · exact OwnN.blk own (fun k hk => hoth k (by have := (OwnN.block own k hk).1; omega))
  · refine Below.setCell (p := ⟨P, 0, none⟩) ?_ (Nat.le_refl _) v'
    exact h.bel.trans ((ha.mono (by have := h.sz; omega)).trans (grown_below gr (by have := h.sz; omega) (fun k hk => by have := (hlt k hk).1; omega)))
  · rw [hsz]; have := gr.size; have := h.sz; omega
  · rw [cell_of_row _ _ _ _ _ _ hb1]; rfl
  · exact frozen_of_row _ _ 0 _ _ hb1
theorem DdSt.new (w : World) : DdSt w (w.alloc (.cells #[.slice none 0 0, .slice none 0 0, .slice none 0 0, .slice none 0 0, .slice none 0 0, .slice none 0 0, .slice none 0 0] 61)) w.heap.size (.slice none 0 0) [] :=
  ⟨heap_alloc_new w _, OwnN.nil _ _, (Below.refl _ _).alloc (Nat.le_refl _) _, by simp⟩
end
/-- Where it stands while it cuts the sides: the first k of them are cut. -/
structure LaySt (w W : World) (P k : Nat) (RS : List Rl) (v : Value) (cv : Nat → Value) (Cs : Nat → List St) : Prop where
  box : W.heap[P]? = some (.cells #[v, cv 0, cv 1, cv 2, cv 3, cv 4, cv 5] 61 (0, 0))
  own : OwnD W (P + 1) v RS
  cut : ∀ i, i < k → OwnSt W (P + 1) (cv i) (Cs i) ∧ CutOk (sideLo i) (sideHi i) (askL RS i) (Cs i) ∧ (Cs i).length ≤ 1000
  nil : ∀ i, k ≤ i → cv i = .slice none 0 0
  bel : Below P w W
  sz : P + 1 ≤ W.heap.size
section
variable {w W W' : World} {P k : Nat} {RS : List Rl} {v : Value} {cv : Nat → Value} {Cs : Nat → List St}
theorem LaySt.below (h : LaySt w W P k RS v cv Cs) (hb : Below W.heap.size W W') : LaySt w W' P k RS v cv Cs :=
  ⟨(hb.block P (by have := h.sz; omega)).trans h.box, OwnN.below h.own hb, fun i hi => ⟨OwnN.below (h.cut i hi).1 hb, (h.cut i hi).2⟩, h.nil, h.bel.trans (hb.mono (by have := h.sz; omega)), Nat.le_trans h.sz hb.size⟩
theorem LaySt.store {v' : Value} {C : List St} (h : LaySt w W P k RS v cv Cs) (hk : k < 6) (own : OwnSt W (P + 1) v' C) (ok : CutOk (sideLo k) (sideHi k) (askL RS k) C) (hl : C.length ≤ 1000) :
    LaySt w (W.setCell ⟨P, 1 + k, none⟩ v') P (k + 1) RS v (fun i => if i = k then v' else cv i) (fun i => if i = k then C else Cs i) := by
  have hoth := fun j (hj : j ≠ P) => heap_setCell_other W ⟨P, 1 + k, none⟩ j v' hj
  have hsz : (W.setCell ⟨P, 1 + k, none⟩ v').heap.size = W.heap.size := by simp [World.setCell]
  refine ⟨?_, OwnN.blk h.own (fun j hj => hoth j (by have := (OwnN.block h.own j hj).1; omega)), ?_, ?_, h.bel.setCell (p := ⟨P, 1 + k, none⟩) (Nat.le_refl _) _, by rw [hsz]; exact h.sz⟩
  · have := heap_setCell_same W P (1 + k) _ _ v' h.box
    rw [this]
    match k, hk with
    | 0, _ => rfl
    | 1, _ => rfl
    | 2, _ => rfl
    | 3, _ => rfl
    | 4, _ => rfl
    | 5, _ => rfl
  · intro i hi
    by_cases e : i = k
    · subst e
      simp only [if_true]
      exact ⟨OwnN.blk own (fun j hj => hoth j (by have := (OwnN.block own j hj).1; omega)), ok, hl⟩
    · simp only [if_neg e]
      obtain ⟨h1, h2⟩ := h.cut i (by omega)
      exact ⟨OwnN.blk h1 (fun j hj => hoth j (by have := (OwnN.block h1 j hj).1; omega)), h2⟩
  · intro i hi
    have : i ≠ k := by omega
    simp only [if_neg this]
    exact h.nil i (by omega)
end
end Go.Proofs.Ytdellfmkmbabhaa
