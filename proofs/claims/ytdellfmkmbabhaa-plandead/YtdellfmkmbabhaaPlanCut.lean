/- What 'cut' returns (package plan): the stretches of a side. -/
import Derived.Test.YtdellfmkmbabhaaPlanSt2
import Derived.Test.YtdellfmkmbabhaaPlanOwn
import Derived.Deep.RegionHeldLaw
import Derived.Deep.RegionHeld3
namespace Go.Proofs.Ytdellfmkmbabhaa
open Go.RowKit
set_option linter.unusedVariables false
set_option maxRecDepth 10000

/-- Where 'cut' stands. -/
structure CuSt (w W : World) (S : Nat) (lo hi : Int) (v : Value) (xs : List St) (u : Value) (E : List Int) : Prop where
  box : W.heap[S]? = some (.cells #[.int .i64 lo, .int .i64 hi] 52 (0, 0))
  ends : OwnI W (S + 1) u E
  own : OwnSt W (S + 1) v xs
  off : Off v u
  bel : Below S w W
  sz : S + 1 ≤ W.heap.size
section
variable {w W W' : World} {S : Nat} {lo hi : Int} {v u : Value} {xs : List St} {E : List Int}
theorem CuSt.below (h : CuSt w W S lo hi v xs u E) (hb : Below W.heap.size W W') : CuSt w W' S lo hi v xs u E :=
  ⟨(hb.block S (by have := h.sz; omega)).trans h.box, h.ends.below hb, OwnN.below h.own hb, h.off, h.bel.trans (hb.mono (by have := h.sz; omega)), Nat.le_trans h.sz hb.size⟩
theorem OwnI.blk0 {b : Nat} (h : OwnI W b u E) (hb : ∀ k, u.ownBlock = some k → W'.heap[k]? = W.heap[k]?) : OwnI W' b u E := by
  obtain ⟨h1, h2⟩ := h
  refine ⟨h1, ?_⟩
  rcases h2 with h2 | ⟨g, cap, cur, hv, hbg, hh, rest⟩
  · exact .inl h2
  · refine .inr ⟨g, cap, cur, hv, hbg, ?_, rest⟩
    rw [hb g (by rw [hv]; rfl)]; exact hh
theorem CuSt.append {v' : Value} {y : St} {o : Obj} (h : CuSt w W S lo hi v xs u E) (own : OwnSt W' (S + 1) v' (xs ++ [y])) (gr : (W.alloc o).grownBy W' v.ownBlock) (lie : v'.ownBlock = v.ownBlock ∨ v'.ownBlock = some (W.heap.size + 1)) : CuSt w W' S lo hi v' (xs ++ [y]) u E := by
  have ha : Below W.heap.size W (W.alloc o) := (Below.refl _ _).alloc (Nat.le_refl _) _
  have hz : (W.alloc o).heap.size = W.heap.size + 1 := by simp
  have blo : ∀ k, k < W.heap.size → v.ownBlock ≠ some k → W'.heap[k]? = W.heap[k]? := fun k hk hne => (gr.block k (by omega) (fun e => hne e.symm)).trans (ha.block k hk)
  have hlt := fun k hk => (OwnN.block h.own k hk)
  refine ⟨(blo S (by have := h.sz; omega) (fun e => by have := (hlt S e).1; omega)).trans h.box, h.ends.blk0 (fun k hk => blo k (h.ends.lt k hk).2 (fun e => h.off k e hk)), own, ?_, h.bel.trans ((ha.mono (by have := h.sz; omega)).trans (grown_below gr (by have := h.sz; omega) (fun k hk => by have := (hlt k hk).1; omega))), ?_⟩
  · intro g hg hu
    rcases lie with e | e
    · exact h.off g (by rw [← e]; exact hg) hu
    · rw [e] at hg
      have := Option.some.inj hg
      have := (h.ends.lt g hu).2
      omega
  · have := gr.size; have := h.sz; omega
theorem CuSt.store {g n cap : Nat} {p q f : _} (h : CuSt w W S lo hi (.slice (some ⟨g, 0, none⟩) n cap) xs u E) (hn : n = xs.length) (i : Nat) (hi' : i < xs.length) (hx : xs[i] = ((p, q), f)) (z : Int) :
    CuSt w (W.setCell ⟨g, i * 3 + 1, none⟩ (.int .i64 z)) S lo hi (.slice (some ⟨g, 0, none⟩) n cap) (xs.set i ((p, z), f)) u E ∧ W.frozen? ⟨g, i * 3 + 1, none⟩ = false ∧ W.cell? ⟨g, i * 3 + 1, none⟩ = some (.int .i64 q) := by
  have hgb : S + 1 ≤ g ∧ g < W.heap.size := OwnN.block h.own g rfl
  have ho := OwnN.store h.own hn encSt_len i hi' 1 (.int .i64 z) ((p, z), f) (by omega) (by rw [hx]; rfl)
  have hc := OwnN.cell h.own encSt_len i hi' 1 (.int .i64 q) (by rw [hx]; rfl)
  have hf := OwnN.free h.own hn (i * 3 + 1)
  have hoth := fun k (hk : k ≠ g) => heap_setCell_other W ⟨g, i * 3 + 1, none⟩ k (.int .i64 z) hk
  refine ⟨⟨(hoth S (by omega)).trans h.box, h.ends.blk0 (fun k hk => hoth k (fun e => h.off g rfl (by rw [← e]; exact hk))), ho, h.off, h.bel.setCell (p := ⟨g, i * 3 + 1, none⟩) (by show S ≤ g; omega) _, ?_⟩, hf, hc⟩
  have hz : (W.setCell ⟨g, i * 3 + 1, none⟩ (.int .i64 z)).heap.size = W.heap.size := by simp [World.setCell]
  rw [hz]; exact h.sz
theorem CuSt.new {s3 : OwnI W' (S + 1) u E} (h0 : W.heap[S]? = some (.cells #[.int .i64 lo, .int .i64 hi] 52 (0, 0))) (hz : W.heap.size = S + 1) (hb : Below S w W) (hb2 : Below W.heap.size W W') : CuSt w W' S lo hi (.slice none 0 0) [] u E :=
  ⟨(hb2.block S (by omega)).trans h0, s3, OwnN.nil _ _, Off.nil _, hb.trans (hb2.mono (by omega)), by have := hb2.size; omega⟩
end
/-- How many of the numbers that rise are not above hi. -/
theorem take_le {E : List Int} {hi : Int} {k : Nat} (hp : E.Pairwise (· < ·)) (h1 : ∀ i (h : i < k), E.getD i 0 ≤ hi) (hk : k ≤ E.length) (h2 : k < E.length → hi < E.getD k 0) : ∀ e, e ∈ E.take k ↔ e ∈ E ∧ e ≤ hi := by
  intro e
  constructor
  · intro h
    obtain ⟨i, hi', rfl⟩ := List.getElem_of_mem h
    have hil : i < k := by rw [List.length_take] at hi'; omega
    refine ⟨List.mem_of_mem_take h, ?_⟩
    have := h1 i hil
    rw [List.getD_eq_getElem?_getD, List.getElem?_eq_getElem (by omega)] at this
    simpa using this
  · rintro ⟨hm, hle⟩
    obtain ⟨i, hi', rfl⟩ := List.getElem_of_mem hm
    rcases Nat.lt_or_ge i k with h | h
    · exact List.mem_take_iff_getElem.2 ⟨i, by omega, rfl⟩
    · exfalso
      have hkl : k < E.length := by omega
      have h3 := h2 hkl
      have e1 : E.getD i 0 = E[i] := by rw [List.getD_eq_getElem?_getD, List.getElem?_eq_getElem hi']; rfl
      rcases Nat.lt_or_ge k i with h4 | h4
      · have := rise_lt hp hi' h4; omega
      · have : i = k := by omega
        subst this; omega
theorem getD_at {E : List Int} {k : Nat} (h : k < E.length) : E.getD k 0 = E[k] := by rw [List.getD_eq_getElem?_getD, List.getElem?_eq_getElem h]; rfl
theorem strL_take {hi : Int} {f : Int → Nat} {E : List Int} {k : Nat} (h : k < E.length) (h0 : 0 < k) : strL hi f (E.take (k + 1)) = (strL hi f (E.take k)).set (k - 1) ((E.getD (k - 1) 0, E[k] - 1), f (E.getD (k - 1) 0)) ++ [((E[k], hi), f E[k])] := by
  have hl : (E.take k).length = k := by rw [List.length_take]; omega
  have e : ∀ i, i < k → (E.take k).getD i 0 = E.getD i 0 := fun i hi => by
    rw [List.getD_eq_getElem?_getD, List.getD_eq_getElem?_getD, List.getElem?_take_of_lt hi]
  rw [List.take_succ_eq_append_getElem h, strL_snoc (by omega), hl, e (k - 1) (by omega)]
end Go.Proofs.Ytdellfmkmbabhaa
