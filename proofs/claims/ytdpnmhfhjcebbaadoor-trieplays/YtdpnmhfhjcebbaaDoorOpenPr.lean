/- A slice of pairs (a prefix and its value) that came in: its pairs, one behind the other; how many there may be. -/
import Derived.Test.YtdpnmhfhjcebbaaDoorOpen
import Derived.Test.YtdpnmhfhjcebbaaDoorPrRow
import Derived.Deep.Slices
import Derived.SizedLaws
import Derived.Lib.SmallJoins
namespace Go.Proofs.YtdpnmhfhjcebbaaDoor
open Go.ChangeShapes Go.WideShapes Go.ChangeAt Go.RowKit Go.Joins Go.Deep
set_option linter.unusedVariables false

theorem choose_prs {P : Nat → Pr → Prop} : ∀ (n : Nat), (∀ i, i < n → ∃ a, P i a) → ∃ l : List Pr, l.length = n ∧ ∀ i (h : i < l.length), P i l[i]
  | 0, _ => ⟨[], rfl, fun i h => by simp at h⟩
  | n + 1, H => by
      obtain ⟨l, hl, hp⟩ := choose_prs n (fun i hi => H i (by omega))
      obtain ⟨a, ha⟩ := H n (by omega)
      refine ⟨l ++ [a], by simp [hl], fun i hi => ?_⟩
      by_cases h : i < l.length
      · rw [List.getElem_append_left h]; exact hp i h
      · have e : i = n := by simp at hi; omega
        subst e
        subst hl
        simpa using ha
theorem add_lit3 (b off i : Nat) : Addr.add ⟨b, off, none⟩ i = ⟨b, off + i, none⟩ := by by_cases hi0 : i = 0 <;> simp [Addr.add, hi0]
theorem Tryd.cellsPr : Tryd.prog.cellsOf 34 = 3 := by kernel_rfl
theorem Tryd.cellsPf : Tryd.prog.cellsOf 25 = 2 := by kernel_rfl
theorem Tryd.cellsI : Tryd.prog.cellsOf 3 = 1 := by kernel_rfl
theorem list3 {α : Type} {cs : List α} (h : cs.length = 3) : ∃ c0 c1 c2, cs = [c0, c1, c2] := by
  match cs, h with
  | [c0, c1, c2], _ => exact ⟨c0, c1, c2, rfl⟩
theorem list2 {α : Type} {cs : List α} (h : cs.length = 2) : ∃ c0 c1, cs = [c0, c1] := by
  match cs, h with
  | [c0, c1], _ => exact ⟨c0, c1, rfl⟩
set_option maxRecDepth 100000 in
theorem open_prcells {H : Type} {enc : TypeId × Value → H} {W : World} {fuel : Nat} {cs : List Value} {y : DataW H × List MemPlace} (h : DataW.trod enc Tryd.prog W 0 (fun _ => true) true fuel 34 cs = some y) : ∃ p : Pr, cs = [.int .i64 p.a, .int .i64 p.l, .int .i64 p.v] := by
  obtain ⟨xs, n, _, rfl, hl, hlen, hf⟩ := DataW.trod_struct Tryd.underlying34 h
  obtain ⟨c0, c1, c2, rfl⟩ := list3 (hl.trans Tryd.cellsPr)
  obtain ⟨y0, y1, rfl⟩ := list2 (α := DataW H × List MemPlace) (cs := xs) hlen
  have h0 : DataW.trod enc Tryd.prog W 0 (fun _ => true) true n 25 (List.take (Tryd.prog.cellsOf 25) [c0, c1, c2]) = some y0 := hf 0 _ rfl
  have h1 : DataW.trod enc Tryd.prog W 0 (fun _ => true) true n 3 (List.take (Tryd.prog.cellsOf 3) [c2]) = some y1 := hf 1 _ rfl
  rw [Tryd.cellsPf] at h0
  rw [Tryd.cellsI] at h1
  have h0' : DataW.trod enc Tryd.prog W 0 (fun _ => true) true n 25 [c0, c1] = some y0 := h0
  have h1' : DataW.trod enc Tryd.prog W 0 (fun _ => true) true n 3 [c2] = some y1 := h1
  obtain ⟨zs, m, _, rfl, hl2, hlen2, hf2⟩ := DataW.trod_struct Tryd.underlying25 h0'
  obtain ⟨z0, z1, rfl⟩ := list2 (α := DataW H × List MemPlace) (cs := zs) hlen2
  have g0 : DataW.trod enc Tryd.prog W 0 (fun _ => true) true m 3 (List.take (Tryd.prog.cellsOf 3) [c0, c1]) = some z0 := hf2 0 _ rfl
  have g1 : DataW.trod enc Tryd.prog W 0 (fun _ => true) true m 3 (List.take (Tryd.prog.cellsOf 3) [c1]) = some z1 := hf2 1 _ rfl
  rw [Tryd.cellsI] at g0 g1
  obtain ⟨i0, e0, _, _⟩ := DataW.trod_int Tryd.underlying3 g0
  obtain ⟨i1, e1, _, _⟩ := DataW.trod_int Tryd.underlying3 g1
  obtain ⟨i2, e2, _, _⟩ := DataW.trod_int Tryd.underlying3 h1'
  simp at e0 e1 e2
  exact ⟨⟨i0, i1, i2⟩, by rw [e0, e1, e2]⟩
set_option maxRecDepth 100000 in
theorem open_prs {H : Type} {enc : TypeId × Value → H} {W : World} {a : Option Addr} {len cap : Nat} {d : DataW H} {p : List MemPlace} {ts : List TypeId} {ds : List (DataW H)} {j : Nat}
    (h : DataW.Trod enc Tryd.prog W 0 (fun _ => true) true 22 (Value.slice a len cap) d p)
    (hsz : (DataW.weightsEach Tryd.prog ts ds).all (· ≤ reachBytes) = true) (ht : ts[j]? = some 22) (hd : ds[j]? = some d) : ∃ ps, Prs W (.slice a len cap) ps ∧ ps.length ≤ 140737488355328 := by
  obtain ⟨fuel, hf⟩ := h
  rcases open_slice Tryd.underlying22 hf with ⟨hcs, _⟩ | ⟨x, l, c, m, n, D, Pl, hcs, _, hl, hm, hmm, hx, hall⟩
  · simp [Value.cells] at hcs
    obtain ⟨rfl, rfl, rfl⟩ := hcs
    exact ⟨[], .inl ⟨rfl, _, _, rfl⟩, by simp⟩
  · simp [Value.cells] at hcs
    obtain ⟨rfl, rfl, rfl⟩ := hcs
    have hmc : m = cap := by simpa using hmm
    subst hmc
    simp only [Prod.mk.injEq] at hx
    obtain ⟨rfl, _⟩ := hx
    have hbk := sized_slice hsz ht hd Tryd.underlying22
    have hcb : reachBytes < 2 ^ 47 := reachBytes_lt
    rw [show Tryd.prog.bytesOf 34 = 24 by kernel_rfl] at hbk
    have hlen : len ≤ 140737488355328 := by simp at hbk; omega
    by_cases h0 : len = 0
    · subst h0
      exact ⟨[], .inl ⟨rfl, _, _, rfl⟩, by simp⟩
    obtain ⟨b, off, spot⟩ := x
    have hcell : ∀ i, i < len → ∃ q : Pr, (∀ j u, [Value.int .i64 q.a, .int .i64 q.l, .int .i64 q.v][j]? = some u → W.cell? (Addr.add (Addr.add ⟨b, off, spot⟩ (i * 3)) j) = some u) := fun i hi => by
      obtain ⟨cs', h1, h2⟩ := hall i (by omega)
      rw [Tryd.cellsPr] at h1
      obtain ⟨_, hlen, hc⟩ := World.cells?_some h1
      obtain ⟨q, e⟩ := open_prcells h2
      subst e
      refine ⟨q, fun j u hj => ?_⟩
      have hj3 : j < 3 := by
        rcases Nat.lt_or_ge j 3 with h | h
        · exact h
        · rw [List.getElem?_eq_none (by simpa using h)] at hj; cases hj
      rw [hc j hj3]; exact hj
    have hspot : spot = none := by
      obtain ⟨q, hq⟩ := hcell 0 (by omega)
      have := hq 0 _ rfl
      simpa [Addr.add] using World.cell?_spot this
    subst hspot
    have hone : ∀ i, i < len → ∃ q : Pr, PrCells W b (off + i * 3) q := fun i hi => by
      obtain ⟨q, hq⟩ := hcell i hi
      refine ⟨q, ?_, ?_, ?_⟩
      · have := hq 0 _ rfl; rw [add_lit3, add_lit3] at this; exact this
      · have := hq 1 _ rfl; rw [add_lit3, add_lit3] at this; exact this
      · have := hq 2 _ rfl; rw [add_lit3, add_lit3] at this; exact this
    obtain ⟨ps, hps, hp⟩ := choose_prs len hone
    refine ⟨ps, .inr ⟨b, off, len, m, rfl, hl, hm, hps, ?_, hp⟩, by omega⟩
    exact cell_lt (hp 0 (by omega)).1
end Go.Proofs.YtdpnmhfhjcebbaaDoor
