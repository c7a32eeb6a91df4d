/- A slice of spans ([2]int) that came in: its spans, one behind the other; how many there may be. -/
import Derived.Test.YtchailjgikjhlaaDoorOpen
import Derived.Test.YtchailjgikjhlaaDoorSpnAt
import Derived.Deep.Slices
import Derived.SizedLaws
import Derived.Lib.SmallJoins
import Derived.OpenShut
namespace Go.Proofs.YtchailjgikjhlaaDoor
open Go.ChangeShapes Go.WideShapes Go.ChangeAt Go.RowKit Go.Joins Go.Deep
set_option linter.unusedVariables false

theorem choose_spns {P : Nat → Sp → Prop} : ∀ (n : Nat), (∀ i, i < n → ∃ a, P i a) → ∃ l : List Sp, l.length = n ∧ ∀ i (h : i < l.length), P i l[i]
  | 0, _ => ⟨[], rfl, fun i h => by simp at h⟩
  | n + 1, H => by
      obtain ⟨l, hl, hp⟩ := choose_spns n (fun i hi => H i (by omega))
      obtain ⟨a, ha⟩ := H n (by omega)
      refine ⟨l ++ [a], by simp [hl], fun i hi => ?_⟩
      by_cases h : i < l.length
      · rw [List.getElem_append_left h]; exact hp i h
      · have e : i = n := by simp at hi; omega
        subst e
        subst hl
        simpa using ha
theorem cell_ltS {w : World} {b i : Nat} {v : Value} (h : w.cell? ⟨b, i, none⟩ = some v) : b < w.heap.size := by
  rcases Nat.lt_or_ge b w.heap.size with h1 | h1
  · exact h1
  · simp [World.cell?, Array.getElem?_eq_none h1] at h
theorem add_litS (b off i : Nat) : Addr.add ⟨b, off, none⟩ i = ⟨b, off + i, none⟩ := by by_cases hi0 : i = 0 <;> simp [Addr.add, hi0]
theorem Tryd.cellsSp : Tryd.prog.cellsOf 34 = 2 := by kernel_rfl
theorem Tryd.cellsIS : Tryd.prog.cellsOf 3 = 1 := by kernel_rfl
theorem list2S {α : Type} {cs : List α} (h : cs.length = 2) : ∃ c0 c1, cs = [c0, c1] := by
  match cs, h with
  | [c0, c1], _ => exact ⟨c0, c1, rfl⟩
set_option maxRecDepth 100000 in
theorem open_spcells {H : Type} {enc : TypeId × Value → H} {W : World} {fuel : Nat} {cs : List Value} {y : DataW H × List MemPlace} (h : DataW.trod enc Tryd.prog W 0 (fun _ => true) true fuel 34 cs = some y) : ∃ p : Sp, cs = [.int .i64 p.1, .int .i64 p.2] := by
  obtain ⟨xs, n, _, rfl, hl, hlen, hf⟩ := DataW.trod_array Tryd.underlying34 h
  obtain ⟨c0, c1, rfl⟩ := list2S (hl.trans Tryd.cellsSp)
  obtain ⟨y0, y1, rfl⟩ := list2S (α := DataW H × List MemPlace) (cs := xs) hlen
  have h0 := hf 0 (by omega)
  have h1 := hf 1 (by omega)
  rw [Tryd.cellsIS] at h0 h1
  have h0' : DataW.trod enc Tryd.prog W 0 (fun _ => true) true n 3 [c0] = some y0 := h0
  have h1' : DataW.trod enc Tryd.prog W 0 (fun _ => true) true n 3 [c1] = some y1 := h1
  obtain ⟨i0, e0, _, _⟩ := DataW.trod_int Tryd.underlying3 h0'
  obtain ⟨i1, e1, _, _⟩ := DataW.trod_int Tryd.underlying3 h1'
  simp at e0 e1
  exact ⟨⟨i0, i1⟩, by rw [e0, e1]⟩
set_option maxRecDepth 100000 in
theorem open_spns {H : Type} {enc : TypeId × Value → H} {W : World} {a : Option Addr} {len cap : Nat} {d : DataW H} {p : List MemPlace} {ts : List TypeId} {ds : List (DataW H)} {j : Nat}
    (h : DataW.Trod enc Tryd.prog W 0 (fun _ => true) true 22 (Value.slice a len cap) d p)
    (hsz : (DataW.weightsEach Tryd.prog ts ds).all (· ≤ reachBytes) = true) (ht : ts[j]? = some 22) (hd : ds[j]? = some d) : ∃ ps, Spns W (.slice a len cap) ps ∧ ps.length ≤ 140737488355328 := by
  obtain ⟨fuel, hf⟩ := h
  rcases open_slice Tryd.underlying22 hf with ⟨hcs, _⟩ | ⟨x, l, c, m, n, D, Pl, hcs, _, hl, hm, hmm, hx, hall⟩
  · simp [Value.cells] at hcs
    obtain ⟨rfl, rfl, rfl⟩ := hcs
    exact ⟨[], .inl ⟨rfl, _, _, rfl⟩, by simp⟩
  · simp [Value.cells] at hcs
    obtain ⟨rfl, rfl, rfl⟩ := hcs
    have hmc : m = cap := by simpa using hmm
    subst hmc
    simp only [Prod.mk.injEq] at hx
    obtain ⟨rfl, _⟩ := hx
    have hbk := sized_slice hsz ht hd Tryd.underlying22
    have hcb : reachBytes < 2 ^ 47 := reachBytes_lt
    rw [show Tryd.prog.bytesOf 34 = 16 by kernel_rfl] at hbk
    have hlen : len ≤ 140737488355328 := by simp at hbk; omega
    by_cases h0 : len = 0
    · subst h0
      exact ⟨[], .inl ⟨rfl, _, _, rfl⟩, by simp⟩
    obtain ⟨b, off, spot⟩ := x
    have hcell : ∀ i, i < len → ∃ q : Sp, (∀ j u, [Value.int .i64 q.1, .int .i64 q.2][j]? = some u → W.cell? (Addr.add (Addr.add ⟨b, off, spot⟩ (i * 2)) j) = some u) := fun i hi => by
      obtain ⟨cs', h1, h2⟩ := hall i (by omega)
      rw [Tryd.cellsSp] at h1
      obtain ⟨_, hlen, hc⟩ := World.cells?_some h1
      obtain ⟨q, e⟩ := open_spcells h2
      subst e
      refine ⟨q, fun j u hj => ?_⟩
      have hj3 : j < 2 := by
        rcases Nat.lt_or_ge j 2 with h | h
        · exact h
        · rw [List.getElem?_eq_none (by simpa using h)] at hj; cases hj
      rw [hc j hj3]; exact hj
    have hspot : spot = none := by
      obtain ⟨q, hq⟩ := hcell 0 (by omega)
      have := hq 0 _ rfl
      simpa [Addr.add] using World.cell?_spot this
    subst hspot
    have hone : ∀ i, i < len → ∃ q : Sp, SpC W b (off + i * 2) q := fun i hi => by
      obtain ⟨q, hq⟩ := hcell i hi
      refine ⟨q, ?_, ?_⟩
      · have := hq 0 _ rfl; rw [add_litS, add_litS] at this; exact this
      · have := hq 1 _ rfl; rw [add_litS, add_litS] at this; exact this
    obtain ⟨ps, hps, hp⟩ := choose_spns len hone
    refine ⟨ps, .inr ⟨b, off, len, m, rfl, hl, hm, hps, ?_, hp⟩, by omega⟩
    exact cell_ltS (hp 0 (by omega)).1
end Go.Proofs.YtchailjgikjhlaaDoor
