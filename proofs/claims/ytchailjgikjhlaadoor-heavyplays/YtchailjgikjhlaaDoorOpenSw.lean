/- A slice of pairs of numbers ([2]int) that came in: its pairs, one behind the other, each number within its type; how many there may be. -/
import Derived.Test.YtchailjgikjhlaaDoorOpenSp
namespace Go.Proofs.YtchailjgikjhlaaDoor
open Go.ChangeShapes Go.WideShapes Go.ChangeAt Go.RowKit Go.Joins Go.Deep
set_option linter.unusedVariables false

def SpWf (p : Sp) : Prop := (Lit.int .i64 p.1).wf = true ∧ (Lit.int .i64 p.2).wf = true
set_option maxRecDepth 100000 in
theorem open_spcellsW {H : Type} {enc : TypeId × Value → H} {W : World} {fuel : Nat} {cs : List Value} {y : DataW H × List MemPlace} (h : DataW.trod enc Tryd.prog W 0 (fun _ => true) true fuel 34 cs = some y) : ∃ p : Sp, cs = [.int .i64 p.1, .int .i64 p.2] ∧ SpWf p := by
  obtain ⟨xs, n, _, rfl, hl, hlen, hf⟩ := DataW.trod_array Tryd.underlying34 h
  obtain ⟨c0, c1, rfl⟩ := list2S (hl.trans Tryd.cellsSp)
  obtain ⟨y0, y1, rfl⟩ := list2S (α := DataW H × List MemPlace) (cs := xs) hlen
  have h0 := hf 0 (by omega)
  have h1 := hf 1 (by omega)
  rw [Tryd.cellsIS] at h0 h1
  have h0' : DataW.trod enc Tryd.prog W 0 (fun _ => true) true n 3 [c0] = some y0 := h0
  have h1' : DataW.trod enc Tryd.prog W 0 (fun _ => true) true n 3 [c1] = some y1 := h1
  obtain ⟨i0, e0, _, f0⟩ := DataW.trod_int Tryd.underlying3 h0'
  obtain ⟨i1, e1, _, f1⟩ := DataW.trod_int Tryd.underlying3 h1'
  simp at e0 e1
  exact ⟨⟨i0, i1⟩, by rw [e0, e1], f0, f1⟩
set_option maxRecDepth 100000 in
theorem open_spnw {H : Type} {enc : TypeId × Value → H} {W : World} {a : Option Addr} {len cap : Nat} {d : DataW H} {p : List MemPlace} {ts : List TypeId} {ds : List (DataW H)} {j : Nat}
    (h : DataW.Trod enc Tryd.prog W 0 (fun _ => true) true 22 (Value.slice a len cap) d p)
    (hsz : (DataW.weightsEach Tryd.prog ts ds).all (· ≤ reachBytes) = true) (ht : ts[j]? = some 22) (hd : ds[j]? = some d) : ∃ ps, Spns W (.slice a len cap) ps ∧ ps.length ≤ 140737488355328 ∧ ∀ p ∈ ps, SpWf p := by
  obtain ⟨fuel, hf⟩ := h
  rcases open_slice Tryd.underlying22 hf with ⟨hcs, _⟩ | ⟨x, l, c, m, n, D, Pl, hcs, _, hl, hm, hmm, hx, hall⟩
  · simp [Value.cells] at hcs
    obtain ⟨rfl, rfl, rfl⟩ := hcs
    exact ⟨[], .inl ⟨rfl, _, _, rfl⟩, by simp, (fun p hp => nomatch hp)⟩
  · simp [Value.cells] at hcs
    obtain ⟨rfl, rfl, rfl⟩ := hcs
    have hmc : m = cap := by simpa using hmm
    subst hmc
    simp only [Prod.mk.injEq] at hx
    obtain ⟨rfl, _⟩ := hx
    have hbk := sized_slice hsz ht hd Tryd.underlying22
    have hcb : reachBytes < 2 ^ 47 := reachBytes_lt
    rw [show Tryd.prog.bytesOf 34 = 16 by kernel_rfl] at hbk
    have hlen : len ≤ 140737488355328 := by simp at hbk; omega
    by_cases h0 : len = 0
    · subst h0
      exact ⟨[], .inl ⟨rfl, _, _, rfl⟩, by simp, (fun p hp => nomatch hp)⟩
    obtain ⟨b, off, spot⟩ := x
    have hcell : ∀ i, i < len → ∃ q : Sp, SpWf q ∧ (∀ j u, [Value.int .i64 q.1, .int .i64 q.2][j]? = some u → W.cell? (Addr.add (Addr.add ⟨b, off, spot⟩ (i * 2)) j) = some u) := fun i hi => by
      obtain ⟨cs', h1, h2⟩ := hall i (by omega)
      rw [Tryd.cellsSp] at h1
      obtain ⟨_, hlen, hc⟩ := World.cells?_some h1
      obtain ⟨q, e, hwq⟩ := open_spcellsW h2
      subst e
      refine ⟨q, hwq, fun j u hj => ?_⟩
      have hj3 : j < 2 := by
        rcases Nat.lt_or_ge j 2 with h | h
        · exact h
        · rw [List.getElem?_eq_none (by simpa using h)] at hj; cases hj
      rw [hc j hj3]; exact hj
    have hspot : spot = none := by
      obtain ⟨q, _, hq⟩ := hcell 0 (by omega)
      have := hq 0 _ rfl
      simpa [Addr.add] using World.cell?_spot this
    subst hspot
    have hone : ∀ i, i < len → ∃ q : Sp, SpC W b (off + i * 2) q ∧ SpWf q := fun i hi => by
      obtain ⟨q, hwq, hq⟩ := hcell i hi
      refine ⟨q, ⟨?_, ?_⟩, hwq⟩
      · have := hq 0 _ rfl; rw [add_litS, add_litS] at this; exact this
      · have := hq 1 _ rfl; rw [add_litS, add_litS] at this; exact this
    obtain ⟨ps, hps, hp⟩ := choose_spns len hone
    refine ⟨ps, .inr ⟨b, off, len, m, rfl, hl, hm, hps, ?_, fun i hi => (hp i hi).1⟩, by omega, fun p hpm => ?_⟩
    · exact cell_ltS (hp 0 (by omega)).1.1
    · obtain ⟨i, hi, rfl⟩ := List.getElem_of_mem hpm
      exact (hp i hi).2
end Go.Proofs.YtchailjgikjhlaaDoor
