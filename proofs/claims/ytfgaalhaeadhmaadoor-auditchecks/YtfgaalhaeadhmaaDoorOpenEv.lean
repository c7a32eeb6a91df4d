/- Slices of events that came in: what lies in them, one behind the other. -/
import Derived.Test.YtfgaalhaeadhmaaDoorOpenKy
import Derived.Test.YtfgaalhaeadhmaaDoorAuAt
import Derived.OpenShut
namespace Go.Proofs.YtfgaalhaeadhmaaDoor
open Go.ChangeShapes Go.WideShapes Go.ChangeAt Go.RowKit Go.Joins Go.Deep
set_option linter.unusedVariables false

theorem list8v {α : Type} {cs : List α} (h : cs.length = 8) : ∃ c0 c1 c2 c3 c4 c5 c6 c7, cs = [c0, c1, c2, c3, c4, c5, c6, c7] := by
  match cs, h with
  | [c0, c1, c2, c3, c4, c5, c6, c7], _ => exact ⟨c0, c1, c2, c3, c4, c5, c6, c7, rfl⟩
theorem list4v {α : Type} {cs : List α} (h : cs.length = 4) : ∃ c0 c1 c2 c3, cs = [c0, c1, c2, c3] := by
  match cs, h with
  | [c0, c1, c2, c3], _ => exact ⟨c0, c1, c2, c3, rfl⟩
theorem choose_seg {α : Type} {P : Nat → α → Prop} : ∀ (n : Nat), (∀ i, i < n → ∃ a, P i a) → ∃ l : List α, l.length = n ∧ ∀ i (h : i < l.length), P i l[i]
  | 0, _ => ⟨[], rfl, fun i h => by simp at h⟩
  | n + 1, H => by
      obtain ⟨l, hl, hp⟩ := choose_seg n (fun i hi => H i (by omega))
      obtain ⟨a, ha⟩ := H n (by omega)
      refine ⟨l ++ [a], by simp [hl], fun i hi => ?_⟩
      by_cases h : i < l.length
      · rw [List.getElem_append_left h]; exact hp i h
      · have e : i = n := by simp at hi; omega
        subst e
        subst hl
        simpa using ha
theorem add_lit9 (b off i : Nat) : Addr.add ⟨b, off, none⟩ i = ⟨b, off + i, none⟩ := by by_cases hi0 : i = 0 <;> simp [Addr.add, hi0]
theorem Tryd.cellsEv : Tryd.prog.cellsOf 54 = 8 := by kernel_rfl
theorem Tryd.cellsIv : Tryd.prog.cellsOf 3 = 1 := by kernel_rfl
section
variable {H : Type} {enc : TypeId × Value → H} {W : World} {fuel : Nat} {y : DataW H × List MemPlace}
set_option maxRecDepth 100000 in
theorem open_kycellsv {c0 c1 c2 c3 c4 : Value} (h : DataW.trod enc Tryd.prog W 0 (fun _ => true) true fuel 52 [c0, c1, c2, c3, c4] = some y) : ∃ k : Ky, c0 = .int .i64 k.kind ∧ c1 = .int .i64 k.src ∧ c2 = .int .i64 k.frm ∧ c3 = .int .i64 k.dst ∧ c4 = .int .i64 k.too := by
  obtain ⟨d0, d1, d2, d3, d4, y0, y1, y2, y3, y4, n, e, hx, h0, h1, h2, h3, h4⟩ := open_struct5 Tryd.underlying52 (by kernel_rfl) Tryd.cellsKy h
  simp only [List.cons.injEq, and_true] at e
  obtain ⟨rfl, rfl, rfl, rfl, rfl⟩ := e
  obtain ⟨n0, e0, _, _⟩ := DataW.trod_int Tryd.underlying3 h0
  obtain ⟨n1, e1, _, _⟩ := DataW.trod_int Tryd.underlying3 h1
  obtain ⟨n2, e2, _, _⟩ := DataW.trod_int Tryd.underlying3 h2
  obtain ⟨n3, e3, _, _⟩ := DataW.trod_int Tryd.underlying3 h3
  obtain ⟨n4, e4, _, _⟩ := DataW.trod_int Tryd.underlying3 h4
  simp only [List.cons.injEq, and_true] at e0 e1 e2 e3 e4
  exact ⟨{ kind := n0, src := n1, frm := n2, dst := n3, too := n4 }, e0, e1, e2, e3, e4⟩
set_option maxRecDepth 100000 in
theorem open_evcells {cs : List Value} (h : DataW.trod enc Tryd.prog W 0 (fun _ => true) true fuel 54 cs = some y) : ∃ f : Ev, cs = [.int .i64 f.time, .int .i64 f.node, .int .i64 f.what, .int .i64 f.key.kind, .int .i64 f.key.src, .int .i64 f.key.frm, .int .i64 f.key.dst, .int .i64 f.key.too] := by
  obtain ⟨xs, n, _, rfl, hl, hlen, hf⟩ := DataW.trod_struct Tryd.underlying54 h
  obtain ⟨c0, c1, c2, c3, c4, c5, c6, c7, rfl⟩ := list8v (hl.trans Tryd.cellsEv)
  obtain ⟨y0, y1, y2, y3, rfl⟩ := list4v (α := DataW H × List MemPlace) (cs := xs) hlen
  have h0 : DataW.trod enc Tryd.prog W 0 (fun _ => true) true n 3 (List.take (Tryd.prog.cellsOf 3) [c0, c1, c2, c3, c4, c5, c6, c7]) = some y0 := hf 0 _ rfl
  have h1 : DataW.trod enc Tryd.prog W 0 (fun _ => true) true n 3 (List.take (Tryd.prog.cellsOf 3) [c1, c2, c3, c4, c5, c6, c7]) = some y1 := hf 1 _ rfl
  have h2 : DataW.trod enc Tryd.prog W 0 (fun _ => true) true n 3 (List.take (Tryd.prog.cellsOf 3) [c2, c3, c4, c5, c6, c7]) = some y2 := hf 2 _ rfl
  have h3 : DataW.trod enc Tryd.prog W 0 (fun _ => true) true n 52 (List.take (Tryd.prog.cellsOf 52) [c3, c4, c5, c6, c7]) = some y3 := hf 3 _ rfl
  rw [Tryd.cellsKy] at h3
  rw [Tryd.cellsIv] at h0 h1 h2
  obtain ⟨k, e3, e4, e5, e6, e7⟩ := open_kycellsv (c0 := c3) (c1 := c4) (c2 := c5) (c3 := c6) (c4 := c7) h3
  obtain ⟨n0, e0, _, _⟩ := DataW.trod_int Tryd.underlying3 h0
  obtain ⟨n1, e1, _, _⟩ := DataW.trod_int Tryd.underlying3 h1
  obtain ⟨n2, e2, _, _⟩ := DataW.trod_int Tryd.underlying3 h2
  simp at e0 e1 e2
  subst e0 e1 e2 e3 e4 e5 e6 e7
  exact ⟨{ time := n0, node := n1, what := n2, key := k }, rfl⟩
end
set_option maxRecDepth 100000 in
theorem open_evs {H : Type} {enc : TypeId × Value → H} {W : World} {a : Option Addr} {len cap : Nat} {d : DataW H} {p : List MemPlace} {ts : List TypeId} {ds : List (DataW H)} {j : Nat}
    (h : DataW.Trod enc Tryd.prog W 0 (fun _ => true) true 46 (Value.slice a len cap) d p)
    (hsz : (DataW.weightsEach Tryd.prog ts ds).all (· ≤ reachBytes) = true) (ht : ts[j]? = some 46) (hd : ds[j]? = some d) : ∃ ps, Evs W (.slice a len cap) ps := by
  obtain ⟨fuel, hf⟩ := h
  rcases open_slice Tryd.underlying46 hf with ⟨hcs, _⟩ | ⟨x, l, c, m, n, D, Pl, hcs, _, hl, hm, hmm, hx, hall⟩
  · simp [Value.cells] at hcs
    obtain ⟨rfl, rfl, rfl⟩ := hcs
    exact ⟨[], .inl ⟨rfl, _, _, rfl⟩⟩
  · simp [Value.cells] at hcs
    obtain ⟨rfl, rfl, rfl⟩ := hcs
    have hmc : m = cap := by simpa using hmm
    subst hmc
    by_cases h0 : len = 0
    · subst h0
      exact ⟨[], .inl ⟨rfl, _, _, rfl⟩⟩
    obtain ⟨b, off, spot⟩ := x
    have hspot : spot = none := by
      obtain ⟨cs', h1, _⟩ := hall 0 (by omega)
      rw [Tryd.cellsEv] at h1
      obtain ⟨_, hlen, hc⟩ := World.cells?_some h1
      have := hc 0 (by omega)
      rw [List.getElem?_eq_getElem (by omega)] at this
      simpa [Addr.add] using World.cell?_spot this
    subst hspot
    have hone : ∀ i, i < len → ∃ q : Ev, EvCells W b (off + i * 8) q := by
      intro i hi
      obtain ⟨cs', h1, h2⟩ := hall i (by omega)
      rw [Tryd.cellsEv] at h1
      obtain ⟨_, hlen, hc⟩ := World.cells?_some h1
      obtain ⟨q, e⟩ := open_evcells h2
      subst e
      refine ⟨q, ?_, ?_, ?_, ?_, ?_, ?_, ?_, ?_⟩
      · have := hc 0 (by omega); rw [add_lit9, add_lit9] at this; exact this
      · have := hc 1 (by omega); rw [add_lit9, add_lit9] at this; exact this
      · have := hc 2 (by omega); rw [add_lit9, add_lit9] at this; exact this
      · have := hc 3 (by omega); rw [add_lit9, add_lit9] at this; exact this
      · have := hc 4 (by omega); rw [add_lit9, add_lit9] at this; exact this
      · have := hc 5 (by omega); rw [add_lit9, add_lit9] at this; exact this
      · have := hc 6 (by omega); rw [add_lit9, add_lit9] at this; exact this
      · have := hc 7 (by omega); rw [add_lit9, add_lit9] at this; exact this
    obtain ⟨ps, hps, hp⟩ := choose_seg len hone
    exact ⟨ps, .inr ⟨b, off, len, m, rfl, hl, hm, hps, hp⟩⟩
end Go.Proofs.YtfgaalhaeadhmaaDoor
