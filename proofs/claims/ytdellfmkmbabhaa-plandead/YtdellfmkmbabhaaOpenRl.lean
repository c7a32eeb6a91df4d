/- A slice of rules that came in: its rules, one behind the other ('Rls'), each with its ports. -/
import Derived.Test.YtdellfmkmbabhaaOpenSp
import Derived.Test.YtdellfmkmbabhaaRuleRow
namespace Go.Proofs.Ytdellfmkmbabhaa
open Go.ChangeShapes Go.WideShapes Go.ChangeAt Go.RowKit Go.Joins Go.Deep
set_option linter.unusedVariables false

theorem Try.cellsRl : Try.prog.cellsOf 34 = 11 := by kernel_rfl
theorem Try.cellsPfR : Try.prog.cellsOf 31 = 2 := by kernel_rfl
theorem Try.cellsBR : Try.prog.cellsOf 4 = 1 := by kernel_rfl
theorem Try.cellsSR : Try.prog.cellsOf 32 = 1 := by kernel_rfl
theorem list11 {α : Type} {cs : List α} (h : cs.length = 11) : ∃ c0 c1 c2 c3 c4 c5 c6 c7 c8 c9 c10, cs = [c0, c1, c2, c3, c4, c5, c6, c7, c8, c9, c10] := by
  match cs, h with
  | [c0, c1, c2, c3, c4, c5, c6, c7, c8, c9, c10], _ => exact ⟨c0, c1, c2, c3, c4, c5, c6, c7, c8, c9, c10, rfl⟩
theorem list9 {α : Type} {cs : List α} (h : cs.length = 9) : ∃ c0 c1 c2 c3 c4 c5 c6 c7 c8, cs = [c0, c1, c2, c3, c4, c5, c6, c7, c8] := by
  match cs, h with
  | [c0, c1, c2, c3, c4, c5, c6, c7, c8], _ => exact ⟨c0, c1, c2, c3, c4, c5, c6, c7, c8, rfl⟩
set_option maxRecDepth 100000 in
theorem open_ports {H : Type} {enc : TypeId × Value → H} {W : World} {fuel : Nat} {cs : List Value} {y : DataW H × List MemPlace} (hf : DataW.trod enc Try.prog W 0 (fun _ => true) true fuel 32 cs = some y)
    (hw : ∀ n ∈ y.1.weights Try.prog 32, n ≤ reachBytes) : ∃ v l, cs = [v] ∧ Spns W v l ∧ l.length ≤ 140737488355328 := by
  rcases open_slice Try.underlying32 hf with ⟨hcs, _⟩ | ⟨x, len, c, m, n, D, Pl, hcs, _, hl, hm, hmm, hx, hall⟩
  · exact ⟨_, [], hcs, .inl ⟨rfl, _, _, rfl⟩, by simp⟩
  · subst hx
    have hmc : m = c := by simpa using hmm
    subst hmc
    have hb := hw _ (by simp only [DataW.weights, Try.underlying32]; exact List.mem_cons_self)
    rw [show Try.prog.bytesOf 52 = 16 by kernel_rfl] at hb
    have hcb : reachBytes < 2 ^ 47 := reachBytes_lt
    have hlen : len ≤ 140737488355328 := by simp at hb; omega
    by_cases h0 : len = 0
    · subst h0
      exact ⟨_, [], hcs, .inl ⟨rfl, _, _, rfl⟩, by simp⟩
    obtain ⟨b, off, spot⟩ := x
    have hcell : ∀ i, i < len → ∃ q : Sp, (∀ j u, [Value.int .i64 q.1, .int .i64 q.2][j]? = some u → W.cell? (Addr.add (Addr.add ⟨b, off, spot⟩ (i * 2)) j) = some u) := fun i hi => by
      obtain ⟨cs', h1, h2⟩ := hall i (by omega)
      rw [Try.cellsSp] at h1
      obtain ⟨_, hlen, hc⟩ := World.cells?_some h1
      obtain ⟨q, e⟩ := open_spcells h2
      subst e
      refine ⟨q, fun j u hj => ?_⟩
      have hj3 : j < 2 := by
        rcases Nat.lt_or_ge j 2 with h | h
        · exact h
        · rw [List.getElem?_eq_none (by simpa using h)] at hj; cases hj
      rw [hc j hj3]; exact hj
    have hspot : spot = none := by
      obtain ⟨q, hq⟩ := hcell 0 (by omega)
      have := hq 0 _ rfl
      simpa [Addr.add] using World.cell?_spot this
    subst hspot
    have hone : ∀ i, i < len → ∃ q : Sp, SpC W b (off + i * 2) q := fun i hi => by
      obtain ⟨q, hq⟩ := hcell i hi
      refine ⟨q, ?_, ?_⟩
      · have := hq 0 _ rfl; rw [add_litS, add_litS] at this; exact this
      · have := hq 1 _ rfl; rw [add_litS, add_litS] at this; exact this
    obtain ⟨ps, hps, hp⟩ := choose_spns len hone
    refine ⟨_, ps, hcs, .inr ⟨b, off, len, m, rfl, hl, hm, hps, ?_, hp⟩, by omega⟩
    exact cell_ltS (hp 0 (by omega)).1
set_option maxRecDepth 100000 in
theorem open_pfcells {H : Type} {enc : TypeId × Value → H} {W : World} {fuel : Nat} {c0 c1 : Value} {y : DataW H × List MemPlace} (h : DataW.trod enc Try.prog W 0 (fun _ => true) true fuel 31 [c0, c1] = some y) : ∃ a l : Int, c0 = .int .i64 a ∧ c1 = .int .i64 l := by
  obtain ⟨zs, m, _, rfl, hl2, hlen2, hf2⟩ := DataW.trod_struct Try.underlying31 h
  obtain ⟨z0, z1, rfl⟩ := list2S (α := DataW H × List MemPlace) (cs := zs) hlen2
  have g0 : DataW.trod enc Try.prog W 0 (fun _ => true) true m 3 (List.take (Try.prog.cellsOf 3) [c0, c1]) = some z0 := hf2 0 _ rfl
  have g1 : DataW.trod enc Try.prog W 0 (fun _ => true) true m 3 (List.take (Try.prog.cellsOf 3) [c1]) = some z1 := hf2 1 _ rfl
  rw [Try.cellsIS] at g0 g1
  obtain ⟨i0, e0, _, _⟩ := DataW.trod_int Try.underlying3 g0
  obtain ⟨i1, e1, _, _⟩ := DataW.trod_int Try.underlying3 g1
  simp at e0 e1
  exact ⟨i0, i1, e0, e1⟩
set_option maxRecDepth 100000 in
theorem open_rlcells {H : Type} {enc : TypeId × Value → H} {W : World} {fuel : Nat} {cs : List Value} {y : DataW H × List MemPlace} (h : DataW.trod enc Try.prog W 0 (fun _ => true) true fuel 34 cs = some y)
    (hw : ∀ n ∈ y.1.weights Try.prog 34, n ≤ reachBytes) :
    ∃ (r : Rl) (fv tv : Value), cs = [.bool r.pass, .bool r.quick, .bool r.keep, .int .i64 r.way, .int .i64 r.kind, .int .i64 r.sa, .int .i64 r.sl, .int .i64 r.da, .int .i64 r.dl, fv, tv] ∧ Spns W fv r.fr ∧ Spns W tv r.tl ∧ r.fr.length ≤ 140737488355328 ∧ r.tl.length ≤ 140737488355328 := by
  obtain ⟨xs, n, _, rfl, hl, hlen, hf⟩ := DataW.trod_struct Try.underlying34 h
  obtain ⟨c0, c1, c2, c3, c4, c5, c6, c7, c8, c9, c10, rfl⟩ := list11 (hl.trans Try.cellsRl)
  obtain ⟨y0, y1, y2, y3, y4, y5, y6, y7, y8, rfl⟩ := list9 (α := DataW H × List MemPlace) (cs := xs) hlen
  have h0 : DataW.trod enc Try.prog W 0 (fun _ => true) true n 4 (List.take (Try.prog.cellsOf 4) [c0, c1, c2, c3, c4, c5, c6, c7, c8, c9, c10]) = some y0 := hf 0 _ rfl
  have h1 : DataW.trod enc Try.prog W 0 (fun _ => true) true n 4 (List.take (Try.prog.cellsOf 4) [c1, c2, c3, c4, c5, c6, c7, c8, c9, c10]) = some y1 := hf 1 _ rfl
  have h2 : DataW.trod enc Try.prog W 0 (fun _ => true) true n 4 (List.take (Try.prog.cellsOf 4) [c2, c3, c4, c5, c6, c7, c8, c9, c10]) = some y2 := hf 2 _ rfl
  have h3 : DataW.trod enc Try.prog W 0 (fun _ => true) true n 3 (List.take (Try.prog.cellsOf 3) [c3, c4, c5, c6, c7, c8, c9, c10]) = some y3 := hf 3 _ rfl
  have h4 : DataW.trod enc Try.prog W 0 (fun _ => true) true n 3 (List.take (Try.prog.cellsOf 3) [c4, c5, c6, c7, c8, c9, c10]) = some y4 := hf 4 _ rfl
  have h5 : DataW.trod enc Try.prog W 0 (fun _ => true) true n 31 (List.take (Try.prog.cellsOf 31) [c5, c6, c7, c8, c9, c10]) = some y5 := hf 5 _ rfl
  have h6 : DataW.trod enc Try.prog W 0 (fun _ => true) true n 31 (List.take (Try.prog.cellsOf 31) [c7, c8, c9, c10]) = some y6 := hf 6 _ rfl
  have h7 : DataW.trod enc Try.prog W 0 (fun _ => true) true n 32 (List.take (Try.prog.cellsOf 32) [c9, c10]) = some y7 := hf 7 _ rfl
  have h8 : DataW.trod enc Try.prog W 0 (fun _ => true) true n 32 (List.take (Try.prog.cellsOf 32) [c10]) = some y8 := hf 8 _ rfl
  rw [Try.cellsBR] at h0 h1 h2
  rw [Try.cellsIS] at h3 h4
  rw [Try.cellsPfR] at h5 h6
  rw [Try.cellsSR] at h7 h8
  have hw7 : ∀ n ∈ y7.1.weights Try.prog 32, n ≤ reachBytes := by
    intro m hm
    refine hw m ?_
    simp only [DataW.weights, Try.underlying34]
    exact DataW.weights_mem_each (j := 7) rfl rfl m hm
  have hw8 : ∀ n ∈ y8.1.weights Try.prog 32, n ≤ reachBytes := by
    intro m hm
    refine hw m ?_
    simp only [DataW.weights, Try.underlying34]
    exact DataW.weights_mem_each (j := 8) rfl rfl m hm
  obtain ⟨p0, e0, _⟩ := DataW.trod_bool Try.underlying4 h0
  obtain ⟨p1, e1, _⟩ := DataW.trod_bool Try.underlying4 h1
  obtain ⟨p2, e2, _⟩ := DataW.trod_bool Try.underlying4 h2
  obtain ⟨n3, e3, _, _⟩ := DataW.trod_int Try.underlying3 h3
  obtain ⟨n4, e4, _, _⟩ := DataW.trod_int Try.underlying3 h4
  obtain ⟨a5, l5, e5, e5'⟩ := open_pfcells (c0 := c5) (c1 := c6) h5
  obtain ⟨a6, l6, e6, e6'⟩ := open_pfcells (c0 := c7) (c1 := c8) h6
  obtain ⟨v7, l7, e7, s7, b7⟩ := open_ports h7 hw7
  obtain ⟨v8, l8, e8, s8, b8⟩ := open_ports h8 hw8
  simp at e0 e1 e2 e3 e4 e7 e8
  subst e0 e1 e2 e3 e4 e5 e5' e6 e6' e7 e8
  exact ⟨{ pass := p0, quick := p1, keep := p2, way := n3, kind := n4, sa := a5, sl := l5, da := a6, dl := l6, fr := l7, tl := l8 }, _, _, rfl, s7, s8, b7, b8⟩
set_option maxRecDepth 100000 in
/-- A rule by value. -/
theorem open_rl {H : Type} {enc : TypeId × Value → H} {W : World} {r : Reach} {b0 : Nat} {v : Value} {d : DataW H} {p : List MemPlace} {ts : List TypeId} {ds : List (DataW H)} {j : Nat}
    (hv : Value.okWide Try.prog W r b0 34 v) (h : DataW.Trod enc Try.prog W 0 (fun _ => true) true 34 v d p)
    (hsz : (DataW.weightsEach Try.prog ts ds).all (· ≤ reachBytes) = true) (ht : ts[j]? = some 34) (hd : ds[j]? = some d) :
    ∃ (r : Rl) (fv tv : Value), v = rlV r fv tv ∧ Spns W fv r.fr ∧ Spns W tv r.tl ∧ r.fr.length ≤ 140737488355328 ∧ r.tl.length ≤ 140737488355328 := by
  obtain ⟨cs, rfl, hcs⟩ := okWide_struct Try.underlying34 hv
  obtain ⟨fuel, hf⟩ := h
  have hw : ∀ n ∈ d.weights Try.prog 34, n ≤ reachBytes := by
    intro n hn
    have := List.all_eq_true.1 hsz _ (DataW.weights_mem_each ht hd n hn)
    simpa using this
  obtain ⟨q, fv, tv, e, k1, k2, k3, k4⟩ := open_rlcells hf hw
  refine ⟨q, fv, tv, ?_, k1, k2, k3, k4⟩
  have e' : cs.toList = [.bool q.pass, .bool q.quick, .bool q.keep, .int .i64 q.way, .int .i64 q.kind, .int .i64 q.sa, .int .i64 q.sl, .int .i64 q.da, .int .i64 q.dl, fv, tv] := e
  unfold rlV
  rw [← e', Array.toArray_toList]
theorem choose_rls {P : Nat → (Rl × Value × Value) → Prop} : ∀ (n : Nat), (∀ i, i < n → ∃ a, P i a) → ∃ l : List (Rl × Value × Value), l.length = n ∧ ∀ i (h : i < l.length), P i l[i]
  | 0, _ => ⟨[], rfl, fun i h => by simp at h⟩
  | n + 1, H => by
      obtain ⟨l, hl, hp⟩ := choose_rls n (fun i hi => H i (by omega))
      obtain ⟨a, ha⟩ := H n (by omega)
      refine ⟨l ++ [a], by simp [hl], fun i hi => ?_⟩
      by_cases h : i < l.length
      · rw [List.getElem_append_left h]; exact hp i h
      · have e : i = n := by simp at hi; omega
        subst e
        subst hl
        simpa using ha
theorem mem_weightsR {H : Type} {P : Program} {e : TypeId} : ∀ {l : List (DataW H)} {d : DataW H}, d ∈ l → ∀ n ∈ d.weights P e, n ∈ DataW.weightsAll P e l
  | [], d, h, n, hn => by cases h
  | a :: l, d, h, n, hn => by
      rcases List.mem_cons.1 h with rfl | h
      · simp only [DataW.weightsAll, List.mem_append]; exact .inl hn
      · simp only [DataW.weightsAll, List.mem_append]; exact .inr (mem_weightsR h n hn)
set_option maxRecDepth 100000 in
theorem open_rls {H : Type} {enc : TypeId × Value → H} {W : World} {a : Option Addr} {len cap : Nat} {d : DataW H} {p : List MemPlace} {ts : List TypeId} {ds : List (DataW H)} {j : Nat}
    (h : DataW.Trod enc Try.prog W 0 (fun _ => true) true 22 (Value.slice a len cap) d p)
    (hsz : (DataW.weightsEach Try.prog ts ds).all (· ≤ reachBytes) = true) (ht : ts[j]? = some 22) (hd : ds[j]? = some d) : ∃ rs, Rls W (.slice a len cap) rs := by
  obtain ⟨fuel, hf⟩ := h
  rcases open_slice Try.underlying22 hf with ⟨hcs, _⟩ | ⟨x, l, c, m, n, D, Pl, hcs, _, hl, hm, hmm, hx, hall⟩
  · simp [Value.cells] at hcs
    obtain ⟨rfl, rfl, rfl⟩ := hcs
    exact ⟨[], .inl ⟨rfl, _, _, rfl⟩⟩
  · simp [Value.cells] at hcs
    obtain ⟨rfl, rfl, rfl⟩ := hcs
    have hmc : m = cap := by simpa using hmm
    subst hmc
    simp only [Prod.mk.injEq] at hx
    obtain ⟨rfl, _⟩ := hx
    by_cases h0 : len = 0
    · subst h0
      exact ⟨[], .inl ⟨rfl, _, _, rfl⟩⟩
    have hw : ∀ i, i < len → ∀ n ∈ (D i).weights Try.prog 34, n ≤ reachBytes := by
      intro i hi n hn
      have h1 : n ∈ DataW.weightsAll Try.prog 34 ((List.range len).map D) := mem_weightsR (List.mem_map.2 ⟨i, by simpa using hi, rfl⟩) n hn
      have h2 : n ∈ (DataW.slice ((List.range len).map D) ((List.range (m - len)).map fun j => D (len + j))).weights Try.prog 22 := by
        simp only [DataW.weights, Try.underlying22]
        exact List.mem_cons_of_mem _ (List.mem_append_left _ h1)
      have := List.all_eq_true.1 hsz _ (DataW.weights_mem_each ht hd n h2)
      simpa using this
    obtain ⟨b, off, spot⟩ := x
    have hspot : spot = none := by
      obtain ⟨cs', h1, _⟩ := hall 0 (by omega)
      rw [Try.cellsRl] at h1
      obtain ⟨_, hlen, hc⟩ := World.cells?_some h1
      have := hc 0 (by omega)
      rw [List.getElem?_eq_getElem (by omega)] at this
      simpa [Addr.add] using World.cell?_spot this
    subst hspot
    have hone : ∀ i, i < len → ∃ q : Rl × Value × Value, RlC W b (off + i * 11) q.1 q.2.1 q.2.2 := by
      intro i hi
      obtain ⟨cs', h1, h2⟩ := hall i (by omega)
      rw [Try.cellsRl] at h1
      obtain ⟨_, hlen, hc⟩ := World.cells?_some h1
      obtain ⟨q, fv, tv, e, k1, k2, k3, k4⟩ := open_rlcells h2 (hw i hi)
      subst e
      refine ⟨(q, fv, tv), ⟨?_, ?_, ?_, ?_, ?_, ?_, ?_, ?_, ?_, ?_, ?_⟩, k1, k2, k3, k4⟩
      · have := hc 0 (by omega); rw [add_litS, add_litS] at this; exact this
      · have := hc 1 (by omega); rw [add_litS, add_litS] at this; exact this
      · have := hc 2 (by omega); rw [add_litS, add_litS] at this; exact this
      · have := hc 3 (by omega); rw [add_litS, add_litS] at this; exact this
      · have := hc 4 (by omega); rw [add_litS, add_litS] at this; exact this
      · have := hc 5 (by omega); rw [add_litS, add_litS] at this; exact this
      · have := hc 6 (by omega); rw [add_litS, add_litS] at this; exact this
      · have := hc 7 (by omega); rw [add_litS, add_litS] at this; exact this
      · have := hc 8 (by omega); rw [add_litS, add_litS] at this; exact this
      · have := hc 9 (by omega); rw [add_litS, add_litS] at this; exact this
      · have := hc 10 (by omega); rw [add_litS, add_litS] at this; exact this
    obtain ⟨rs, hrs, hp⟩ := choose_rls len hone
    exact ⟨rs, .inr ⟨b, off, len, m, rfl, hl, hm, hrs, cell_ltS (hp 0 (by omega)).1.1, hp⟩⟩
end Go.Proofs.Ytdellfmkmbabhaa
