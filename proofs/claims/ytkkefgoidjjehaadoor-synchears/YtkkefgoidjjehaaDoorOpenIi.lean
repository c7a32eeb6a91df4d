/- Rows of numbers that came in, in a slice of slices ([][]int): what lies in them, one behind the other; how many there may be. -/
import Derived.Test.YtkkefgoidjjehaaDoorOpen
import Derived.Lib.SmallJoins
import Derived.Deep.Slices
import Derived.SizedLaws
namespace Go.Proofs.YtkkefgoidjjehaaDoor
open Go.ChangeShapes Go.WideShapes Go.ChangeAt Go.RowKit Go.Joins Go.Deep
set_option linter.unusedVariables false

/-- The value v is a slice of these numbers. -/
def Numz (w : World) (v : Value) (zs : List Int) : Prop :=
  (zs = [] ∧ ∃ a cap, v = .slice a 0 cap) ∨
  ∃ b off len cap, v = .slice (some ⟨b, off, none⟩) len cap ∧ len ≤ cap ∧ cap ≤ maxLen ∧ zs.length = len ∧ b < w.heap.size ∧ zs.length ≤ 140737488355328 ∧ (∀ i (h : i < zs.length), w.cell? ⟨b, off + i, none⟩ = some (.int .i64 zs[i])) ∧ ∀ z ∈ zs, (Lit.int .i64 z).wf = true
/-- The value v is a slice of slices of these numbers. -/
def Rowz (w : World) (v : Value) (ss : List (List Int × Value)) : Prop :=
  (ss = [] ∧ ∃ a cap, v = .slice a 0 cap) ∨
  ∃ b off len cap, v = .slice (some ⟨b, off, none⟩) len cap ∧ len ≤ cap ∧ cap ≤ maxLen ∧ ss.length = len ∧ b < w.heap.size ∧ ∀ i (h : i < ss.length), w.cell? ⟨b, off + i, none⟩ = some ss[i].2 ∧ Numz w ss[i].2 ss[i].1
theorem Numz.len {w : World} {v : Value} {zs : List Int} (h : Numz w v zs) : ∃ a cap, v = .slice a zs.length cap := by
  rcases h with ⟨rfl, a, cap, rfl⟩ | ⟨b, off, len, cap, rfl, _, _, rfl, _⟩
  · exact ⟨a, cap, rfl⟩
  · exact ⟨_, _, rfl⟩
theorem Rowz.len {w : World} {v : Value} {ss : List (List Int × Value)} (h : Rowz w v ss) : ∃ a cap, v = .slice a ss.length cap := by
  rcases h with ⟨rfl, a, cap, rfl⟩ | ⟨b, off, len, cap, rfl, _, _, rfl, _⟩
  · exact ⟨a, cap, rfl⟩
  · exact ⟨_, _, rfl⟩
theorem Numz.below {w w' : World} {v : Value} {zs : List Int} (h : Numz w v zs) (hb : Below w.heap.size w w') : Numz w' v zs := by
  rcases h with h | ⟨b, off, len, cap, h1, h2, h3, h4, h5, h6, h7, h8⟩
  · exact .inl h
  · exact .inr ⟨b, off, len, cap, h1, h2, h3, h4, Nat.lt_of_lt_of_le h5 hb.size, h6, fun i hi => (hb.cell (p := ⟨b, off + i, none⟩) h5).trans (h7 i hi), h8⟩
theorem Rowz.below {w w' : World} {v : Value} {ss : List (List Int × Value)} (h : Rowz w v ss) (hb : Below w.heap.size w w') : Rowz w' v ss := by
  rcases h with h | ⟨b, off, len, cap, h1, h2, h3, h4, h5, h6⟩
  · exact .inl h
  · exact .inr ⟨b, off, len, cap, h1, h2, h3, h4, Nat.lt_of_lt_of_le h5 hb.size, fun i hi => ⟨(hb.cell (p := ⟨b, off + i, none⟩) h5).trans (h6 i hi).1, (h6 i hi).2.below hb⟩⟩
/-- Where there is a number, the slice has a place. -/
theorem Numz.at {w : World} {a : Option Addr} {zs : List Int} {n cap : Nat} (h : Numz w (.slice a n cap) zs) (hz : 0 < zs.length) : ∃ g off, a = some ⟨g, off, none⟩ ∧ g < w.heap.size ∧ zs.length ≤ cap ∧ cap ≤ maxLen ∧ ∀ i (hi : i < zs.length), w.cell? ⟨g, off + i, none⟩ = some (.int .i64 zs[i]) := by
  rcases h with ⟨rfl, _⟩ | ⟨b, off, len, cap', h1, h2, h3, rfl, h5, h6, h7, h8⟩
  · simp at hz
  · simp only [Value.slice.injEq] at h1
    obtain ⟨rfl, rfl, rfl⟩ := h1
    exact ⟨b, off, rfl, h5, h2, h3, h7⟩
theorem Numz.wf {w : World} {v : Value} {zs : List Int} (h : Numz w v zs) : ∀ z ∈ zs, (Lit.int .i64 z).wf = true := by
  rcases h with ⟨rfl, _⟩ | ⟨b, off, len, cap', h1, h2, h3, rfl, h5, h6, h7, h8⟩
  · simp
  · exact h8
theorem Numz.many {w : World} {v : Value} {zs : List Int} (h : Numz w v zs) : zs.length ≤ 140737488355328 := by
  rcases h with ⟨rfl, _⟩ | ⟨b, off, len, cap', h1, h2, h3, rfl, h5, h6, h7, h8⟩
  · simp
  · exact h6
theorem Rowz.at {w : World} {a : Option Addr} {ss : List (List Int × Value)} {n cap : Nat} (h : Rowz w (.slice a n cap) ss) (hz : 0 < ss.length) : ∃ g off, a = some ⟨g, off, none⟩ ∧ g < w.heap.size ∧ ss.length ≤ cap ∧ cap ≤ maxLen ∧ ∀ i (hi : i < ss.length), w.cell? ⟨g, off + i, none⟩ = some ss[i].2 ∧ Numz w ss[i].2 ss[i].1 := by
  rcases h with ⟨rfl, _⟩ | ⟨b, off, len, cap', h1, h2, h3, rfl, h5, h6⟩
  · simp at hz
  · simp only [Value.slice.injEq] at h1
    obtain ⟨rfl, rfl, rfl⟩ := h1
    exact ⟨b, off, rfl, h5, h2, h3, h6⟩
theorem choose_row {α : Type} {P : Nat → α → Prop} : ∀ (n : Nat), (∀ i, i < n → ∃ a, P i a) → ∃ l : List α, l.length = n ∧ ∀ i (h : i < l.length), P i l[i]
  | 0, _ => ⟨[], rfl, fun i h => by simp at h⟩
  | n + 1, H => by
      obtain ⟨l, hl, hp⟩ := choose_row n (fun i hi => H i (by omega))
      obtain ⟨a, ha⟩ := H n (by omega)
      refine ⟨l ++ [a], by simp [hl], fun i hi => ?_⟩
      by_cases h : i < l.length
      · rw [List.getElem_append_left h]; exact hp i h
      · have e : i = n := by simp at hi; omega
        subst e
        subst hl
        simpa using ha
theorem mem_weightsRow {H : Type} {P : Program} {e : TypeId} : ∀ {l : List (DataW H)} {d : DataW H}, d ∈ l → ∀ n ∈ d.weights P e, n ∈ DataW.weightsAll P e l
  | [], d, h, n, hn => by cases h
  | a :: l, d, h, n, hn => by
      rcases List.mem_cons.1 h with rfl | h
      · simp only [DataW.weightsAll, List.mem_append]; exact .inl hn
      · simp only [DataW.weightsAll, List.mem_append]; exact .inr (mem_weightsRow h n hn)
theorem add_litR (b off i : Nat) : Addr.add ⟨b, off, none⟩ i = ⟨b, off + i, none⟩ := by by_cases hi0 : i = 0 <;> simp [Addr.add, hi0]
/-- A row that came in. -/
theorem open_numz {H : Type} {enc : TypeId × Value → H} {W : World} {fuel : Nat} {cs : List Value} {y : DataW H × List MemPlace} (hf : DataW.trod enc Tryd.prog W 0 (fun _ => true) true fuel 53 cs = some y)
    (hw : ∀ n ∈ y.1.weights Tryd.prog 53, n ≤ reachBytes) : ∃ bv zs, cs = [bv] ∧ Numz W bv zs := by
  rcases open_ints Tryd.underlying53 Tryd.underlying3 (by kernel_rfl) hf with ⟨hcs, _⟩ | ⟨x, len, cap, zs, hcs, _, hl, hm, hz, hx, hcell, hwz⟩
  · exact ⟨_, [], hcs, .inl ⟨rfl, _, _, rfl⟩⟩
  · have hz' : zs.length = cap := by simpa using hz
    subst hx
    have hb := hw _ (by simp only [DataW.weights, Tryd.underlying53]; exact List.mem_cons_self)
    rw [show Tryd.prog.bytesOf 3 = 8 by kernel_rfl] at hb
    have hcap : cap * 8 ≤ reachBytes := by simpa [lits, hz', Nat.min_eq_left hl, Nat.add_sub_cancel' hl] using hb
    have hcb : reachBytes < 2 ^ 47 := reachBytes_lt
    refine ⟨_, zs.take len, hcs, ?_⟩
    by_cases h0 : len = 0
    · subst h0
      exact .inl ⟨by simp, _, _, rfl⟩
    · obtain ⟨b, off, spot⟩ := x
      have hc := hcell 0 (by omega)
      have hspot : spot = none := by simpa [Addr.add] using World.cell?_spot hc
      subst hspot
      have hlt : b < W.heap.size := by
        rcases Nat.lt_or_ge b W.heap.size with h1 | h1
        · exact h1
        · simp [World.cell?, Addr.add, Array.getElem?_eq_none h1] at hc
      refine .inr ⟨b, off, len, cap, rfl, hl, hm, by simp; omega, hlt, by simp; omega, fun i hi => ?_, fun n hn => hwz n (List.mem_of_mem_take hn)⟩
      have hi' : i < len := by simp at hi; omega
      have := hcell i (by omega)
      rw [add_litR] at this
      rw [this]
      congr 2
      have hiz : i < zs.length := by omega
      simp [List.getD, List.getElem?_eq_getElem hiz]
theorem Tryd.cellsIi : Tryd.prog.cellsOf 53 = 1 := by kernel_rfl
set_option maxRecDepth 100000 in
theorem open_rowz {H : Type} {enc : TypeId × Value → H} {W : World} {a : Option Addr} {len cap : Nat} {d : DataW H} {p : List MemPlace} {ts : List TypeId} {ds : List (DataW H)} {j : Nat}
    (h : DataW.Trod enc Tryd.prog W 0 (fun _ => true) true 39 (Value.slice a len cap) d p)
    (hsz : (DataW.weightsEach Tryd.prog ts ds).all (· ≤ reachBytes) = true) (ht : ts[j]? = some 39) (hd : ds[j]? = some d) : ∃ ps, Rowz W (.slice a len cap) ps ∧ ps.length ≤ 140737488355328 := by
  obtain ⟨fuel, hf⟩ := h
  rcases open_slice Tryd.underlying39 hf with ⟨hcs, _⟩ | ⟨x, l, c, m, n, D, Pl, hcs, _, hl, hm, hmm, hx, hall⟩
  · simp [Value.cells] at hcs
    obtain ⟨rfl, rfl, rfl⟩ := hcs
    exact ⟨[], .inl ⟨rfl, _, _, rfl⟩, by simp⟩
  · simp [Value.cells] at hcs
    obtain ⟨rfl, rfl, rfl⟩ := hcs
    have hmc : m = cap := by simpa using hmm
    subst hmc
    simp only [Prod.mk.injEq] at hx
    obtain ⟨rfl, _⟩ := hx
    have hbk := sized_slice hsz ht hd Tryd.underlying39
    have hcb : reachBytes < 2 ^ 47 := reachBytes_lt
    rw [show Tryd.prog.bytesOf 53 = 24 by kernel_rfl] at hbk
    have hlen : len ≤ 140737488355328 := by simp at hbk; omega
    by_cases h0 : len = 0
    · subst h0
      exact ⟨[], .inl ⟨rfl, _, _, rfl⟩, by simp⟩
    have hw : ∀ i, i < len → ∀ n ∈ (D i).weights Tryd.prog 53, n ≤ reachBytes := by
      intro i hi n hn
      have h1 : n ∈ DataW.weightsAll Tryd.prog 53 ((List.range len).map D) := mem_weightsRow (List.mem_map.2 ⟨i, by simpa using hi, rfl⟩) n hn
      have h2 : n ∈ (DataW.slice ((List.range len).map D) ((List.range (m - len)).map fun j => D (len + j))).weights Tryd.prog 39 := by
        simp only [DataW.weights, Tryd.underlying39]
        exact List.mem_cons_of_mem _ (List.mem_append_left _ h1)
      have := List.all_eq_true.1 hsz _ (DataW.weights_mem_each ht hd n h2)
      simpa using this
    obtain ⟨b, off, spot⟩ := x
    have hspot : spot = none := by
      obtain ⟨cs', h1, _⟩ := hall 0 (by omega)
      rw [Tryd.cellsIi] at h1
      obtain ⟨_, hlen, hc⟩ := World.cells?_some h1
      have := hc 0 (by omega)
      rw [List.getElem?_eq_getElem (by omega)] at this
      simpa [Addr.add] using World.cell?_spot this
    subst hspot
    have hone : ∀ i, i < len → ∃ q : List Int × Value, W.cell? ⟨b, off + i, none⟩ = some q.2 ∧ Numz W q.2 q.1 := by
      intro i hi
      obtain ⟨cs', h1, h2⟩ := hall i (by omega)
      rw [Tryd.cellsIi] at h1
      obtain ⟨_, hlen, hc⟩ := World.cells?_some h1
      obtain ⟨bv, zs, e, hb⟩ := open_numz h2 (hw i hi)
      subst e
      refine ⟨(zs, bv), ?_, hb⟩
      have := hc 0 (by omega); rw [add_litR, add_litR] at this
      simpa using this
    obtain ⟨ps, hps, hp⟩ := choose_row len hone
    refine ⟨ps, .inr ⟨b, off, len, m, rfl, hl, hm, hps, ?_, hp⟩, by omega⟩
    have hc := (hp 0 (by omega)).1
    rcases Nat.lt_or_ge b W.heap.size with h1 | h1
    · exact h1
    · simp [World.cell?, Array.getElem?_eq_none h1] at hc
end Go.Proofs.YtkkefgoidjjehaaDoor
