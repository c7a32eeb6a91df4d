/- A slice of pairs of numbers (prefixes) that came in: its cells, as the rows hand it in, where the arguments are of bulk at most 1048576. -/
import Derived.Test.YtkjjalaelehjeabDoorBulk
import Derived.Deep.SlicePairs
import Derived.Below
namespace Go.Proofs.YtkjjalaelehjeabDoor
open Go.ChangeShapes Go.WideShapes Go.ChangeAt Go.RowKit Go.Joins Go.Deep
set_option linter.unusedVariables false

/-- The value v is a slice that holds the pairs ps. -/
def Prefs (w : World) (v : Value) (ps : List (Int × Int)) : Prop :=
  (ps = [] ∧ ∃ a cap, v = .slice a 0 cap ∧ (a = none → cap = 0)) ∨
  ∃ b off len cap, v = .slice (some ⟨b, off, none⟩) len cap ∧ len ≤ cap ∧ cap ≤ maxLen ∧ ps.length = len ∧
    (∀ i, i < ps.length → w.cell? ⟨b, off + i * 2, none⟩ = some (.int .i64 (ps.getD i (0, 0)).1) ∧ w.cell? ⟨b, off + i * 2 + 1, none⟩ = some (.int .i64 (ps.getD i (0, 0)).2)) ∧
    ∀ p ∈ ps, (Lit.int .i64 p.1).wf = true ∧ (Lit.int .i64 p.2).wf = true

theorem Prefs.below {w w' : World} {v : Value} {ps : List (Int × Int)} {B : Nat} (h : Prefs w v ps) (hB : w.heap.size ≤ B) (hb : Below B w w') : Prefs w' v ps := by
  rcases h with h | ⟨b, off, len, cap, h1, h2, h3, h5, h6, h7⟩
  · exact .inl h
  · refine .inr ⟨b, off, len, cap, h1, h2, h3, h5, fun i hi => ?_, h7⟩
    have hc := h6 i hi
    have hlt : b < w.heap.size := by
      rcases Nat.lt_or_ge b w.heap.size with h | h
      · exact h
      · have := hc.1; simp [World.cell?, Array.getElem?_eq_none h] at this
    rw [hb.cell (p := ⟨b, off + i * 2, none⟩) (Nat.lt_of_lt_of_le hlt hB), hb.cell (p := ⟨b, off + i * 2 + 1, none⟩) (Nat.lt_of_lt_of_le hlt hB)]
    exact hc
theorem Prefs.len {w : World} {a : Option Addr} {l c : Nat} {ps : List (Int × Int)} (h : Prefs w (.slice a l c) ps) : l = ps.length := by
  rcases h with ⟨rfl, a', c', h, _⟩ | ⟨b, off, len, cap, h, _, _, h5, _⟩
  · simp only [Value.slice.injEq] at h; simp [h.2.1]
  · simp only [Value.slice.injEq] at h; rw [h.2.1, h5]

theorem Prefs.cells {w : World} {ao : Option Addr} {l c : Nat} {ps : List (Int × Int)} (h : Prefs w (.slice ao l c) ps) (hz : 0 < ps.length) :
    ∃ b off, ao = some ⟨b, off, none⟩ ∧ ∀ i, i < ps.length → w.cell? ⟨b, off + i * 2, none⟩ = some (.int .i64 (ps.getD i (0, 0)).1) ∧ w.cell? ⟨b, off + i * 2 + 1, none⟩ = some (.int .i64 (ps.getD i (0, 0)).2) := by
  rcases h with ⟨rfl, _⟩ | ⟨b, off, len, cap, h, _, _, _, h6, _⟩
  · simp at hz
  · simp only [Value.slice.injEq] at h
    exact ⟨b, off, h.1, h6⟩

theorem add_lit (b off i : Nat) : Addr.add ⟨b, off, none⟩ i = ⟨b, off + i, none⟩ := by by_cases hi0 : i = 0 <;> simp [Addr.add, hi0]

set_option maxRecDepth 100000 in
theorem open_prefs {H : Type} {enc : TypeId × Value → H} {W : World} {a : Option Addr} {len cap : Nat} {d : DataW H} {p : List MemPlace} {ds : List (DataW H)} {j : Nat}
    (h : DataW.Trod enc Tryd.prog W 0 (fun _ => true) true 22 (Value.slice a len cap) d p)
    (hk : Rows.uptoBulkAll ds ≤ 1048576) (hd : ds[j]? = some d) : ∃ ps, Prefs W (.slice a len cap) ps ∧ ps.length ≤ 1048576 := by
  obtain ⟨fuel, hf⟩ := h
  rcases open_slice_pairs Tryd.underlying22 Tryd.underlying28 Tryd.cellsPref rfl rfl (by kernel_rfl) (by kernel_rfl) hf with ⟨hcs, _⟩ | ⟨x, l, c, m, n, V0, V1, D0, D1, P0, P1, hcs, _, hl, hm, hmm, hx, hall⟩
  · simp [Value.cells] at hcs
    obtain ⟨rfl, rfl, rfl⟩ := hcs
    exact ⟨[], .inl ⟨rfl, _, _, rfl, fun _ => rfl⟩, by simp⟩
  · simp [Value.cells] at hcs
    obtain ⟨rfl, rfl, rfl⟩ := hcs
    have hmc : m = cap := by simpa using hmm
    subst hmc
    simp only [Prod.mk.injEq] at hx
    obtain ⟨rfl, _⟩ := hx
    have hbk := bulk_get hd
    simp only [Rows.uptoBulk] at hbk
    have hlen : len ≤ 1048576 := by
      have := bulk_len ((List.range len).map fun i => DataW.agg [D0 i, D1 i])
      simp at this; omega
    have hint : ∀ i, i < m → V0 i = .int .i64 (intOf (V0 i)) ∧ (Lit.int .i64 (intOf (V0 i))).wf = true ∧ V1 i = .int .i64 (intOf (V1 i)) ∧ (Lit.int .i64 (intOf (V1 i))).wf = true := by
      intro i hi
      obtain ⟨_, _, t0, t1⟩ := hall i hi
      obtain ⟨y0, e0, _, w0⟩ := DataW.trod_int Tryd.underlying3 t0
      obtain ⟨y1, e1, _, w1⟩ := DataW.trod_int Tryd.underlying3 t1
      simp at e0 e1
      rw [e0, e1]
      exact ⟨rfl, w0, rfl, w1⟩
    refine ⟨(List.range len).map fun i => (intOf (V0 i), intOf (V1 i)), ?_, by simpa using hlen⟩
    by_cases h0 : len = 0
    · subst h0
      exact .inl ⟨by simp, _, _, rfl, fun h => by cases h⟩
    · obtain ⟨b, off, spot⟩ := x
      have hc := (hall 0 (by omega)).1
      have hspot : spot = none := by simpa [Addr.add] using World.cell?_spot hc
      subst hspot
      refine .inr ⟨b, off, len, m, rfl, hl, hm, by simp, fun i hi => ?_, ?_⟩
      · have hi' : i < len := by simpa using hi
        obtain ⟨c0, c1, _, _⟩ := hall i (by omega)
        obtain ⟨v0, _, v1, _⟩ := hint i (by omega)
        rw [add_lit, v0] at c0
        rw [add_lit, v1] at c1
        rw [← Nat.add_assoc] at c1
        constructor
        · rw [c0]; simp [List.getD, hi', intOf]
        · rw [c1]; simp [List.getD, hi', intOf]
      · intro q hq
        obtain ⟨i, hi, rfl⟩ := List.mem_map.1 hq
        have hi' : i < len := by simpa using hi
        obtain ⟨_, w0, _, w1⟩ := hint i (by omega)
        exact ⟨w0, w1⟩
end Go.Proofs.YtkjjalaelehjeabDoor
