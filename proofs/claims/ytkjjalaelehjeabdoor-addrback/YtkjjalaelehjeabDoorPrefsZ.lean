/- A slice of pairs of numbers (prefixes), and a text, that came in, as long as a call may be handed them. -/
import Derived.Test.YtkjjalaelehjeabDoorPrefs
import Derived.SizedLaws
namespace Go.Proofs.YtkjjalaelehjeabDoor
open Go.ChangeShapes Go.WideShapes Go.ChangeAt Go.RowKit Go.Joins Go.Deep
set_option linter.unusedVariables false

theorem str_sz {H : Type} {ts : List TypeId} {ds : List (DataW H)} {j : Nat} {t : TypeId} {s : ByteArray} (hsz : (DataW.weightsEach Tryd.prog ts ds).all (· ≤ reachBytes) = true) (ht : ts[j]? = some t) (hd : ds[j]? = some (.lit (.string s.data.toList))) : s.size ≤ 140737488355328 := by
  have h := sized_string hsz ht hd
  have hcb : reachBytes < 2 ^ 47 := reachBytes_lt
  have e : s.data.toList.length = s.size := by simp
  omega
set_option maxRecDepth 100000 in
theorem open_prefs_sz {H : Type} {enc : TypeId × Value → H} {W : World} {a : Option Addr} {len cap : Nat} {d : DataW H} {p : List MemPlace} {ts : List TypeId} {ds : List (DataW H)} {j : Nat}
    (h : DataW.Trod enc Tryd.prog W 0 (fun _ => true) true 22 (Value.slice a len cap) d p)
    (hsz : (DataW.weightsEach Tryd.prog ts ds).all (· ≤ reachBytes) = true) (ht : ts[j]? = some 22) (hd : ds[j]? = some d) : ∃ ps, Prefs W (.slice a len cap) ps ∧ ps.length ≤ 140737488355328 := by
  obtain ⟨fuel, hf⟩ := h
  rcases open_slice_pairs Tryd.underlying22 Tryd.underlying28 Tryd.cellsPref rfl rfl (by kernel_rfl) (by kernel_rfl) hf with ⟨hcs, _⟩ | ⟨x, l, c, m, n, V0, V1, D0, D1, P0, P1, hcs, _, hl, hm, hmm, hx, hall⟩
  · simp [Value.cells] at hcs
    obtain ⟨rfl, rfl, rfl⟩ := hcs
    exact ⟨[], .inl ⟨rfl, _, _, rfl, fun _ => rfl⟩, by simp⟩
  · simp [Value.cells] at hcs
    obtain ⟨rfl, rfl, rfl⟩ := hcs
    have hmc : m = cap := by simpa using hmm
    subst hmc
    simp only [Prod.mk.injEq] at hx
    obtain ⟨rfl, _⟩ := hx
    have hbk := sized_slice hsz ht hd Tryd.underlying22
    have hcb : reachBytes < 2 ^ 47 := reachBytes_lt
    have hby : Tryd.prog.bytesOf 28 = 16 := by kernel_rfl
    rw [hby] at hbk
    have hlen : len ≤ 140737488355328 := by
      simp at hbk; omega
    have hint : ∀ i, i < m → V0 i = .int .i64 (intOf (V0 i)) ∧ (Lit.int .i64 (intOf (V0 i))).wf = true ∧ V1 i = .int .i64 (intOf (V1 i)) ∧ (Lit.int .i64 (intOf (V1 i))).wf = true := by
      intro i hi
      obtain ⟨_, _, t0, t1⟩ := hall i hi
      obtain ⟨y0, e0, _, w0⟩ := DataW.trod_int Tryd.underlying3 t0
      obtain ⟨y1, e1, _, w1⟩ := DataW.trod_int Tryd.underlying3 t1
      simp at e0 e1
      rw [e0, e1]
      exact ⟨rfl, w0, rfl, w1⟩
    refine ⟨(List.range len).map fun i => (intOf (V0 i), intOf (V1 i)), ?_, by simpa using hlen⟩
    by_cases h0 : len = 0
    · subst h0
      exact .inl ⟨by simp, _, _, rfl, fun h => by cases h⟩
    · obtain ⟨b, off, spot⟩ := x
      have hc := (hall 0 (by omega)).1
      have hspot : spot = none := by simpa [Addr.add] using World.cell?_spot hc
      subst hspot
      refine .inr ⟨b, off, len, m, rfl, hl, hm, by simp, fun i hi => ?_, ?_⟩
      · have hi' : i < len := by simpa using hi
        obtain ⟨c0, c1, _, _⟩ := hall i (by omega)
        obtain ⟨v0, _, v1, _⟩ := hint i (by omega)
        rw [add_lit, v0] at c0
        rw [add_lit, v1] at c1
        rw [← Nat.add_assoc] at c1
        constructor
        · rw [c0]; simp [List.getD, hi', intOf]
        · rw [c1]; simp [List.getD, hi', intOf]
      · intro q hq
        obtain ⟨i, hi, rfl⟩ := List.mem_map.1 hq
        have hi' : i < len := by simpa using hi
        obtain ⟨_, w0, _, w1⟩ := hint i (by omega)
        exact ⟨w0, w1⟩
end Go.Proofs.YtkjjalaelehjeabDoor
