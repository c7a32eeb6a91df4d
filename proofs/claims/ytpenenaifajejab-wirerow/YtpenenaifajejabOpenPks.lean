/- A slice of packets that came in: its packets, one behind the other. -/
import Derived.Test.YtpenenaifajejabOpenPk
import Derived.Test.YtpenenaifajejabWireLaw4
namespace Go.Proofs.Ytpenenaifajejab
open Go.ChangeShapes Go.WideShapes Go.ChangeAt Go.RowKit Go.Joins Go.Deep
set_option linter.unusedVariables false

theorem choose_list {α : Type} {P : Nat → α → Prop} : ∀ (n : Nat), (∀ i, i < n → ∃ a, P i a) → ∃ l : List α, l.length = n ∧ ∀ i (h : i < l.length), P i l[i]
  | 0, _ => ⟨[], rfl, fun i h => by simp at h⟩
  | n + 1, H => by
      obtain ⟨l, hl, hp⟩ := choose_list n (fun i hi => H i (by omega))
      obtain ⟨a, ha⟩ := H n (by omega)
      refine ⟨l ++ [a], by simp [hl], fun i hi => ?_⟩
      by_cases h : i < l.length
      · rw [List.getElem_append_left h]; exact hp i h
      · have e : i = n := by simp at hi; omega
        subst e
        subst hl
        simpa using ha
theorem add_lit8 (b off i : Nat) : Addr.add ⟨b, off, none⟩ i = ⟨b, off + i, none⟩ := by by_cases hi0 : i = 0 <;> simp [Addr.add, hi0]

set_option maxRecDepth 100000 in
theorem open_packs {H : Type} {enc : TypeId × Value → H} {W : World} {a : Option Addr} {len cap : Nat} {d : DataW H} {p : List MemPlace} {ts : List TypeId} {ds : List (DataW H)} {j : Nat}
    (h : DataW.Trod enc Try.prog W 0 (fun _ => true) true 22 (Value.slice a len cap) d p)
    (hsz : (DataW.weightsEach Try.prog ts ds).all (· ≤ reachBytes) = true) (ht : ts[j]? = some 22) (hd : ds[j]? = some d) : ∃ ps, Packs W (.slice a len cap) ps := by
  obtain ⟨fuel, hf⟩ := h
  rcases open_slice Try.underlying22 hf with ⟨hcs, _⟩ | ⟨x, l, c, m, n, D, Pl, hcs, _, hl, hm, hmm, hx, hall⟩
  · simp [Value.cells] at hcs
    obtain ⟨rfl, rfl, rfl⟩ := hcs
    exact ⟨[], .inl ⟨rfl, _, _, rfl⟩⟩
  · simp [Value.cells] at hcs
    obtain ⟨rfl, rfl, rfl⟩ := hcs
    have hmc : m = cap := by simpa using hmm
    subst hmc
    simp only [Prod.mk.injEq] at hx
    obtain ⟨rfl, _⟩ := hx
    by_cases h0 : len = 0
    · subst h0
      exact ⟨[], .inl ⟨rfl, _, _, rfl⟩⟩
    have hw : ∀ i, i < len → ∀ n ∈ (D i).weights Try.prog 25, n ≤ reachBytes := by
      intro i hi n hn
      have h1 : n ∈ DataW.weightsAll Try.prog 25 ((List.range len).map D) := mem_weightsAll (List.mem_map.2 ⟨i, by simpa using hi, rfl⟩) n hn
      have h2 : n ∈ (DataW.slice ((List.range len).map D) ((List.range (m - len)).map fun j => D (len + j))).weights Try.prog 22 := by
        simp only [DataW.weights, Try.underlying22]
        exact List.mem_cons_of_mem _ (List.mem_append_left _ h1)
      have := List.all_eq_true.1 hsz _ (DataW.weights_mem_each ht hd n h2)
      simpa using this
    obtain ⟨b, off, spot⟩ := x
    have hspot : spot = none := by
      obtain ⟨cs', h1, _⟩ := hall 0 (by omega)
      rw [Try.cellsPk] at h1
      obtain ⟨_, hlen, hc⟩ := World.cells?_some h1
      have := hc 0 (by omega)
      rw [List.getElem?_eq_getElem (by omega)] at this
      simpa [Addr.add] using World.cell?_spot this
    subst hspot
    have hone : ∀ i, i < len → ∃ q : Pk × Value, PkCells W b (off + i * 8) q.1 q.2 := by
      intro i hi
      obtain ⟨cs', h1, h2⟩ := hall i (by omega)
      rw [Try.cellsPk] at h1
      obtain ⟨_, hlen, hc⟩ := World.cells?_some h1
      obtain ⟨q, bv, e, hb⟩ := open_pkcells h2 (hw i hi)
      subst e
      refine ⟨(q, bv), ⟨?_, ?_, ?_, ?_, ?_, ?_, ?_, ?_⟩, hb⟩
      · have := hc 0 (by omega); rw [add_lit8, add_lit8] at this; exact this
      · have := hc 1 (by omega); rw [add_lit8, add_lit8] at this; exact this
      · have := hc 2 (by omega); rw [add_lit8, add_lit8] at this; exact this
      · have := hc 3 (by omega); rw [add_lit8, add_lit8] at this; exact this
      · have := hc 4 (by omega); rw [add_lit8, add_lit8] at this; exact this
      · have := hc 5 (by omega); rw [add_lit8, add_lit8] at this; exact this
      · have := hc 6 (by omega); rw [add_lit8, add_lit8] at this; exact this
      · have := hc 7 (by omega); rw [add_lit8, add_lit8] at this; exact this
    obtain ⟨ps, hps, hp⟩ := choose_list len hone
    exact ⟨ps, .inr ⟨b, off, len, m, rfl, hl, hm, hps, hp⟩⟩

set_option maxRecDepth 100000 in
set_option maxHeartbeats 4000000 in
theorem row_none (a : Option Addr) (cap : Nat) (w : World) :
    Calls Try.prog 3 #[.slice a 0 cap] w fun e w' => e = .returned (.bool true) ∧ Below w.heap.size w w' := by
  have hrd := read_any (.slice none 0 0) [] w (.inl ⟨rfl, _, _, rfl, fun _ => rfl⟩)
  rw [show meas [] = (0, 8) from rfl, show readF [] = zeroK from rfl, show errV 8 = .iface 40 (.int .i64 8) from rfl] at hrd
  unfold pkV zeroK at hrd
  simp only at hrd
  go_enter Try.func3, Try.ntmps3
  go_upto_region 2 with (go_at_call 4; refine hrd.mono ?_; rintro e w1 ⟨v1, rfl, hv1, bw1⟩; obtain ⟨a1, c1, rfl⟩ := len_body hv1)
  have bw2 : Below w.heap.size w (w1.alloc (.cells #[.int .i64 0, .int .i64 0, .int .i64 0, .int .i64 0, .int .i64 0, .int .i64 0, .bool false, .slice a1 0 c1] 25)) := bw1.alloc bw1.size _
  have HB : Hid _ := bw2
  clear bw2 hrd
  go_wp2_with fail
  refine wp_loop_rounds 1 ?_
  rw [rounds_succ]
  go_wp2_with fail
  refine wp_loop_rounds 1 ?_
  rw [rounds_succ]
  go_wp2_with fail
  go_ret
  exact ⟨rfl, HB.out⟩
theorem row_walk (v : Value) (ps : List (Pk × Value)) (w : World) (h : Packs w v ps) :
    Calls Try.prog 3 #[v] w fun e w' => e = .returned (.bool true) ∧ Below w.heap.size w w' := by
  rcases h with ⟨rfl, a, cap, rfl⟩ | ⟨b, off, len, cap, rfl, h1, h2, h3, h4⟩
  · exact row_none a cap w
  · exact row_any b off len cap ps w h1 h2 h3 h4
end Go.Proofs.Ytpenenaifajejab
