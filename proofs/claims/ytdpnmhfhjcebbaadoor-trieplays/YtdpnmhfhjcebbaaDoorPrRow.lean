/- Pairs that lie one behind the other in memory ('Prs'); what portsame.Pairs returns of two slices that hold the same pairs: true. -/
import Derived.Test.YtdpnmhfhjcebbaaDoorTrieFnd
import Derived.Test.YtdpnmhfhjcebbaaDoorEqR
namespace Go.Proofs.YtdpnmhfhjcebbaaDoor
open Go.RowKit
set_option linter.unusedVariables false
set_option maxRecDepth 4000

def PrCells (w : World) (b o : Nat) (p : Pr) : Prop := w.cell? ⟨b, o, none⟩ = some (.int .i64 p.a) ∧ w.cell? ⟨b, o + 1, none⟩ = some (.int .i64 p.l) ∧ w.cell? ⟨b, o + 2, none⟩ = some (.int .i64 p.v)
/-- The value v is a slice that holds the pairs ps. -/
def Prs (w : World) (v : Value) (ps : List Pr) : Prop :=
  (ps = [] ∧ ∃ a cap, v = .slice a 0 cap) ∨
  ∃ b off len cap, v = .slice (some ⟨b, off, none⟩) len cap ∧ len ≤ cap ∧ cap ≤ maxLen ∧ ps.length = len ∧ b < w.heap.size ∧ ∀ i (h : i < ps.length), PrCells w b (off + i * 3) ps[i]
theorem PrCells.keep {w w' : World} {b o : Nat} {p : Pr} (h : PrCells w b o p) (hb : w'.heap[b]? = w.heap[b]?) : PrCells w' b o p :=
  ⟨(World.cell?_of_block (w := w) (a := ⟨b, o, none⟩) hb).trans h.1, (World.cell?_of_block (w := w) (a := ⟨b, o + 1, none⟩) hb).trans h.2.1, (World.cell?_of_block (w := w) (a := ⟨b, o + 2, none⟩) hb).trans h.2.2⟩
theorem Prs.below {w w' : World} {v : Value} {ps : List Pr} (h : Prs w v ps) (hb : Below w.heap.size w w') : Prs w' v ps := by
  rcases h with h | ⟨b, off, len, cap, h1, h2, h3, h4, h5, h6⟩
  · exact .inl h
  · exact .inr ⟨b, off, len, cap, h1, h2, h3, h4, by have := hb.size; omega, fun i hi => (h6 i hi).keep (hb.block b h5)⟩
/-- The block that a slice lies in. -/
theorem Prs.keep {w w' : World} {v : Value} {ps : List Pr} (h : Prs w v ps) (hs : w.heap.size ≤ w'.heap.size) (hb : ∀ k, v.ownBlock = some k → w'.heap[k]? = w.heap[k]?) : Prs w' v ps := by
  rcases h with h | ⟨b, off, len, cap, h1, h2, h3, h4, h5, h6⟩
  · exact .inl h
  · exact .inr ⟨b, off, len, cap, h1, h2, h3, h4, by omega, fun i hi => (h6 i hi).keep (hb b (by rw [h1]; rfl))⟩
theorem Prs.len {w : World} {v : Value} {ps : List Pr} (h : Prs w v ps) : ∃ a c, v = .slice a ps.length c := by
  rcases h with ⟨rfl, a, c, rfl⟩ | ⟨b, off, len, cap, rfl, _, _, rfl, _⟩
  · exact ⟨a, c, rfl⟩
  · exact ⟨_, _, rfl⟩
theorem Prs.shape {w : World} {a : Option Addr} {n c : Nat} {ps : List Pr} (h : Prs w (.slice a n c) ps) (hz : 0 < ps.length) : ∃ b off, a = some ⟨b, off, none⟩ ∧ b < w.heap.size ∧ n ≤ c ∧ c ≤ maxLen ∧ ∀ i (h : i < ps.length), PrCells w b (off + i * 3) ps[i] := by
  rcases h with ⟨rfl, _⟩ | ⟨b, off, len, cap, h1, h2, h3, h4, h5, h6⟩
  · simp at hz
  · simp only [Value.slice.injEq] at h1
    obtain ⟨rfl, rfl, rfl⟩ := h1
    exact ⟨b, off, rfl, h5, h2, h3, h6⟩
theorem OwnR.prs {w : World} {base : Nat} {v : Value} {ps : List Pr} (h : OwnR w base v ps) : Prs w v ps := by
  rcases Nat.eq_zero_or_pos ps.length with h0 | h0
  · have hz : ps = [] := List.length_eq_zero_iff.1 h0
    subst hz
    obtain ⟨a, c, rfl⟩ := h.len
    exact .inl ⟨rfl, a, c, rfl⟩
  · obtain ⟨g, cap, rfl, _, h2, h3, h4⟩ := h.shape h0
    refine .inr ⟨g, 0, ps.length, cap, rfl, h3, h4, rfl, h2, fun i hi => ?_⟩
    rw [Nat.zero_add]; exact h.cells i hi
set_option maxHeartbeats 8000000 in
theorem samePrs (v1 v2 : Value) (ps : List Pr) (w : World) (h1 : Prs w v1 ps) (h2 : Prs w v2 ps) :
    Calls Tryd.prog 11 #[v1, v2] w fun e w' => e = .returned (.bool true) ∧ Below w.heap.size w w' := by
  obtain ⟨a1, c1, rfl⟩ := h1.len
  obtain ⟨a2, c2, rfl⟩ := h2.len
  obtain ⟨N, hN⟩ : ∃ N, ps.length = N := ⟨_, rfl⟩
  rw [hN] at h1 h2 ⊢
  have HN : Hid (ps.length = N) := hN
  have H1 : Hid (Prs w (.slice a1 N c1) ps) := h1
  have H2 : Hid (Prs w (.slice a2 N c2) ps) := h2
  have hg := Tryd.prGuard
  have hne := Tryd.prNeq
  clear h1 h2 hN
  go_enter Tryd.func11, Tryd.ntmps11
  go_wp2_with fail
  go_loopw [5] (fun i wr => ∃ k : Nat, k ≤ N ∧ i = .int .i64 (k : Int) ∧ Below w.heap.size w wr) (fun i _ => ((N : Int) - intOf i).toNat)
  case atStart => exact ⟨0, by omega, rfl, Below.refl _ _⟩
  case round =>
    obtain ⟨k, hk, rfl, hb⟩ := hrel
    by_cases hkn : k < N
    · have i1 : (k : Int) < (N : Int) := by omega
      have i2 : (0 : Int) ≤ (k : Int) := by omega
      have hps : 0 < ps.length := by have := HN.out; omega
      obtain ⟨b1, o1, e1, hb1, hl1, hx1, hc1⟩ := H1.out.shape hps
      obtain ⟨b2, o2, e2, hb2, hl2, hx2, hc2⟩ := H2.out.shape hps
      subst e1 e2
      have hkp : k < ps.length := by have := HN.out; omega
      obtain ⟨x0, x1, x2⟩ := (hc1 k hkp).keep (hb.block b1 hb1)
      obtain ⟨y0, y1, y2⟩ := (hc2 k hkp).keep (hb.block b2 hb2)
      generalize ps[k] = q at x0 x1 x2 y0 y1 y2
      have hx1' : c1 ≤ 9223372036854775807 := by unfold maxLen at hx1; omega
      have hx2' : c2 ≤ 9223372036854775807 := by unfold maxLen at hx2; omega
      have HB : Hid (Below w.heap.size w wr) := hb
      clear hc1 hc2 hx1 hx2 hb hps hkp
      go_upto_region 6 with fail
      go_region
      all_goals
        go_wp2_with fail
        go_roundw
        case rel => exact ⟨k + 1, by omega, by go_num, HB.out.drew⟩
        case measure => simp [intOf]; omega
    · have hkn' : k = N := by omega
      subst hkn'
      have i1 : ¬ (k : Int) < (k : Int) := by omega
      have HB : Hid (Below w.heap.size w wr) := hb
      clear hb
      go_wp2_with fail
      go_ret
      exact ⟨rfl, HB.out⟩
end Go.Proofs.YtdpnmhfhjcebbaaDoor
