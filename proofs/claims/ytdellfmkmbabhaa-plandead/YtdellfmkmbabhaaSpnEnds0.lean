/- Plain facts on the numbers at which spans begin and end: sorted, each once; what slices.Sort and slices.Compact leave of a row of numbers of the call's own. -/
import Derived.Test.YtdellfmkmbabhaaSpnHas
import Derived.Test.YtdellfmkmbabhaaOwnI
import Derived.Test.YtdellfmkmbabhaaShelf
import Derived.Sort.OwnSortedInts
import Derived.Lib.SlicesCompact
import Derived.Lib.RowBridge
namespace Go.Proofs.Ytdellfmkmbabhaa
open Go.RowKit
open Go.Sort hiding Below
set_option linter.unusedVariables false

theorem compactUpTo_is (d : Array Int) (hs : ∀ i j, i ≤ j → j < d.size → d[i]! ≤ d[j]!) : ∀ m, m ≤ d.size →
    (Lib.compactUpTo d m).Pairwise (· < ·) ∧ (∀ x, x ∈ Lib.compactUpTo d m ↔ ∃ j, j < m ∧ x = d[j]!) := by
  intro m
  induction m with
  | zero => intro _; exact ⟨by simp [Lib.compactUpTo], fun x => by simp [Lib.compactUpTo]⟩
  | succ m ih =>
    intro hm
    obtain ⟨i1, i2⟩ := ih (by omega)
    rw [Lib.compactUpTo_succ]
    by_cases hk : Lib.keeps d m = true
    · rw [if_pos hk]
      refine ⟨List.pairwise_append.2 ⟨i1, List.pairwise_singleton _ _, fun x hx y hy => ?_⟩, fun x => ?_⟩
      · rw [List.mem_singleton] at hy; subst hy
        obtain ⟨j, hj, rfl⟩ := (i2 x).1 hx
        have hne : m = 0 ∨ d[m]! ≠ d[m - 1]! := by simpa [Lib.keeps] using hk
        have h1 := hs j (m - 1) (by omega) (by omega)
        have h2 := hs (m - 1) m (by omega) (by omega)
        rcases hne with h | h
        · omega
        · omega
      · rw [List.mem_append, i2, List.mem_singleton]
        constructor
        · rintro (⟨j, hj, rfl⟩ | rfl)
          · exact ⟨j, by omega, rfl⟩
          · exact ⟨m, by omega, rfl⟩
        · rintro ⟨j, hj, rfl⟩
          by_cases h : j = m
          · subst h; exact .inr rfl
          · exact .inl ⟨j, by omega, rfl⟩
    · rw [if_neg hk, List.append_nil]
      refine ⟨i1, fun x => ?_⟩
      rw [i2]
      have hne : ¬ (m = 0 ∨ d[m]! ≠ d[m - 1]!) := by simpa [Lib.keeps] using hk
      constructor
      · rintro ⟨j, hj, rfl⟩; exact ⟨j, by omega, rfl⟩
      · rintro ⟨j, hj, rfl⟩
        by_cases h : j = m
        · subst h
          refine ⟨j - 1, by omega, ?_⟩
          exact Classical.byContradiction fun h2 => hne (.inr h2)
        · exact ⟨j, by omega, rfl⟩
theorem compact_is (zs : List Int) (hs : zs.Pairwise (· ≤ ·)) : (Lib.compact zs).Pairwise (· < ·) ∧ ∀ x, x ∈ Lib.compact zs ↔ x ∈ zs := by
  have gb : ∀ i (h : i < zs.length), zs.toArray[i]! = zs[i] := fun i h => by rw [getElem!_pos _ i (by simpa using h)]; simp
  obtain ⟨h1, h2⟩ := compactUpTo_is zs.toArray (fun i j hij hj => by
    have hj' : j < zs.length := by simpa using hj
    rw [gb i (by omega), gb j hj']
    rcases Nat.lt_or_eq_of_le hij with h | h
    · exact (List.pairwise_iff_getElem.1 hs) i j (by omega) hj' h
    · subst h; exact Int.le_refl _) zs.length (by simp)
  refine ⟨h1, fun x => ?_⟩
  unfold Lib.compact
  rw [h2]
  constructor
  · rintro ⟨j, hj, rfl⟩; rw [gb j hj]; exact List.getElem_mem _
  · intro hx
    obtain ⟨j, hj, rfl⟩ := List.getElem_of_mem hx
    exact ⟨j, hj, (gb j hj).symm⟩
theorem sorted_is (zs : List Int) : (zs.mergeSort fun x y => decide (x ≤ y)).Pairwise (· ≤ ·) ∧ (∀ x, x ∈ (zs.mergeSort fun x y => decide (x ≤ y)) ↔ x ∈ zs) ∧ (zs.mergeSort fun x y => decide (x ≤ y)).length = zs.length := by
  refine ⟨?_, fun x => List.mem_mergeSort, List.length_mergeSort _⟩
  have := List.pairwise_mergeSort (le := fun x y : Int => decide (x ≤ y)) (fun a b c h1 h2 => by simp at *; omega) (fun a b => by simp; omega) zs
  exact this.imp (fun h => by simpa using h)
def endsOf (s : Sp) : List Int := if 0 < s.1 then [s.1, s.2 + 1] else [s.2 + 1]
def endsL (l : List Sp) : List Int := 65536 :: l.flatMap endsOf
theorem endsL_snoc (l : List Sp) (s : Sp) : endsL (l ++ [s]) = endsL l ++ endsOf s := by simp [endsL]
theorem endsL_len (l : List Sp) : (endsL l).length ≤ 2 * l.length + 1 := by
  unfold endsL
  have : (l.flatMap endsOf).length ≤ 2 * l.length := by
    induction l with
    | nil => simp
    | cons s r ih =>
      have h2 : (endsOf s).length ≤ 2 := by unfold endsOf; split <;> simp
      rw [List.flatMap_cons, List.length_append, List.length_cons]; omega
  rw [List.length_cons]; omega
theorem endsL_in {l : List Sp} (h : OkS l) : (∀ e ∈ endsL l, 0 < e ∧ e ≤ 65536) ∧ ∀ e, isEnd l e ∨ e = 65536 → e ∈ endsL l := by
  refine ⟨fun e he => ?_, fun e he => ?_⟩
  · unfold endsL at he
    rcases List.mem_cons.1 he with rfl | he
    · omega
    · obtain ⟨s, hs, h1⟩ := List.mem_flatMap.1 he
      have := h s hs
      unfold endsOf at h1
      split at h1
      · simp at h1; omega
      · simp at h1; omega
  · unfold endsL
    rcases he with ⟨s, hs, h1⟩ | rfl
    · refine List.mem_cons_of_mem _ (List.mem_flatMap.2 ⟨s, hs, ?_⟩)
      unfold endsOf
      rcases h1 with ⟨rfl, h1⟩ | rfl
      · rw [if_pos h1]; simp
      · split <;> simp
    · exact List.mem_cons_self
theorem isEnd_append {a b : List Sp} {e : Int} (h : isEnd a e ∨ isEnd b e) : isEnd (a ++ b) e := by
  rcases h with ⟨s, hs, h⟩ | ⟨s, hs, h⟩
  · exact ⟨s, List.mem_append.2 (.inl hs), h⟩
  · exact ⟨s, List.mem_append.2 (.inr hs), h⟩
/-- slices.Sort of a row of the call's own. -/
theorem isort_any (base : Nat) (v : Value) (zs : List Int) (w : World) (hv : OwnI w base v zs) (hz : 0 < zs.length) (hN : zs.length ≤ 1000000) :
    Calls Try.prog 62 #[v] w fun e w' => e = .returned (.tuple #[]) ∧ OwnI w' base v (zs.mergeSort fun x y => decide (x ≤ y)) ∧ w.grownBy w' v.ownBlock := by
  obtain ⟨g, cap, rfl, hbg, hgl, hcl, hcm⟩ := hv.shape hz
  rcases hv.2 with ⟨h0, _⟩ | ⟨g', cap', cur, he, _, hh, hl, hm, hcs, htake⟩
  · cases h0
  simp only [Value.slice.injEq, Option.some.injEq, Addr.mk.injEq] at he
  obtain ⟨⟨rfl, _⟩, _, rfl⟩ := he
  rw [Nat.mul_one] at htake
  refine (Try.slices_Sort_int g 0 cap zs w (holds_of_blockI hh htake) hgl (by omega)).mono ?_
  rintro e w' ⟨rfl, n, os, rfl⟩
  refine ⟨rfl, ?_, grownBy_sortedI _⟩
  have := ownsRow_sortedI (w := w) (base := base) (n := n) (os := os) (sorted_is zs).2.2 hbg hh hl hm (by rw [hcs])
  unfold OwnI
  rw [(sorted_is zs).2.2]; exact this
/-- slices.Compact of a row of the call's own. -/
theorem icompact_any (base : Nat) (v : Value) (zs : List Int) (w : World) (hv : OwnI w base v zs) (hz : 0 < zs.length) (hN : zs.length ≤ 1000000) :
    Calls Try.prog 63 #[v] w fun e w' => ∃ v', e = .returned v' ∧ OwnI w' base v' (Lib.compact zs) ∧ w.grownBy w' v.ownBlock := by
  obtain ⟨g, cap, rfl, hbg, hgl, hcl, hcm⟩ := hv.shape hz
  rcases hv.2 with ⟨h0, _⟩ | ⟨g', cap', cur, he, _, hh, hl, hm, hcs, htake⟩
  · cases h0
  simp only [Value.slice.injEq, Option.some.injEq, Addr.mk.injEq] at he
  obtain ⟨⟨rfl, _⟩, _, rfl⟩ := he
  rw [Nat.mul_one] at htake
  refine (Try.slices_Compact_int g 0 cap zs w (holds_of_blockI hh htake) (by omega) hl).mono ?_
  rintro e w' ⟨rfl, q, rfl⟩
  have hcl2 := Lib.compact_length_le zs
  have hlen : (Lib.compact zs ++ List.replicate (zs.length - (Lib.compact zs).length) 0).length = zs.length := by simp; omega
  have h1 := ownsRow_sortedI (w := w) (base := base) (n := q) (os := #[]) hlen hbg hh hl hm (by rw [hcs])
  have h2 := grownBy_sortedI (w := w) (g := g) (n := q) (os := #[]) (Lib.compact zs ++ List.replicate (zs.length - (Lib.compact zs).length) 0).toArray
  rw [grow_empty] at h1 h2
  refine ⟨_, rfl, ?_, h2⟩
  have h3 : OwnI (putRow (Value.int .i64) (Sort.ahead w q) g 0 (Lib.compact zs ++ List.replicate (zs.length - (Lib.compact zs).length) 0).toArray) base (.slice (some ⟨g, 0, none⟩) zs.length cap) (Lib.compact zs ++ List.replicate (zs.length - (Lib.compact zs).length) 0) := by
    unfold OwnI; rw [hlen]; exact h1
  have h4 := h3.cut hlen.symm (Lib.compact zs).length hcl2
  rw [List.take_left] at h4
  exact h4
end Go.Proofs.Ytdellfmkmbabhaa
