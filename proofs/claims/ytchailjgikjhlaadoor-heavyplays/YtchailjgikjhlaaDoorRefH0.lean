/- The reference's counts (portref2.H) in memory ('RfAt'): what at and Count of it return. -/
import Derived.Test.YtchailjgikjhlaaDoorHvPre
import Derived.Test.YtchailjgikjhlaaDoorOwnV
namespace Go.Proofs.YtchailjgikjhlaaDoor
open Go.RowKit Go.Maps
set_option linter.unusedVariables false

/-- Block b is the reference's Heavy, v its row of counts, which lies from block base on. -/
structure RfAt (w : World) (base b : Nat) (h : Hv) (v : Value) : Prop where
  blk : w.heap[b]? = some (.cells #[.int .i64 h.n, .int .i64 h.less, .int .i64 h.all, v] 32 (0, 0))
  own : OwnCt w base v (h.l.map (ctOf 0))
  bb : b < base
theorem RfAt.lt {w : World} {base b : Nat} {h : Hv} {v : Value} (k : RfAt w base b h v) : b < w.heap.size := blkLt k.blk
theorem RfAt.keep {w w' : World} {base b : Nat} {h : Hv} {v : Value} (k : RfAt w base b h v) (hb : w'.heap[b]? = w.heap[b]?) (hv : ∀ g, v.ownBlock = some g → w'.heap[g]? = w.heap[g]?) : RfAt w' base b h v := ⟨hb.trans k.blk, OwnN.blk k.own hv, k.bb⟩
theorem RfAt.below {w w' : World} {base b : Nat} {h : Hv} {v : Value} (k : RfAt w base b h v) (hb : Below w.heap.size w w') : RfAt w' base b h v := k.keep (hb.block _ k.lt) (fun g hg => hb.block _ (OwnN.block k.own g hg).2)
theorem RfAt.turn {w w' : World} {base b : Nat} {h : Hv} {v : Value} {F : Nat → Prop} (k : RfAt w base b h v) (t : Turn F w w') (hb : ¬ F b) (hv : ∀ g, v.ownBlock = some g → ¬ F g) : RfAt w' base b h v := k.keep (t.block _ k.lt hb) (fun g hg => t.block _ (OwnN.block k.own g hg).2 (hv g hg))
theorem rf_cells {w : World} {b : Nat} {x y z u : Value} (h : w.heap[b]? = some (.cells #[x, y, z, u] 32 (0, 0))) : w.cell? ⟨b, 0, none⟩ = some x ∧ w.cell? ⟨b, 1, none⟩ = some y ∧ w.cell? ⟨b, 2, none⟩ = some z ∧ w.cell? ⟨b, 3, none⟩ = some u := by
  refine ⟨?_, ?_, ?_, ?_⟩ <;> (rw [cell_of_row w b _ _ _ _ h]; rfl)
theorem rf_frees {w : World} {b : Nat} {x y z u : Value} (h : w.heap[b]? = some (.cells #[x, y, z, u] 32 (0, 0))) : w.frozen? ⟨b, 0, none⟩ = false ∧ w.frozen? ⟨b, 1, none⟩ = false ∧ w.frozen? ⟨b, 2, none⟩ = false ∧ w.frozen? ⟨b, 3, none⟩ = false :=
  ⟨frozen_of_row w b 0 _ _ h, frozen_of_row w b 1 _ _ h, frozen_of_row w b 2 _ _ h, frozen_of_row w b 3 _ _ h⟩
theorem rf_set1 {w : World} {b : Nat} {x y z u : Value} (h : w.heap[b]? = some (.cells #[x, y, z, u] 32 (0, 0))) (y' : Value) :
    ∃ w', w.setCell ⟨b, 1, none⟩ y' = w' ∧ w'.heap[b]? = some (.cells #[x, y', z, u] 32 (0, 0)) ∧ Only b w w' :=
  ⟨_, rfl, heap_setCell_same _ b 1 _ _ y' h, (Only.refl _ _).setCell _ _⟩
theorem rf_set2 {w : World} {b : Nat} {x y z u : Value} (h : w.heap[b]? = some (.cells #[x, y, z, u] 32 (0, 0))) (z' : Value) :
    ∃ w', w.setCell ⟨b, 2, none⟩ z' = w' ∧ w'.heap[b]? = some (.cells #[x, y, z', u] 32 (0, 0)) ∧ Only b w w' :=
  ⟨_, rfl, heap_setCell_same _ b 2 _ _ z' h, (Only.refl _ _).setCell _ _⟩
theorem rf_set3 {w : World} {b : Nat} {x y z u : Value} (h : w.heap[b]? = some (.cells #[x, y, z, u] 32 (0, 0))) (u' : Value) :
    ∃ w', w.setCell ⟨b, 3, none⟩ u' = w' ∧ w'.heap[b]? = some (.cells #[x, y, z, u'] 32 (0, 0)) ∧ Only b w w' :=
  ⟨_, rfl, heap_setCell_same _ b 3 _ _ u' h, (Only.refl _ _).setCell _ _⟩
theorem RfAt.at {w : World} {base b : Nat} {h : Hv} {v : Value} (k : RfAt w base b h v) : ∃ a c, v = .slice a h.l.length c := by
  obtain ⟨a, c, e⟩ := OwnN.len k.own
  rw [List.length_map] at e
  exact ⟨a, c, e⟩
/-- The row's cells. -/
theorem RfAt.row {w : World} {base b : Nat} {h : Hv} {v : Value} (k : RfAt w base b h v) (hz : 0 < h.l.length) : ∃ g cap, v = .slice (some ⟨g, 0, none⟩) h.l.length cap ∧ base ≤ g ∧ g < w.heap.size ∧ h.l.length ≤ cap ∧ cap ≤ maxLen ∧ ∀ i (hi : i < h.l.length), w.cell? ⟨g, i * 3, none⟩ = some (.int .i64 h.l[i].1) ∧ w.cell? ⟨g, i * 3 + 1, none⟩ = some (.int .i64 h.l[i].2) ∧ w.cell? ⟨g, i * 3 + 2, none⟩ = some (.int .i64 0) := by
  obtain ⟨g, cap, e, h1, h2, h3, h4⟩ := OwnN.shape k.own (by rw [List.length_map]; exact hz)
  rw [List.length_map] at e h3
  refine ⟨g, cap, e, h1, h2, h3, h4, fun i hi => ?_⟩
  have ho := k.own
  rw [e] at ho
  have hi' : i < (h.l.map (ctOf 0)).length := by rw [List.length_map]; exact hi
  have e0 := OwnN.cell ho (fun _ => rfl) i hi' 0 (.int .i64 h.l[i].1) (by simp [ctRow, ctOf])
  have e1 := OwnN.cell ho (fun _ => rfl) i hi' 1 (.int .i64 h.l[i].2) (by simp [ctRow, ctOf])
  have e2 := OwnN.cell ho (fun _ => rfl) i hi' 2 (.int .i64 0) (by simp [ctRow, ctOf])
  exact ⟨e0, e1, e2⟩
/-- Where a key is. -/
def AtC (l : Cs) (k j : Int) : Prop := (j = -1 ∧ ∀ p ∈ l, p.1 ≠ k) ∨ ∃ i, ∃ h : i < l.length, j = (i : Int) ∧ l[i].1 = k
set_option maxRecDepth 100000 in
set_option maxHeartbeats 8000000 in
theorem rat_any (base b : Nat) (h : Hv) (v : Value) (key : Int) (w : World) (k : RfAt w base b h v) (hl : h.l.length ≤ 1000) :
    Calls Tryd.prog 20 #[.pointer (some ⟨b, 0, none⟩), .int .i64 key] w fun e w' => (∃ j, e = .returned (.int .i64 j) ∧ AtC h.l key j) ∧ w' = w := by
  obtain ⟨c0, c1, c2, c3⟩ := rf_cells k.blk
  have HR : Hid (0 < h.l.length → _) := k.row
  obtain ⟨a, c, rfl⟩ := k.at
  obtain ⟨l, hll⟩ : ∃ l, h.l = l := ⟨_, rfl⟩
  obtain ⟨Q, hQ⟩ : ∃ Q : Ending → World → Prop, Q = fun e w' => (∃ j, e = .returned (.int .i64 j) ∧ AtC h.l key j) ∧ w' = w := ⟨_, rfl⟩
  have HQ : Hid (∀ j, AtC l key j → Q (.returned (.int .i64 j)) w) := fun j hj => by rw [hQ]; exact ⟨⟨j, rfl, by rw [hll]; exact hj⟩, rfl⟩
  rw [← hQ]
  rw [hll] at c3 hl HR
  clear k hQ hll c0 c1 c2
  go_enter Tryd.func20, Tryd.ntmps20
  go_wp2_with fail
  go_loopw [5] (fun v5 wr => ∃ i : Nat, v5 = .int .i64 (i : Int) ∧ i ≤ l.length ∧ wr = w ∧ Hid (∀ q (hq : q < l.length), q < i → l[q].1 ≠ key)) (fun v5 _ => ((l.length : Int) - intOf v5).toNat)
  case atStart => exact ⟨0, rfl, Nat.zero_le _, rfl, fun q _ h => by omega⟩
  case round =>
    obtain ⟨i, rfl, hi, rfl, HN⟩ := hrel
    by_cases hlt : i < l.length
    · have hi1 : (i : Int) < (l.length : Int) := by omega
      obtain ⟨g, cap, e, h1, h2, h3, h4, hc⟩ := HR.out (by omega)
      simp only [Value.slice.injEq, true_and] at e
      obtain ⟨rfl, rfl⟩ := e
      obtain ⟨d0, _, _⟩ := hc i hlt
      by_cases hk : l[i].1 = key
      · have HF := hidE (HQ.out (i : Int) (.inr ⟨i, hlt, rfl, hk⟩))
        rw [hk] at d0
        clear hc hk
        go_wp2_with fail
        exact HF.out
      · have hk' : (l[i].1 == key) = false := by simpa using hk
        have HN2 : Hid (∀ q (hq : q < l.length), q < i + 1 → l[q].1 ≠ key) := fun q hq hqi => by
          rcases Nat.lt_or_ge q i with h | h
          · exact HN.out q hq h
          · have : q = i := by omega
            subst this; exact hk
        generalize l[i].1 = li at d0 hk'
        clear hc hk
        go_wp2_with fail
        go_roundw
        case rel => exact ⟨i + 1, by simp, by omega, trivial, HN2⟩
        case measure => simp only [intOf]; omega
    · have hi1 : ¬ (i : Int) < (l.length : Int) := by omega
      have HF := hidE (HQ.out (-1) (.inl ⟨rfl, fun p hp => by
        obtain ⟨q, hq, rfl⟩ := List.getElem_of_mem hp
        exact HN.out q hq (by omega)⟩))
      go_wp2_with fail
      exact HF.out
theorem atC_get {l : Cs} (ha : ApC l) {k j : Int} (h : AtC l k j) : (j = -1 ∧ getC l k = 0 ∧ ∀ p ∈ l, p.1 ≠ k) ∨ ∃ i, ∃ hi : i < l.length, j = (i : Int) ∧ l[i].1 = k ∧ l[i].2 = getC l k := by
  rcases h with ⟨h1, h2⟩ | ⟨i, hi, h1, h2⟩
  · exact .inl ⟨h1, getC_not h2, h2⟩
  · refine .inr ⟨i, hi, h1, h2, ?_⟩
    have hm : (k, l[i].2) ∈ l := by rw [← h2]; exact List.getElem_mem hi
    exact (getC_mem ha hm).symm
end Go.Proofs.YtchailjgikjhlaaDoor
