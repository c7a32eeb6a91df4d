/- What Over and Find of package trie return. -/
import Derived.Test.YtdpnmhfhjcebbaaDoorTriePut2
namespace Go.Proofs.YtdpnmhfhjcebbaaDoor
open Go.RowKit
set_option linter.unusedVariables false
set_option maxRecDepth 4000

theorem ovL_ovP (f : Vf) (a : Int) (n : Nat) : ovL f a n = ovP f a (n + 1) := rfl
/-- What Over returns. -/
def Overs (s : Tv) (a l : Int) (w : World) (e : Ending) (w' : World) : Prop :=
  ∃ v, e = .returned (.tuple #[v, errT (prefE a l)]) ∧ OwnR w' w.heap.size v (if prefE a l = 0 then ovL s.f a l.toNat else []) ∧ Below w.heap.size w w'
set_option maxHeartbeats 4000000 in
theorem over_err (tb : Nat) (s : Tv) (a l : Int) (w : World) (hp : ¬ prefE a l = 0) :
    Calls Tryd.prog 17 #[.pointer (some ⟨tb, 0, none⟩), .agg #[.int .i64 a, .int .i64 l]] w (Overs s a l w) := by
  have hB : Below w.heap.size w (w.alloc (.cells #[.int .i64 a, .int .i64 l] 25)) := (Below.refl _ _).alloc (Nat.le_refl _) _
  have hck := check_bad a l (w.alloc (.cells #[.int .i64 a, .int .i64 l] 25)) hp
  have HZ : Hid (∀ w', Below w.heap.size w w' → Overs s a l w (.returned (.tuple #[.slice none 0 0, .iface 64 (.int .i64 (prefE a l))])) w') := fun w' hb => by
    refine ⟨.slice none 0 0, ?_, ?_, hb⟩
    · unfold errT; rw [if_neg hp]
    · rw [if_neg hp]; exact OwnR.nil _ _
  generalize prefE a l = n at hck HZ
  clear hp
  go_enter Tryd.func17, Tryd.ntmps17
  go_wp2_with (go_at_call 23; refine hck.mono ?_; rintro e w1 ⟨rfl, b1⟩)
  go_ret2
  exact HZ.out w1 (hB.trans (b1.mono hB.size))
set_option maxHeartbeats 8000000 in
theorem over_ok (F : Nat → Prop) (tb : Nat) (s : Tv) (a : Int) (n : Nat) (w : World) (h : TrieAt w F tb s) (hF : ∀ k, F k → k < w.heap.size) (hp : prefE a n = 0) :
    Calls Tryd.prog 17 #[.pointer (some ⟨tb, 0, none⟩), .agg #[.int .i64 a, .int .i64 (n : Int)]] w (Overs s a n w) := by
  obtain ⟨hA, hL, _⟩ := prefE_zero hp
  obtain ⟨h0, h1⟩ := hA
  have hn32 : n ≤ 32 := by omega
  have hB : Below w.heap.size w (w.alloc (.cells #[.int .i64 a, .int .i64 (n : Int)] 25)) := (Below.refl _ _).alloc (Nat.le_refl _) _
  have hck := check_ok a n (w.alloc (.cells #[.int .i64 a, .int .i64 (n : Int)] 25)) hp
  have hpa := PairAt.new w a n 25
  obtain ⟨_, _, blk, hT⟩ := h
  have HT : Hid (TrIn w F tb blk s) := hT
  have HF : Hid (∀ k, F k → k < w.heap.size) := hF
  have HP : Hid (prefE a n = 0) := hp
  clear hp hL hT hF
  go_enter Tryd.func17, Tryd.ntmps17
  go_upto_region 4 with (go_at_call 23; refine hck.mono ?_; rintro e w2 ⟨rfl, b2⟩)
  have hb2 : Below w.heap.size w w2 := hB.trans (b2.mono hB.size)
  have hpb : PairAt w2 w.heap.size a n := hpa.below hpa.lt b2
  obtain ⟨p0, p1, _, _⟩ := id hpb
  have hT2 := HT.out.below HF.out hb2
  have hov := over_raw a n tb F blk s w2.drew h0 h1 hn32 (hT2.keep (w' := w2.drew) (fun _ _ => rfl)) (fun k hk => by show k < w2.heap.size; have := HF.out k hk; have := hb2.size; omega)
  have HB2 : Hid (Below w.heap.size w w2) := hb2
  clear hck hpa hb2 hpb hT2 hB b2
  go_region_with (go_at_call 31; refine hov.mono ?_; rintro e w3 ⟨v3, rfl, own3, b3⟩)
  have HZ : Hid (Overs s a n w (.returned (.tuple #[v3, .nilIface])) w3) := by
    have b3 := drew_below b3
    refine ⟨v3, ?_, ?_, HB2.out.trans (b3.mono HB2.out.size)⟩
    · rw [HP.out]; rfl
    · rw [if_pos HP.out, Int.toNat_natCast, ovL_ovP]
      exact own3.base (show w.heap.size ≤ w2.heap.size from HB2.out.size)
  clear own3 b3 hov
  go_wp2_with fail
  go_ret2
  exact HZ.out
theorem over_any (F : Nat → Prop) (tb : Nat) (s : Tv) (a l : Int) (w : World) (h : TrieAt w F tb s) (hF : ∀ k, F k → k < w.heap.size) :
    Calls Tryd.prog 17 #[.pointer (some ⟨tb, 0, none⟩), .agg #[.int .i64 a, .int .i64 l]] w (Overs s a l w) := by
  by_cases hp : prefE a l = 0
  · obtain ⟨n, rfl, _⟩ := prefE_nat hp
    exact over_ok F tb s a n w h hF hp
  · exact over_err tb s a l w hp
theorem prefE_32 {x : Int} : prefE x 32 = if isAddr x = true then 0 else 1 := by
  unfold prefE
  by_cases h : isAddr x = true
  · rw [if_pos h, if_pos ⟨h, by omega, by omega⟩, if_pos (by rw [show (32 : Int) - 32 = 0 from rfl]; simp [pw])]
  · rw [if_neg h, if_neg (by rintro ⟨h1, _⟩; exact h h1)]
/-- A pair lies at block b, alone. -/
def TriAt (w : World) (b : Nat) (p : Pr) : Prop := w.heap[b]? = some (.cells #[.int .i64 p.a, .int .i64 p.l, .int .i64 p.v] 34 (0, 0))
theorem TriAt.new (w : World) (p : Pr) : TriAt (w.alloc (.cells #[.int .i64 p.a, .int .i64 p.l, .int .i64 p.v] 34)) w.heap.size p := heap_alloc_new w _
theorem TriAt.lt {w : World} {b : Nat} {p : Pr} (h : TriAt w b p) : b < w.heap.size := by
  rcases Nat.lt_or_ge b w.heap.size with h1 | h1
  · exact h1
  · unfold TriAt at h; simp [Array.getElem?_eq_none h1] at h
theorem TriAt.keep {w w' : World} {b : Nat} {p : Pr} (h : TriAt w b p) (hb : w'.heap[b]? = w.heap[b]?) : TriAt w' b p := hb.trans h
theorem TriAt.cells {w : World} {b : Nat} {p : Pr} (h : TriAt w b p) : w.cell? ⟨b, 0, none⟩ = some (.int .i64 p.a) ∧ w.cell? ⟨b, 1, none⟩ = some (.int .i64 p.l) ∧ w.cell? ⟨b, 2, none⟩ = some (.int .i64 p.v) := by
  refine ⟨?_, ?_, ?_⟩ <;> (rw [cell_of_row w b _ _ _ _ h]; rfl)
theorem TriAt.free {w : World} {b : Nat} {p : Pr} (h : TriAt w b p) (j : Nat) : w.frozen? ⟨b, j, none⟩ = false := frozen_of_row w b j _ _ h
theorem TriAt.store {w : World} {b : Nat} {p : Pr} (h : TriAt w b p) (x y z : Int) : ∃ w', ((w.setCell ⟨b, 0, none⟩ (.int .i64 x)).setCell ⟨b, 1, none⟩ (.int .i64 y)).setCell ⟨b, 2, none⟩ (.int .i64 z) = w' ∧ TriAt w' b ⟨x, y, z⟩ ∧ Only b w w' := by
  refine ⟨_, rfl, ?_, (((Only.refl _ _).setCell 0 _).setCell 1 _).setCell 2 _⟩
  have h0 := heap_setCell_same w b 0 _ _ (.int .i64 x) h
  have h1 := heap_setCell_same _ b 1 _ _ (.int .i64 y) h0
  have h2 := heap_setCell_same _ b 2 _ _ (.int .i64 z) h1
  exact h2
/-- What Find returns. -/
def Finds (s : Tv) (x : Int) (w : World) (e : Ending) (w' : World) : Prop :=
  e = .returned (.tuple #[.agg #[.int .i64 (findV s x).a, .int .i64 (findV s x).l, .int .i64 (findV s x).v], errT (findE s x)]) ∧ Below w.heap.size w w'
theorem finds_no {s : Tv} {x : Int} {w w' : World} {n : Int} (hn : findE s x = n) (h0 : ¬ n = 0) (hb : Below w.heap.size w w') : Finds s x w (.returned (.tuple #[.agg #[.int .i64 0, .int .i64 0, .int .i64 0], .iface 64 (.int .i64 n)])) w' := by
  have hz : findV s x = zeroR := by
    unfold findE at hn
    unfold findV
    split at hn
    · rename_i h1
      split at hn
      · rename_i h2; rw [if_pos h1, h2]; rfl
      · exact absurd hn.symm h0
    · rename_i h1; rw [if_neg h1]
  refine ⟨?_, hb⟩
  rw [hz, hn]; unfold errT; rw [if_neg h0]; rfl
set_option maxHeartbeats 8000000 in
theorem find_any (F : Nat → Prop) (tb : Nat) (s : Tv) (x : Int) (w : World) (h : TrieAt w F tb s) (hF : ∀ k, F k → k < w.heap.size) :
    Calls Tryd.prog 15 #[.pointer (some ⟨tb, 0, none⟩), .int .i64 x] w (Finds s x w) := by
  have hB : Below w.heap.size w (w.alloc (.cells #[.int .i64 0, .int .i64 0, .int .i64 0] 34)) := (Below.refl _ _).alloc (Nat.le_refl _) _
  have hc : TriAt (w.alloc (.cells #[.int .i64 0, .int .i64 0, .int .i64 0] 34)) w.heap.size zeroR := TriAt.new w zeroR
  have hov := over_any F tb s x 32 (w.alloc (.cells #[.int .i64 0, .int .i64 0, .int .i64 0] 34)) (h.below hF hB) (fun k hk => by have := hF k hk; have := hB.size; omega)
  unfold Overs at hov
  rw [prefE_32] at hov
  have hs1 : w.heap.size < (w.alloc (.cells #[.int .i64 0, .int .i64 0, .int .i64 0] 34)).heap.size := by simp
  clear h hF
  by_cases ha : isAddr x = true
  · simp only [ha, if_true] at hov
    rw [show errT 0 = .nilIface from rfl, show (32 : Int).toNat = 32 from rfl] at hov
    obtain ⟨L, hL⟩ : ∃ L, ovL s.f x 32 = L := ⟨_, rfl⟩
    rw [hL] at hov
    have HL : Hid (ovL s.f x 32 = L) := hL
    have HA : Hid (isAddr x = true) := ha
    clear hL ha
    have HB : Hid (Below w.heap.size w (w.alloc (.cells #[.int .i64 0, .int .i64 0, .int .i64 0] 34))) := hB
    have HC : Hid (TriAt (w.alloc (.cells #[.int .i64 0, .int .i64 0, .int .i64 0] 34)) w.heap.size zeroR) := hc
    clear hB hc hs1
    go_enter Tryd.func15, Tryd.ntmps15
    go_upto_region 4 with (go_at_call 17; refine hov.mono ?_; rintro e w2 ⟨v2, rfl, own2, b2⟩)
    have hcz := HC.out.keep (b2.block _ HC.out.lt)
    have bel2 : Below w.heap.size w w2 := HB.out.trans (b2.mono HB.out.size)
    obtain ⟨z0, z1, z2⟩ := hcz.cells
    have f0 := hcz.free 0
    have f1 := hcz.free 1
    have f2 := hcz.free 2
    simp only [zeroR] at z0 z1 z2
    rcases Nat.eq_zero_or_pos L.length with hz | hz
    · have hL0 : L = [] := List.length_eq_zero_iff.1 hz
      subst hL0
      obtain ⟨av, cv, hv⟩ := own2.len
      simp only [List.length_nil] at hv
      subst hv
      obtain ⟨w3, hw3, hp3, on3⟩ := hcz.store 0 0 0
      have hE : findE s x = 5 := by unfold findE; rw [if_pos HA.out, if_pos HL.out]
      have HZ : Hid (Finds s x w (.returned (.tuple #[.agg #[.int .i64 0, .int .i64 0, .int .i64 0], .iface 64 (.int .i64 5)])) w3) := finds_no hE (by decide) (on3.below (Nat.le_refl _) bel2)
      clear hE own2 b2 bel2 hov hz
      go_wp2_with fail
      try rw [hw3]
      obtain ⟨r0, r1, r2⟩ := hp3.cells
      simp only at r0 r1 r2
      exact bodyPost_ret (v := .tuple #[.agg #[.int .i64 0, .int .i64 0, .int .i64 0], .iface 64 (.int .i64 5)]) (by simp [results, Tryd.results15, go_sem, r0, r1, r2]) rfl HZ.out
    · obtain ⟨g, cap, hv, hg1, hg2, hl, hx⟩ := own2.shape hz
      subst hv
      have hlast := own2.cells (L.length - 1) (by omega)
      obtain ⟨N, hN⟩ : ∃ N, L.length = N + 1 := ⟨L.length - 1, by omega⟩
      obtain ⟨q, hq⟩ : ∃ q, L[L.length - 1]'(by omega) = q := ⟨_, rfl⟩
      rw [hq] at hlast
      rw [hN, Nat.add_sub_cancel] at hlast
      obtain ⟨y0, y1, y2⟩ := hlast
      have hq2 : findV s x = q := by
        unfold findV
        rw [if_pos HA.out, HL.out, List.getLastD_eq_getLast?, List.getLast?_eq_getElem?, List.getElem?_eq_getElem (by omega), Option.getD_some, hq]
      have hE : findE s x = 0 := by
        unfold findE
        rw [if_pos HA.out, if_neg (by rw [HL.out]; intro h; rw [h] at hz; simp at hz)]
      obtain ⟨w3, hw3, hp3, on3⟩ := hcz.store q.a q.l q.v
      have HZ : Hid (Finds s x w (.returned (.tuple #[.agg #[.int .i64 q.a, .int .i64 q.l, .int .i64 q.v], .nilIface])) w3) := ⟨by rw [hq2, hE]; rfl, on3.below (Nat.le_refl _) bel2⟩
      rw [hN] at hl ⊢
      have hcap : cap ≤ 9223372036854775807 := by unfold maxLen at hx; omega
      have hlc : N < cap := by omega
      clear hE own2 b2 bel2 hov hz hq hq2 hx hN
      go_wp2_with fail
      try rw [hw3]
      obtain ⟨r0, r1, r2⟩ := hp3.cells
      simp only at r0 r1 r2
      exact bodyPost_ret (v := .tuple #[.agg #[.int .i64 q.a, .int .i64 q.l, .int .i64 q.v], .nilIface]) (by simp [results, Tryd.results15, go_sem, r0, r1, r2]) rfl HZ.out
  · simp only [ha] at hov
    rw [show errT (if (false : Bool) = true then 0 else 1) = .iface 64 (.int .i64 1) from rfl] at hov
    have HA : Hid (¬ isAddr x = true) := ha
    have HB : Hid (Below w.heap.size w (w.alloc (.cells #[.int .i64 0, .int .i64 0, .int .i64 0] 34))) := hB
    have HC : Hid (TriAt (w.alloc (.cells #[.int .i64 0, .int .i64 0, .int .i64 0] 34)) w.heap.size zeroR) := hc
    clear hB hc hs1 ha
    go_enter Tryd.func15, Tryd.ntmps15
    go_upto_region 2 with (go_at_call 17; refine hov.mono ?_; rintro e w2 ⟨v2, rfl, own2, b2⟩)
    have hcz := HC.out.keep (b2.block _ HC.out.lt)
    have bel2 : Below w.heap.size w w2 := HB.out.trans (b2.mono HB.out.size)
    obtain ⟨z0, z1, z2⟩ := hcz.cells
    have f0 := hcz.free 0
    have f1 := hcz.free 1
    have f2 := hcz.free 2
    simp only [zeroR] at z0 z1 z2
    obtain ⟨w3, hw3, hp3, on3⟩ := hcz.store 0 0 0
    have hE : findE s x = 1 := by unfold findE; rw [if_neg HA.out]
    have HZ : Hid (Finds s x w (.returned (.tuple #[.agg #[.int .i64 0, .int .i64 0, .int .i64 0], .iface 64 (.int .i64 1)])) w3) := finds_no hE (by decide) (on3.below (Nat.le_refl _) bel2)
    clear hE own2 b2 bel2 hov
    go_wp2_with fail
    try rw [hw3]
    obtain ⟨r0, r1, r2⟩ := hp3.cells
    simp only at r0 r1 r2
    exact bodyPost_ret (v := .tuple #[.agg #[.int .i64 0, .int .i64 0, .int .i64 0], .iface 64 (.int .i64 1)]) (by simp [results, Tryd.results15, go_sem, r0, r1, r2]) rfl HZ.out
end Go.Proofs.YtdpnmhfhjcebbaaDoor
