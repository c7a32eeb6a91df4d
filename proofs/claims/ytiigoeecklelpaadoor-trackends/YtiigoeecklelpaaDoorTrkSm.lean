/- What the small functions of package track return (within, Life, has, end, ahead), where the table of lives holds what the rows lay ('Lives'). -/
import Derived.Test.YtiigoeecklelpaaDoorFlAt
import Derived.Test.YtiigoeecklelpaaDoorSegFit
import Derived.Laws.BitsLemmas
namespace Go.Proofs.YtiigoeecklelpaaDoor
open Go.RowKit
set_option linter.unusedVariables false

/-- The table of lives. -/
def Lives (w : World) : Prop := ∃ ty fz, w.heap[0]? = some (.cells #[.int .i64 0, .int .i64 0, .int .i64 0, .int .i64 0, .int .i64 0, .int .i64 0, .int .i64 30, .int .i64 300, .int .i64 60, .int .i64 10, .int .i64 0, .int .i64 30, .int .i64 60, .int .i64 0, .int .i64 0, .int .i64 0, .int .i64 10, .int .i64 20, .int .i64 0, .int .i64 0] ty fz)
theorem Lives.lt {w : World} (h : Lives w) : 0 < w.heap.size := by
  obtain ⟨ty, fz, h⟩ := h
  rcases Nat.lt_or_ge 0 w.heap.size with h1 | h1
  · exact h1
  · simp [Array.getElem?_eq_none h1] at h
theorem Lives.below {w w' : World} (h : Lives w) (hb : Below w.heap.size w w') : Lives w' := by
  have hl := h.lt
  obtain ⟨ty, fz, h⟩ := h
  exact ⟨ty, fz, by rw [hb.block _ hl]; exact h⟩
theorem Lives.only {w w' : World} {g : Nat} (h : Lives w) (hne : 0 ≠ g) (ho : Only g w w') : Lives w' := by
  obtain ⟨ty, fz, h⟩ := h
  exact ⟨ty, fz, by rw [ho.block _ hne]; exact h⟩
theorem Lives.cell {w : World} (h : Lives w) {k s : Nat} (hk : k ≤ 3) (hs : s ≤ 4) : w.cell? ⟨0, k * 5 + s, none⟩ = some (.int .i64 (lifeI k s)) := by
  obtain ⟨ty, fz, h⟩ := h
  have hk' : k = 0 ∨ k = 1 ∨ k = 2 ∨ k = 3 := by omega
  have hs' : s = 0 ∨ s = 1 ∨ s = 2 ∨ s = 3 ∨ s = 4 := by omega
  rcases hk' with rfl | rfl | rfl | rfl <;> rcases hs' with rfl | rfl | rfl | rfl | rfl <;> (rw [cell_of_row _ _ _ _ _ _ h]; rfl)

theorem within_any (n lo hi : Int) (w : World) :
    Calls Tryd.prog 21 #[.int .i64 n, .int .i64 lo, .int .i64 hi] w fun e w' => e = .returned (.bool (inR n lo hi)) ∧ w' = w := by
  by_cases h0 : lo ≤ n
  · by_cases h1 : n ≤ hi
    · rw [inR_yes h0 h1]
      go_enter Tryd.func21, Tryd.ntmps21
      go_wp2
      go_ret
      exact ⟨rfl, rfl⟩
    · rw [inR_no (by omega)]
      go_enter Tryd.func21, Tryd.ntmps21
      go_wp2
      go_ret
      exact ⟨rfl, rfl⟩
  · rw [inR_no (by omega)]
    go_enter Tryd.func21, Tryd.ntmps21
    go_wp2
    go_ret
    exact ⟨rfl, rfl⟩
theorem life_out {k s : Int} (h : ¬ (0 ≤ k ∧ k ≤ 3 ∧ 0 ≤ s ∧ s ≤ 4)) : lifeI k s = 0 := by
  unfold lifeI; repeat' split
  all_goals omega
theorem life_any (k s : Int) (w : World) (hL : Lives w) :
    Calls Tryd.prog 14 #[.int .i64 k, .int .i64 s] w fun e w' => e = .returned (.int .i64 (lifeI k s)) ∧ w' = w := by
  have c1 := fun W => within_any k 0 3 W
  have c2 := fun W => within_any s 0 4 W
  have m0 : True := trivial
  by_cases hk : 0 ≤ k ∧ k ≤ 3
  · rw [inR_yes hk.1 hk.2] at c1
    by_cases hs : 0 ≤ s ∧ s ≤ 4
    · rw [inR_yes hs.1 hs.2] at c2
      obtain ⟨a, rfl⟩ := Int.eq_ofNat_of_zero_le hk.1
      obtain ⟨b, rfl⟩ := Int.eq_ofNat_of_zero_le hs.1
      have hc := hL.cell (k := a) (s := b) (by omega) (by omega)
      have ha : a = 0 ∨ a = 1 ∨ a = 2 ∨ a = 3 := by omega
      have hb : b = 0 ∨ b = 1 ∨ b = 2 ∨ b = 3 ∨ b = 4 := by omega
      obtain ⟨r, hr⟩ : ∃ r, lifeI (a : Nat) (b : Nat) = r := ⟨_, rfl⟩
      rw [hr] at hc ⊢
      clear hr hL hk hs
      rcases ha with rfl | rfl | rfl | rfl <;> rcases hb with rfl | rfl | rfl | rfl | rfl <;>
        (simp only [Nat.zero_mul, Nat.one_mul, Nat.reduceMul, Nat.zero_add, Nat.reduceAdd, Int.cast_ofNat_Int] at hc c1 c2 ⊢
         go_enter Tryd.func14, Tryd.ntmps14
         go_wp2_with (first
          | (go_at_call 21; have m1 : True := m0; clear m0; refine (c1 _).mono ?_; rintro e w' ⟨rfl, rfl⟩)
          | (go_at_call 21; have m2 : True := m1; clear m1; refine (c2 _).mono ?_; rintro e w' ⟨rfl, rfl⟩))
         go_ret
         exact ⟨rfl, rfl⟩)
    · rw [inR_no hs] at c2
      rw [life_out (by omega)]
      clear hs hk
      go_enter Tryd.func14, Tryd.ntmps14
      go_wp2_with (first
        | (go_at_call 21; have m1 : True := m0; clear m0; refine (c1 _).mono ?_; rintro e w' ⟨rfl, rfl⟩)
        | (go_at_call 21; have m2 : True := m1; clear m1; refine (c2 _).mono ?_; rintro e w' ⟨rfl, rfl⟩))
      go_ret
      exact ⟨rfl, rfl⟩
  · rw [inR_no hk] at c1
    rw [life_out (by omega)]
    clear hk
    go_enter Tryd.func14, Tryd.ntmps14
    go_wp2_with (first
      | (go_at_call 21; have m1 : True := m0; clear m0; refine (c1 _).mono ?_; rintro e w' ⟨rfl, rfl⟩)
      | (go_at_call 21; have m2 : True := m1; clear m1; refine (c2 _).mono ?_; rintro e w' ⟨rfl, rfl⟩))
    go_ret
    exact ⟨rfl, rfl⟩

theorem and_flag (g f : Int) (h0 : 0 ≤ g) (h1 : g ≤ 15) (hf : f = 1 ∨ f = 2 ∨ f = 4 ∨ f = 8) : (bits .and .i64 g f != 0) = decide (g / f % 2 = 1) := by
  have hg : g = 0 ∨ g = 1 ∨ g = 2 ∨ g = 3 ∨ g = 4 ∨ g = 5 ∨ g = 6 ∨ g = 7 ∨ g = 8 ∨ g = 9 ∨ g = 10 ∨ g = 11 ∨ g = 12 ∨ g = 13 ∨ g = 14 ∨ g = 15 := by omega
  rcases hg with rfl | rfl | rfl | rfl | rfl | rfl | rfl | rfl | rfl | rfl | rfl | rfl | rfl | rfl | rfl | rfl <;> rcases hf with rfl | rfl | rfl | rfl <;> decide
theorem has_any (s : Sg) (f : Int) (bv : Value) (w : World) (h0 : 0 ≤ s.flg) (h1 : s.flg ≤ 15) (hf : f = 1 ∨ f = 2 ∨ f = 4 ∨ f = 8) :
    Calls Tryd.prog 38 #[segV s bv, .int .i64 f] w fun e w' => e = .returned (.bool (flgB s f)) ∧ Below w.heap.size w w' := by
  have b1 : Below w.heap.size w (w.alloc (.cells #[.int .i64 s.frm, .int .i64 s.too, .int .i64 s.seq, .int .i64 s.ack, .int .i64 s.win, .int .i64 s.flg, bv] 26)) := (Below.refl _ _).alloc (Nat.le_refl _) _
  have E := and_flag s.flg f h0 h1 hf
  rw [show decide (s.flg / f % 2 = 1) = flgB s f from rfl] at E
  have HE := E.symm
  rw [HE]
  clear HE E h0 h1 hf
  unfold segV
  go_enter Tryd.func38, Tryd.ntmps38
  go_wp2
  go_ret
  exact ⟨rfl, b1⟩
theorem and_32 (n : Int) (h0 : 0 ≤ n) (h1 : n < 9223372036854775808) : bits .and .i64 n 4294967295 = n % 4294967296 := by
  have e := bits_mask .i64 63 (by decide) (fun n h0 h1 => by rw [IntKind.wrap_i64]; omega) 32 (by decide) n h0 (by omega)
  have e2 : ((2 : Int) ^ 32 - 1) = 4294967295 := by decide
  have e3 : ((2 : Int) ^ 32) = 4294967296 := by decide
  rw [e2, e3] at e
  exact e
set_option maxHeartbeats 2000000 in
theorem end_any (s : Sg) (a : Option Addr) (l c : Nat) (w : World) (h0 : 0 ≤ s.flg) (h1 : s.flg ≤ 15) (hq0 : 0 ≤ s.seq) (hq1 : s.seq ≤ 4294967295) (hl : s.body.length = l) (hl4 : l ≤ 4000) :
    Calls Tryd.prog 23 #[segV s (.slice a l c)] w fun e w' => e = .returned (.int .i64 (endI s)) ∧ Below w.heap.size w w' := by
  have hp := SgAt.new w s (.slice a l c)
  have b1 : Below w.heap.size w (w.alloc (.cells #[.int .i64 s.frm, .int .i64 s.too, .int .i64 s.seq, .int .i64 s.ack, .int .i64 s.win, .int .i64 s.flg, .slice a l c] 26)) := (Below.refl _ _).alloc (Nat.le_refl _) _
  obtain ⟨W1, hW1⟩ : ∃ W1, w.alloc (.cells #[.int .i64 s.frm, .int .i64 s.too, .int .i64 s.seq, .int .i64 s.ack, .int .i64 s.win, .int .i64 s.flg, .slice a l c] 26) = W1 := ⟨_, rfl⟩
  rw [hW1] at hp b1
  have hS := fun W => has_any s 2 (.slice a l c) W h0 h1 (by omega)
  have hF := fun W => has_any s 1 (.slice a l c) W h0 h1 (by omega)
  have HN : Hid (endI s = (s.seq + (l : Int) + bI (flgB s 2) + bI (flgB s 1)) % 4294967296) := by show endI s = _; unfold endI; rw [hl]
  obtain ⟨n, hn⟩ : ∃ n, endI s = n := ⟨_, rfl⟩
  rw [hn] at HN ⊢
  clear hn h0 h1 hl
  unfold segV at *
  go_enter Tryd.func23, Tryd.ntmps23
  go_upto_region 1 with fail
  try rw [hW1]
  clear hW1
  obtain ⟨c0, c1, c2, c3, c4, c5, c6⟩ := hp.cells
  have st : ∀ {W W' : World}, SgAt W w.heap.size s (.slice a l c) → Below w.heap.size w W → Below W.heap.size W W' → SgAt W' w.heap.size s (.slice a l c) ∧ Below w.heap.size w W' := fun h hb hb' => ⟨h.below h.lt hb', hb.trans (hb'.mono hb.size)⟩
  have ST : Hid (∀ {W W' : World}, SgAt W w.heap.size s (.slice a l c) → Below w.heap.size w W → Below W.heap.size W W' → SgAt W' w.heap.size s (.slice a l c) ∧ Below w.heap.size w W') := st
  clear st
  generalize flgB s 2 = x at *
  generalize flgB s 1 = y at *
  go_upto_region 2 with fail
  rcases x with _ | _ <;> rcases y with _ | _
  · have E : bits .and .i64 (s.seq + (l : Int)) 4294967295 = n := by
      rw [and_32 _ (by omega) (by omega), HN.out]; simp [bI]
    clear HN
    go_upto_region 4 with (go_at_call 38; refine (hS _).mono ?_; rintro e w2 ⟨rfl, b2⟩)
    obtain ⟨p2, b2⟩ := ST.out hp b1 b2
    clear c0 c1 c2 c3 c4 c5 c6 hp b1
    obtain ⟨c0, c1, c2, c3, c4, c5, c6⟩ := p2.cells
    go_wp2_with (go_at_call 38; refine (hF _).mono ?_; rintro e w3 ⟨rfl, b3⟩)
    go_ret
    exact ⟨rfl, (ST.out p2 b2 b3).2⟩
  · have E : bits .and .i64 (s.seq + (l : Int) + 1) 4294967295 = n := by
      rw [and_32 _ (by omega) (by omega), HN.out]; simp [bI]
    clear HN
    go_upto_region 4 with (go_at_call 38; refine (hS _).mono ?_; rintro e w2 ⟨rfl, b2⟩)
    obtain ⟨p2, b2⟩ := ST.out hp b1 b2
    clear c0 c1 c2 c3 c4 c5 c6 hp b1
    obtain ⟨c0, c1, c2, c3, c4, c5, c6⟩ := p2.cells
    go_wp2_with (go_at_call 38; refine (hF _).mono ?_; rintro e w3 ⟨rfl, b3⟩)
    go_ret
    exact ⟨rfl, (ST.out p2 b2 b3).2⟩
  · have E : bits .and .i64 (s.seq + (l : Int) + 1) 4294967295 = n := by
      rw [and_32 _ (by omega) (by omega), HN.out]; simp [bI]
    clear HN
    go_upto_region 4 with (go_at_call 38; refine (hS _).mono ?_; rintro e w2 ⟨rfl, b2⟩)
    obtain ⟨p2, b2⟩ := ST.out hp b1 b2
    clear c0 c1 c2 c3 c4 c5 c6 hp b1
    obtain ⟨c0, c1, c2, c3, c4, c5, c6⟩ := p2.cells
    go_wp2_with (go_at_call 38; refine (hF _).mono ?_; rintro e w3 ⟨rfl, b3⟩)
    go_ret
    exact ⟨rfl, (ST.out p2 b2 b3).2⟩
  · have E : bits .and .i64 (s.seq + (l : Int) + 1 + 1) 4294967295 = n := by
      rw [and_32 _ (by omega) (by omega), HN.out]; simp [bI]
    clear HN
    go_upto_region 4 with (go_at_call 38; refine (hS _).mono ?_; rintro e w2 ⟨rfl, b2⟩)
    obtain ⟨p2, b2⟩ := ST.out hp b1 b2
    clear c0 c1 c2 c3 c4 c5 c6 hp b1
    obtain ⟨c0, c1, c2, c3, c4, c5, c6⟩ := p2.cells
    go_wp2_with (go_at_call 38; refine (hF _).mono ?_; rintro e w3 ⟨rfl, b3⟩)
    go_ret
    exact ⟨rfl, (ST.out p2 b2 b3).2⟩
theorem ahead_any (a b : Int) (w : World) (ha : 0 ≤ a ∧ a ≤ 4294967295) (hb : 0 ≤ b ∧ b ≤ 4294967295) :
    Calls Tryd.prog 65 #[.int .i64 a, .int .i64 b] w fun e w' => e = .returned (.bool (ahB a b)) ∧ w' = w := by
  have E : ahB a b = decide (0 < wrap32 (a - b)) := by
    unfold ahB wrap32
    rw [decide_eq_decide]
    omega
  rw [E]
  clear E
  go_enter Tryd.func65, Tryd.ntmps65
  go_wp2
  go_ret
  exact ⟨rfl, rfl⟩
end Go.Proofs.YtiigoeecklelpaaDoor
