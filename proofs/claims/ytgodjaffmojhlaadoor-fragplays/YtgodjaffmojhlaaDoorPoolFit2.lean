/- What fits of package frag returns of a group that is not bad and any packet that may be: whether they go together. -/
import Derived.Test.YtgodjaffmojhlaaDoorPoolTch
namespace Go.Proofs.YtgodjaffmojhlaaDoor
open Go.RowKit Go.Maps
set_option linter.unusedVariables false

set_option maxRecDepth 100000 in
set_option maxHeartbeats 8000000 in
theorem fits_more (gb : Nat) (k t i s d o : Int) (a : Option Addr) (L c : Nat) (fin reach : Nat) (T : Bool) (w : World) (h5 : w.cell? ⟨gb, 5, none⟩ = some (.int .i64 (reach : Int))) (h6 : w.cell? ⟨gb, 6, none⟩ = some (.int .i64 (fin : Int))) (ho : 0 ≤ o ∧ o ≤ 32767) (hL : L ≤ 4000) (hfin : fin ≤ 4000) (hreach : reach ≤ 4000)
    (htc : Calls Tryd.prog 29 #[ptrV gb, .int .i64 (o * 8), .int .i64 (o * 8 + (L : Int))] (w.alloc (.cells #[.int .i64 k, .int .i64 t, .int .i64 i, .int .i64 s, .int .i64 d, .int .i64 o, .bool true, .slice a L c] 40)) fun e w' => e = .returned (.bool T) ∧ (w.alloc (.cells #[.int .i64 k, .int .i64 t, .int .i64 i, .int .i64 s, .int .i64 d, .int .i64 o, .bool true, .slice a L c] 40)).grownBy w' none) :
    Calls Tryd.prog 23 #[ptrV gb, .agg #[.int .i64 k, .int .i64 t, .int .i64 i, .int .i64 s, .int .i64 d, .int .i64 o, .bool true, .slice a L c]] w fun e w' =>
      e = .returned (.bool (!(decide (L = 0) || decide (4000 < o * 8 + (L : Int)) || (true && decide (¬ L % 8 = 0)) || (decide (0 < fin) && (!true || decide ((fin : Int) < o * 8 + (L : Int)))) || (!true && decide (o * 8 + (L : Int) < (reach : Int))) || T))) ∧ w.grownBy w' none := by
  have hlt : gb < w.heap.size := by
    rcases Nat.lt_or_ge gb w.heap.size with h1 | h1
    · exact h1
    · simp [World.cell?, Array.getElem?_eq_none h1] at h5
  have B1 : Below w.heap.size w (w.alloc (.cells #[.int .i64 k, .int .i64 t, .int .i64 i, .int .i64 s, .int .i64 d, .int .i64 o, .bool true, .slice a L c] 40)) := (Below.refl _ _).alloc (Nat.le_refl _) _
  have q5 := (B1.cell (p := ⟨gb, 5, none⟩) hlt).trans h5
  have q6 := (B1.cell (p := ⟨gb, 6, none⟩) hlt).trans h6
  have hnew := heap_alloc_new w (.cells #[.int .i64 k, .int .i64 t, .int .i64 i, .int .i64 s, .int .i64 d, .int .i64 o, .bool true, .slice a L c] 40)
  have y5 : (w.alloc (.cells #[.int .i64 k, .int .i64 t, .int .i64 i, .int .i64 s, .int .i64 d, .int .i64 o, .bool true, .slice a L c] 40)).cell? ⟨w.heap.size, 5, none⟩ = some (.int .i64 o) := by rw [cell_of_row _ _ 5 _ _ _ hnew]; rfl
  have y6 : (w.alloc (.cells #[.int .i64 k, .int .i64 t, .int .i64 i, .int .i64 s, .int .i64 d, .int .i64 o, .bool true, .slice a L c] 40)).cell? ⟨w.heap.size, 6, none⟩ = some (.bool true) := by rw [cell_of_row _ _ 6 _ _ _ hnew]; rfl
  have y7 : (w.alloc (.cells #[.int .i64 k, .int .i64 t, .int .i64 i, .int .i64 s, .int .i64 d, .int .i64 o, .bool true, .slice a L c] 40)).cell? ⟨w.heap.size, 7, none⟩ = some (.slice a L c) := by rw [cell_of_row _ _ 7 _ _ _ hnew]; rfl
  have HG : Hid (w.grownBy (w.alloc (.cells #[.int .i64 k, .int .i64 t, .int .i64 i, .int .i64 s, .int .i64 d, .int .i64 o, .bool true, .slice a L c] 40)) none) := World.grownBy_alloc w _ none
  unfold ptrV at htc ⊢
  clear hnew B1 h5 h6
  by_cases c1 : L = 0
  · rw [show (!(decide (L = 0) || decide (4000 < o * 8 + (L : Int)) || (true && decide (¬ L % 8 = 0)) || (decide (0 < fin) && (!true || decide ((fin : Int) < o * 8 + (L : Int)))) || (!true && decide (o * 8 + (L : Int) < (reach : Int))) || T)) = false by simp [c1]]
    have c1' : ((L : Int) == 0) = true := by rw [beq_iff_eq]; omega
    have c1'' : (L : Int) = 0 := by omega
    clear c1
    go_enter Tryd.func23, Tryd.ntmps23
    go_upto_region 1 with fail
    obtain ⟨W1, hW1⟩ : ∃ W1, w.alloc (.cells #[.int .i64 k, .int .i64 t, .int .i64 i, .int .i64 s, .int .i64 d, .int .i64 o, .bool true, .slice a L c] 40) = W1 := ⟨_, rfl⟩
    rw [hW1] at y5 y6 y7 q5 q6 HG htc ⊢
    clear hW1
    go_wp2_with fail
    go_ret
    exact ⟨rfl, HG.out⟩
  have d1 : decide (L = 0) = false := decide_eq_false c1
  have e1 : ((L : Int) == 0) = false := by rw [beq_eq_false_iff_ne]; omega
  have e1' : ¬ (L : Int) = 0 := by omega
  by_cases c2 : 4000 < o * 8 + (L : Int)
  · rw [show (!(decide (L = 0) || decide (4000 < o * 8 + (L : Int)) || (true && decide (¬ L % 8 = 0)) || (decide (0 < fin) && (!true || decide ((fin : Int) < o * 8 + (L : Int)))) || (!true && decide (o * 8 + (L : Int) < (reach : Int))) || T)) = false by simp [c2]]
    go_enter Tryd.func23, Tryd.ntmps23
    go_upto_region 1 with fail
    obtain ⟨W1, hW1⟩ : ∃ W1, w.alloc (.cells #[.int .i64 k, .int .i64 t, .int .i64 i, .int .i64 s, .int .i64 d, .int .i64 o, .bool true, .slice a L c] 40) = W1 := ⟨_, rfl⟩
    rw [hW1] at y5 y6 y7 q5 q6 HG htc ⊢
    clear hW1
    go_wp2_with fail
    go_ret
    exact ⟨rfl, HG.out⟩
  have d2 : decide (4000 < o * 8 + (L : Int)) = false := decide_eq_false c2
  by_cases c3 : L % 8 = 0
  · have d3 : decide (¬ L % 8 = 0) = false := by simp [c3]
    have e3 : (L : Int) % 8 = 0 := by omega
    by_cases c4 : 0 < fin
    · have e4 : 0 < (fin : Int) := by omega
      by_cases c5 : (fin : Int) < o * 8 + (L : Int)
      · rw [show (!(decide (L = 0) || decide (4000 < o * 8 + (L : Int)) || (true && decide (¬ L % 8 = 0)) || (decide (0 < fin) && (!true || decide ((fin : Int) < o * 8 + (L : Int)))) || (!true && decide (o * 8 + (L : Int) < (reach : Int))) || T)) = false by simp [c4, c5]]
        clear c1 c3 d1 d2 d3
        go_enter Tryd.func23, Tryd.ntmps23
        go_upto_region 1 with fail
        obtain ⟨W1, hW1⟩ : ∃ W1, w.alloc (.cells #[.int .i64 k, .int .i64 t, .int .i64 i, .int .i64 s, .int .i64 d, .int .i64 o, .bool true, .slice a L c] 40) = W1 := ⟨_, rfl⟩
        rw [hW1] at y5 y6 y7 q5 q6 HG htc ⊢
        clear hW1
        go_wp2_with fail
        go_ret
        exact ⟨rfl, HG.out⟩
      · have HT : Hid ((!(decide (L = 0) || decide (4000 < o * 8 + (L : Int)) || (true && decide (¬ L % 8 = 0)) || (decide (0 < fin) && (!true || decide ((fin : Int) < o * 8 + (L : Int)))) || (!true && decide (o * 8 + (L : Int) < (reach : Int))) || T)) = !T) := by
          show (!(decide (L = 0) || decide (4000 < o * 8 + (L : Int)) || (true && decide (¬ L % 8 = 0)) || (decide (0 < fin) && (!true || decide ((fin : Int) < o * 8 + (L : Int)))) || (!true && decide (o * 8 + (L : Int) < (reach : Int))) || T)) = !T
          rw [d1, d2, d3, decide_eq_false c5]; simp
        clear c1 c3 d1 d2 d3
        go_enter Tryd.func23, Tryd.ntmps23
        go_upto_region 1 with fail
        obtain ⟨W1, hW1⟩ : ∃ W1, w.alloc (.cells #[.int .i64 k, .int .i64 t, .int .i64 i, .int .i64 s, .int .i64 d, .int .i64 o, .bool true, .slice a L c] 40) = W1 := ⟨_, rfl⟩
        rw [hW1] at y5 y6 y7 q5 q6 HG htc ⊢
        clear hW1
        go_wp2_with (go_at_call 29; refine htc.mono ?_; rintro e w2 ⟨rfl, hg2⟩)
        go_ret
        exact ⟨by rw [HT.out]; rfl, HG.out.andThen hg2 (fun j hj => by cases hj)⟩
    · have e4 : ¬ 0 < (fin : Int) := by omega
      have HT : Hid ((!(decide (L = 0) || decide (4000 < o * 8 + (L : Int)) || (true && decide (¬ L % 8 = 0)) || (decide (0 < fin) && (!true || decide ((fin : Int) < o * 8 + (L : Int)))) || (!true && decide (o * 8 + (L : Int) < (reach : Int))) || T)) = !T) := by
        show (!(decide (L = 0) || decide (4000 < o * 8 + (L : Int)) || (true && decide (¬ L % 8 = 0)) || (decide (0 < fin) && (!true || decide ((fin : Int) < o * 8 + (L : Int)))) || (!true && decide (o * 8 + (L : Int) < (reach : Int))) || T)) = !T
        rw [d1, d2, d3, decide_eq_false c4]; simp
      clear c1 c3 d1 d2 d3 c4
      go_enter Tryd.func23, Tryd.ntmps23
      go_upto_region 1 with fail
      obtain ⟨W1, hW1⟩ : ∃ W1, w.alloc (.cells #[.int .i64 k, .int .i64 t, .int .i64 i, .int .i64 s, .int .i64 d, .int .i64 o, .bool true, .slice a L c] 40) = W1 := ⟨_, rfl⟩
      rw [hW1] at y5 y6 y7 q5 q6 HG htc ⊢
      clear hW1
      go_wp2_with (go_at_call 29; refine htc.mono ?_; rintro e w2 ⟨rfl, hg2⟩)
      go_ret
      exact ⟨by rw [HT.out]; rfl, HG.out.andThen hg2 (fun j hj => by cases hj)⟩
  · rw [show (!(decide (L = 0) || decide (4000 < o * 8 + (L : Int)) || (true && decide (¬ L % 8 = 0)) || (decide (0 < fin) && (!true || decide ((fin : Int) < o * 8 + (L : Int)))) || (!true && decide (o * 8 + (L : Int) < (reach : Int))) || T)) = false by simp [c3]]
    have e3 : ¬ (L : Int) % 8 = 0 := by omega
    clear c1 c3 d1 d2
    go_enter Tryd.func23, Tryd.ntmps23
    go_upto_region 1 with fail
    obtain ⟨W1, hW1⟩ : ∃ W1, w.alloc (.cells #[.int .i64 k, .int .i64 t, .int .i64 i, .int .i64 s, .int .i64 d, .int .i64 o, .bool true, .slice a L c] 40) = W1 := ⟨_, rfl⟩
    rw [hW1] at y5 y6 y7 q5 q6 HG htc ⊢
    clear hW1
    go_wp2_with fail
    go_ret
    exact ⟨rfl, HG.out⟩
set_option maxRecDepth 100000 in
set_option maxHeartbeats 8000000 in
theorem fits_last (gb : Nat) (k t i s d o : Int) (a : Option Addr) (L c : Nat) (fin reach : Nat) (T : Bool) (w : World) (h5 : w.cell? ⟨gb, 5, none⟩ = some (.int .i64 (reach : Int))) (h6 : w.cell? ⟨gb, 6, none⟩ = some (.int .i64 (fin : Int))) (ho : 0 ≤ o ∧ o ≤ 32767) (hL : L ≤ 4000) (hfin : fin ≤ 4000) (hreach : reach ≤ 4000)
    (htc : Calls Tryd.prog 29 #[ptrV gb, .int .i64 (o * 8), .int .i64 (o * 8 + (L : Int))] (w.alloc (.cells #[.int .i64 k, .int .i64 t, .int .i64 i, .int .i64 s, .int .i64 d, .int .i64 o, .bool false, .slice a L c] 40)) fun e w' => e = .returned (.bool T) ∧ (w.alloc (.cells #[.int .i64 k, .int .i64 t, .int .i64 i, .int .i64 s, .int .i64 d, .int .i64 o, .bool false, .slice a L c] 40)).grownBy w' none) :
    Calls Tryd.prog 23 #[ptrV gb, .agg #[.int .i64 k, .int .i64 t, .int .i64 i, .int .i64 s, .int .i64 d, .int .i64 o, .bool false, .slice a L c]] w fun e w' =>
      e = .returned (.bool (!(decide (L = 0) || decide (4000 < o * 8 + (L : Int)) || (false && decide (¬ L % 8 = 0)) || (decide (0 < fin) && (!false || decide ((fin : Int) < o * 8 + (L : Int)))) || (!false && decide (o * 8 + (L : Int) < (reach : Int))) || T))) ∧ w.grownBy w' none := by
  have hlt : gb < w.heap.size := by
    rcases Nat.lt_or_ge gb w.heap.size with h1 | h1
    · exact h1
    · simp [World.cell?, Array.getElem?_eq_none h1] at h5
  have B1 : Below w.heap.size w (w.alloc (.cells #[.int .i64 k, .int .i64 t, .int .i64 i, .int .i64 s, .int .i64 d, .int .i64 o, .bool false, .slice a L c] 40)) := (Below.refl _ _).alloc (Nat.le_refl _) _
  have q5 := (B1.cell (p := ⟨gb, 5, none⟩) hlt).trans h5
  have q6 := (B1.cell (p := ⟨gb, 6, none⟩) hlt).trans h6
  have hnew := heap_alloc_new w (.cells #[.int .i64 k, .int .i64 t, .int .i64 i, .int .i64 s, .int .i64 d, .int .i64 o, .bool false, .slice a L c] 40)
  have y5 : (w.alloc (.cells #[.int .i64 k, .int .i64 t, .int .i64 i, .int .i64 s, .int .i64 d, .int .i64 o, .bool false, .slice a L c] 40)).cell? ⟨w.heap.size, 5, none⟩ = some (.int .i64 o) := by rw [cell_of_row _ _ 5 _ _ _ hnew]; rfl
  have y6 : (w.alloc (.cells #[.int .i64 k, .int .i64 t, .int .i64 i, .int .i64 s, .int .i64 d, .int .i64 o, .bool false, .slice a L c] 40)).cell? ⟨w.heap.size, 6, none⟩ = some (.bool false) := by rw [cell_of_row _ _ 6 _ _ _ hnew]; rfl
  have y7 : (w.alloc (.cells #[.int .i64 k, .int .i64 t, .int .i64 i, .int .i64 s, .int .i64 d, .int .i64 o, .bool false, .slice a L c] 40)).cell? ⟨w.heap.size, 7, none⟩ = some (.slice a L c) := by rw [cell_of_row _ _ 7 _ _ _ hnew]; rfl
  have HG : Hid (w.grownBy (w.alloc (.cells #[.int .i64 k, .int .i64 t, .int .i64 i, .int .i64 s, .int .i64 d, .int .i64 o, .bool false, .slice a L c] 40)) none) := World.grownBy_alloc w _ none
  unfold ptrV at htc ⊢
  clear hnew B1 h5 h6
  by_cases c1 : L = 0
  · rw [show (!(decide (L = 0) || decide (4000 < o * 8 + (L : Int)) || (false && decide (¬ L % 8 = 0)) || (decide (0 < fin) && (!false || decide ((fin : Int) < o * 8 + (L : Int)))) || (!false && decide (o * 8 + (L : Int) < (reach : Int))) || T)) = false by simp [c1]]
    have c1' : ((L : Int) == 0) = true := by rw [beq_iff_eq]; omega
    have c1'' : (L : Int) = 0 := by omega
    clear c1
    go_enter Tryd.func23, Tryd.ntmps23
    go_upto_region 1 with fail
    obtain ⟨W1, hW1⟩ : ∃ W1, w.alloc (.cells #[.int .i64 k, .int .i64 t, .int .i64 i, .int .i64 s, .int .i64 d, .int .i64 o, .bool false, .slice a L c] 40) = W1 := ⟨_, rfl⟩
    rw [hW1] at y5 y6 y7 q5 q6 HG htc ⊢
    clear hW1
    go_wp2_with fail
    go_ret
    exact ⟨rfl, HG.out⟩
  have d1 : decide (L = 0) = false := decide_eq_false c1
  have e1 : ((L : Int) == 0) = false := by rw [beq_eq_false_iff_ne]; omega
  have e1' : ¬ (L : Int) = 0 := by omega
  by_cases c2 : 4000 < o * 8 + (L : Int)
  · rw [show (!(decide (L = 0) || decide (4000 < o * 8 + (L : Int)) || (false && decide (¬ L % 8 = 0)) || (decide (0 < fin) && (!false || decide ((fin : Int) < o * 8 + (L : Int)))) || (!false && decide (o * 8 + (L : Int) < (reach : Int))) || T)) = false by simp [c2]]
    go_enter Tryd.func23, Tryd.ntmps23
    go_upto_region 1 with fail
    obtain ⟨W1, hW1⟩ : ∃ W1, w.alloc (.cells #[.int .i64 k, .int .i64 t, .int .i64 i, .int .i64 s, .int .i64 d, .int .i64 o, .bool false, .slice a L c] 40) = W1 := ⟨_, rfl⟩
    rw [hW1] at y5 y6 y7 q5 q6 HG htc ⊢
    clear hW1
    go_wp2_with fail
    go_ret
    exact ⟨rfl, HG.out⟩
  have d2 : decide (4000 < o * 8 + (L : Int)) = false := decide_eq_false c2
  by_cases c4 : 0 < fin
  · rw [show (!(decide (L = 0) || decide (4000 < o * 8 + (L : Int)) || (false && decide (¬ L % 8 = 0)) || (decide (0 < fin) && (!false || decide ((fin : Int) < o * 8 + (L : Int)))) || (!false && decide (o * 8 + (L : Int) < (reach : Int))) || T)) = false by simp [c4]]
    have e4 : 0 < (fin : Int) := by omega
    clear c1 d1 d2
    go_enter Tryd.func23, Tryd.ntmps23
    go_upto_region 1 with fail
    obtain ⟨W1, hW1⟩ : ∃ W1, w.alloc (.cells #[.int .i64 k, .int .i64 t, .int .i64 i, .int .i64 s, .int .i64 d, .int .i64 o, .bool false, .slice a L c] 40) = W1 := ⟨_, rfl⟩
    rw [hW1] at y5 y6 y7 q5 q6 HG htc ⊢
    clear hW1
    go_wp2_with fail
    go_ret
    exact ⟨rfl, HG.out⟩
  have e4 : ¬ 0 < (fin : Int) := by omega
  by_cases c5 : o * 8 + (L : Int) < (reach : Int)
  · rw [show (!(decide (L = 0) || decide (4000 < o * 8 + (L : Int)) || (false && decide (¬ L % 8 = 0)) || (decide (0 < fin) && (!false || decide ((fin : Int) < o * 8 + (L : Int)))) || (!false && decide (o * 8 + (L : Int) < (reach : Int))) || T)) = false by simp [c5]]
    clear c1 d1 d2 c4
    go_enter Tryd.func23, Tryd.ntmps23
    go_upto_region 1 with fail
    obtain ⟨W1, hW1⟩ : ∃ W1, w.alloc (.cells #[.int .i64 k, .int .i64 t, .int .i64 i, .int .i64 s, .int .i64 d, .int .i64 o, .bool false, .slice a L c] 40) = W1 := ⟨_, rfl⟩
    rw [hW1] at y5 y6 y7 q5 q6 HG htc ⊢
    clear hW1
    go_wp2_with fail
    go_ret
    exact ⟨rfl, HG.out⟩
  · have HT : Hid ((!(decide (L = 0) || decide (4000 < o * 8 + (L : Int)) || (false && decide (¬ L % 8 = 0)) || (decide (0 < fin) && (!false || decide ((fin : Int) < o * 8 + (L : Int)))) || (!false && decide (o * 8 + (L : Int) < (reach : Int))) || T)) = !T) := by
      show (!(decide (L = 0) || decide (4000 < o * 8 + (L : Int)) || (false && decide (¬ L % 8 = 0)) || (decide (0 < fin) && (!false || decide ((fin : Int) < o * 8 + (L : Int)))) || (!false && decide (o * 8 + (L : Int) < (reach : Int))) || T)) = !T
      rw [d1, d2, decide_eq_false c4, decide_eq_false c5]; simp
    clear c1 d1 d2 c4
    go_enter Tryd.func23, Tryd.ntmps23
    go_upto_region 1 with fail
    obtain ⟨W1, hW1⟩ : ∃ W1, w.alloc (.cells #[.int .i64 k, .int .i64 t, .int .i64 i, .int .i64 s, .int .i64 d, .int .i64 o, .bool false, .slice a L c] 40) = W1 := ⟨_, rfl⟩
    rw [hW1] at y5 y6 y7 q5 q6 HG htc ⊢
    clear hW1
    go_wp2_with (go_at_call 29; refine htc.mono ?_; rintro e w2 ⟨rfl, hg2⟩)
    go_ret
    exact ⟨by rw [HT.out]; rfl, HG.out.andThen hg2 (fun j hj => by cases hj)⟩
theorem fits_any (g : Gb) (p : Pk) (bv : Value) (w : World) (h : GrpAt w g) (hb : g.h.bad = false) (hg : GoodP g.h.all) (hl : g.b < w.heap.size ∧ g.m < w.heap.size ∧ ∀ v ∈ g.vs, ∀ k, v.ownBlock = some k → k < w.heap.size) (hp : Bytes w bv p.body) (he : pkErr p = 0) :
    Calls Tryd.prog 23 #[ptrV g.b, pkV p bv] w fun e w' => e = .returned (.bool (!wrongB g.h.all p)) ∧ w.grownBy w' none := by
  obtain ⟨a, c, rfl⟩ := len_body hp
  have ho := (of_pkIn (pkErr_ok he).1).2.2.2.2.2
  have hL := (pkErr_ok he).2
  obtain ⟨b1, b2, b3⟩ := bounds_kept hg
  obtain ⟨_, _, _, _, c5, c6⟩ := grp_cells h hb
  have htc := fun (o : Obj) => touches_any g (p.pos * 8) (p.pos * 8 + (p.body.length : Int)) (w.alloc o) (h.keep (Below.heap_alloc w o g.b hl.1) (fun _ => ⟨Below.heap_alloc w o g.m hl.2.1, fun v hv k hk => Below.heap_alloc w o k (hl.2.2 v hv k hk)⟩)) hb hg
  have hw := wrongB_parts hg (x := p) ho.1
  have e1 : endI p = p.pos * 8 + (p.body.length : Int) := by unfold endI; omega
  have e2 : touchB g.h.all p = g.h.all.any (meetB (p.pos * 8) (p.pos * 8 + (p.body.length : Int))) := by
    unfold touchB
    congr 1
    funext y
    unfold touchY meetB
    rw [Int.mul_comm 8 p.pos, Int.mul_comm 8 y.pos]
  rw [e1, e2] at hw
  unfold pkV
  rcases hm : p.more with _ | _
  · rw [hm] at hw
    refine (fits_last g.b p.kind p.ttl p.ident p.src p.dst p.pos a p.body.length c (finN g.h.all) (reachN g.h.all) _ w c5 c6 ho hL b3 b2 (htc _)).mono ?_
    rintro e w' ⟨rfl, hgr⟩
    exact ⟨by rw [hw], hgr⟩
  · rw [hm] at hw
    refine (fits_more g.b p.kind p.ttl p.ident p.src p.dst p.pos a p.body.length c (finN g.h.all) (reachN g.h.all) _ w c5 c6 ho hL b3 b2 (htc _)).mono ?_
    rintro e w' ⟨rfl, hgr⟩
    exact ⟨by rw [hw], hgr⟩
end Go.Proofs.YtgodjaffmojhlaaDoor
