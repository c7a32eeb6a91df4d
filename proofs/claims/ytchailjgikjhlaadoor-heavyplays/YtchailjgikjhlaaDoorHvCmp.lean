/- Which of two counts is ahead: what the order of ranked of package heavy tells (and cmp.Compare and cmp.Or of the library at int). -/
import Derived.Test.YtchailjgikjhlaaDoorHvCnt
import Derived.Deep.DrawnRows
import Derived.Shelf.SlSortFuncK.ComposeK
namespace Go.Proofs.YtchailjgikjhlaaDoor
open Go.RowKit
open Go.Sort hiding Below
set_option linter.unusedVariables false

theorem isNaN_any (n : Int) (w : World) : Calls Tryd.prog 36 #[.int .i64 n] w fun e w' => e = .returned (.bool false) ∧ w' = w := by
  go_enter Tryd.func36, Tryd.ntmps36
  go_wp2
  go_ret
  exact ⟨by simp, rfl⟩
def cmpI (a b : Int) : Int := if a < b then -1 else if b < a then 1 else 0
theorem compare_any (a b : Int) (w : World) : Calls Tryd.prog 29 #[.int .i64 a, .int .i64 b] w fun e w' => e = .returned (.int .i64 (cmpI a b)) ∧ w' = w := by
  by_cases h1 : a < b
  · rw [show cmpI a b = -1 from if_pos h1]
    go_enter Tryd.func29, Tryd.ntmps29
    go_wp2_with (go_at_call 36; refine (isNaN_any _ _).mono ?_; rintro e w' ⟨rfl, rfl⟩)
    go_ret
    exact ⟨rfl, rfl⟩
  · by_cases h2 : b < a
    · rw [show cmpI a b = 1 by unfold cmpI; rw [if_neg h1, if_pos h2]]
      go_enter Tryd.func29, Tryd.ntmps29
      go_wp2_with (go_at_call 36; refine (isNaN_any _ _).mono ?_; rintro e w' ⟨rfl, rfl⟩)
      go_ret
      exact ⟨rfl, rfl⟩
    · rw [show cmpI a b = 0 by unfold cmpI; rw [if_neg h1, if_neg h2]]
      go_enter Tryd.func29, Tryd.ntmps29
      go_wp2_with (go_at_call 36; refine (isNaN_any _ _).mono ?_; rintro e w' ⟨rfl, rfl⟩)
      go_ret
      exact ⟨rfl, rfl⟩
def orI (x y : Int) : Int := if x = 0 then y else x
theorem or_any (g : Nat) (x y : Int) (w : World) (h0 : w.cell? ⟨g, 0, none⟩ = some (.int .i64 x)) (h1 : w.cell? ⟨g, 1, none⟩ = some (.int .i64 y)) :
    Calls Tryd.prog 28 #[.slice (some ⟨g, 0, none⟩) 2 2] w fun e w' => e = .returned (.int .i64 (orI x y)) ∧ w' = w := by
  by_cases hx : x = 0
  · rw [show orI x y = y from if_pos hx]
    have e1 : (x != 0) = false := by simp [hx]
    clear hx
    by_cases hy : y = 0
    · have e2 : (y != 0) = false := by simp [hy]
      have HY : Hid (y = 0) := hy
      clear hy
      go_enter Tryd.func28, Tryd.ntmps28
      go_wp2
      refine wp_loop_rounds 3 ?_
      rw [rounds_succ]
      go_wp2
      rw [rounds_succ]
      go_wp2
      rw [rounds_succ]
      go_wp2
      go_ret
      exact ⟨by rw [HY.out]; rfl, rfl⟩
    · have e2 : (y != 0) = true := by simpa using hy
      go_enter Tryd.func28, Tryd.ntmps28
      go_wp2
      refine wp_loop_rounds 2 ?_
      rw [rounds_succ]
      go_wp2
      rw [rounds_succ]
      go_wp2
      go_ret
      exact ⟨rfl, rfl⟩
  · rw [show orI x y = x from if_neg hx]
    have e1 : (x != 0) = true := by simpa using hx
    go_enter Tryd.func28, Tryd.ntmps28
    go_wp2
    refine wp_loop_rounds 1 ?_
    rw [rounds_succ]
    go_wp2
    go_ret
    exact ⟨rfl, rfl⟩
theorem orI_neg (x y : Int) : orI x y < 0 ↔ x < 0 ∨ (x = 0 ∧ y < 0) := by unfold orI; split <;> omega
theorem cmpI_neg (a b : Int) : cmpI a b < 0 ↔ a < b := by unfold cmpI; repeat' split
                                                          all_goals omega
theorem cmpI_zero (a b : Int) : cmpI a b = 0 ↔ a = b := by unfold cmpI; repeat' split
                                                           all_goals omega
/-- A count. -/
structure Ct where
  key : Int
  many : Int
  less : Int
def cmpC (p q : Ct) : Int := orI (cmpI q.many p.many) (cmpI p.key q.key)
/-- Is a count ahead of another one? -/
def LtC (p q : Ct) : Prop := q.many < p.many ∨ (q.many = p.many ∧ p.key < q.key)
theorem cmpC_neg (p q : Ct) : cmpC p q < 0 ↔ LtC p q := by
  unfold cmpC LtC
  simp only [orI_neg, cmpI_neg, cmpI_zero]
theorem LtC_trans {p q r : Ct} (h1 : LtC p q) (h2 : LtC q r) : LtC p r := by unfold LtC at *; omega
theorem LtC_irr (p : Ct) : ¬ LtC p p := by unfold LtC; omega
theorem CtBox {w : World} (p : Ct) : (w.alloc (.cells #[.int .i64 p.key, .int .i64 p.many, .int .i64 p.less] 37)).heap[w.heap.size]? = some (.cells #[.int .i64 p.key, .int .i64 p.many, .int .i64 p.less] 37 (0, 0)) := heap_alloc_new _ _
/-- Two counts in boxes. -/
def Cp2 (w : World) (p q : Ct) (X : World) : Prop := X.heap[w.heap.size]? = some (.cells #[.int .i64 p.key, .int .i64 p.many, .int .i64 p.less] 37 (0, 0)) ∧ X.heap[w.heap.size + 1]? = some (.cells #[.int .i64 q.key, .int .i64 q.many, .int .i64 q.less] 37 (0, 0))
theorem Cp2.drew {w : World} {p q : Ct} {X : World} (h : Cp2 w p q X) : Cp2 w p q X.drew := ⟨h.1, h.2⟩
theorem Cp2.alloc {w : World} {p q : Ct} {X : World} (h : Cp2 w p q X) (o : Obj) : Cp2 w p q (X.alloc o) := ⟨(Below.heap_alloc _ _ _ (blkLt h.1)).trans h.1, (Below.heap_alloc _ _ _ (blkLt h.2)).trans h.2⟩
theorem cp_of {w : World} {p q : Ct} {X : World} (h : Cp2 w p q X) : (X.cell? ⟨w.heap.size, 0, none⟩ = some (.int .i64 p.key) ∧ X.cell? ⟨w.heap.size, 1, none⟩ = some (.int .i64 p.many) ∧ X.cell? ⟨w.heap.size, 2, none⟩ = some (.int .i64 p.less) ∧ X.cell? ⟨w.heap.size + 1, 0, none⟩ = some (.int .i64 q.key) ∧ X.cell? ⟨w.heap.size + 1, 1, none⟩ = some (.int .i64 q.many) ∧ X.cell? ⟨w.heap.size + 1, 2, none⟩ = some (.int .i64 q.less)) ∧ Cp2 w p q X := by
  obtain ⟨a0, a1, a2⟩ := ct_cells h.1
  obtain ⟨b0, b1, b2⟩ := ct_cells h.2
  exact ⟨⟨a0, a1, a2, b0, b1, b2⟩, h⟩
set_option maxRecDepth 100000 in
set_option maxHeartbeats 16000000 in
theorem ccmp_any (p q : Ct) (w : World) :
    Calls Tryd.prog 27 #[.agg #[.int .i64 p.key, .int .i64 p.many, .int .i64 p.less], .agg #[.int .i64 q.key, .int .i64 q.many, .int .i64 q.less]] w fun e w' => e = .returned (.int .i64 (cmpC p q)) ∧ ∃ n os', w' = grow (w.drewN n) os' := by
  have hS : Cp2 w p q ((w.alloc (.cells #[.int .i64 p.key, .int .i64 p.many, .int .i64 p.less] 37)).alloc (.cells #[.int .i64 q.key, .int .i64 q.many, .int .i64 q.less] 37)) := by
    refine ⟨(Below.heap_alloc _ _ _ (by simp)).trans (heap_alloc_new _ _), ?_⟩
    have := heap_alloc_new (w.alloc (.cells #[.int .i64 p.key, .int .i64 p.many, .int .i64 p.less] 37)) (.cells #[.int .i64 q.key, .int .i64 q.many, .int .i64 q.less] 37)
    rw [show (w.alloc (.cells #[.int .i64 p.key, .int .i64 p.many, .int .i64 p.less] 37)).heap.size = w.heap.size + 1 by simp] at this
    exact this
  obtain ⟨r, hr⟩ : ∃ r, cmpC p q = r := ⟨_, rfl⟩
  rw [hr]
  unfold cmpC at hr
  obtain ⟨x0, hx0⟩ : ∃ x, cmpI q.many p.many = x := ⟨_, rfl⟩
  have c0 := hidE (fun W => compare_any q.many p.many W)
  rw [hx0] at hr c0
  obtain ⟨x1, hx1⟩ : ∃ x, cmpI p.key q.key = x := ⟨_, rfl⟩
  have c1 := hidE (fun W => compare_any p.key q.key W)
  rw [hx1] at hr c1
  have hor := hidE (fun (g : Nat) (W : World) h0 h1 => or_any g x0 x1 W h0 h1)
  rw [hr] at hor
  clear hr hx0 hx1
  have HW : Hid (∃ n os', (((w.alloc (.cells #[.int .i64 p.key, .int .i64 p.many, .int .i64 p.less] 37)).alloc (.cells #[.int .i64 q.key, .int .i64 q.many, .int .i64 q.less] 37)).alloc (.cells #[.int .i64 x0, .int .i64 x1] 3)).drew = grow (w.drewN n) os') := by
    refine ⟨1, #[.cells #[.int .i64 p.key, .int .i64 p.many, .int .i64 p.less] 37 (0, 0), .cells #[.int .i64 q.key, .int .i64 q.many, .int .i64 q.less] 37 (0, 0), .cells #[.int .i64 x0, .int .i64 x1] 3 (0, 0)], ?_⟩
    rw [alloc_eq_grow, alloc_eq_grow, alloc_eq_grow, grow_grow, grow_grow]; rfl
  obtain ⟨W1, hW1⟩ : ∃ W1, (w.alloc (.cells #[.int .i64 p.key, .int .i64 p.many, .int .i64 p.less] 37)).alloc (.cells #[.int .i64 q.key, .int .i64 q.many, .int .i64 q.less] 37) = W1 := ⟨_, rfl⟩
  rw [hW1] at hS HW
  go_enter Tryd.func27, Tryd.ntmps27
  go_upto_region 1 with fail
  try rw [hW1]
  clear hW1
  have m0 : True := trivial
  have hT := cp_of hS
  go_region_held3 (fun X => (X.cell? ⟨w.heap.size, 0, none⟩ = some (.int .i64 p.key) ∧ X.cell? ⟨w.heap.size, 1, none⟩ = some (.int .i64 p.many) ∧ X.cell? ⟨w.heap.size, 2, none⟩ = some (.int .i64 p.less) ∧ X.cell? ⟨w.heap.size + 1, 0, none⟩ = some (.int .i64 q.key) ∧ X.cell? ⟨w.heap.size + 1, 1, none⟩ = some (.int .i64 q.many) ∧ X.cell? ⟨w.heap.size + 1, 2, none⟩ = some (.int .i64 q.less)) ∧ Cp2 w p q X) (with_reducible first | assumption | exact cp_of hS | exact cp_of (Cp2.drew (And.right (by assumption))) | exact cp_of (Cp2.alloc (And.right (by assumption)) _) | exact cp_of (Cp2.drew (Cp2.alloc (And.right (by assumption)) _)) | exact cp_of (Cp2.drew hS) | exact cp_of (Cp2.drew (Cp2.alloc hS _))) (first
    | (go_at_call 29; have m1 : True := m0; clear m0; refine (c0.out _).mono ?_; rintro e w' ⟨rfl, rfl⟩)
    | (go_at_call 29; have m2 : True := m1; clear m1; refine (c1.out _).mono ?_; rintro e w' ⟨rfl, rfl⟩)
    | (go_at_call 28; refine (hor.out _ _ (by simp) (by simp)).mono ?_; rintro e w' ⟨rfl, rfl⟩))
  clear hS hT
  go_wp2_with fail
  go_ret
  exact ⟨rfl, HW.out⟩
end Go.Proofs.YtchailjgikjhlaaDoor
