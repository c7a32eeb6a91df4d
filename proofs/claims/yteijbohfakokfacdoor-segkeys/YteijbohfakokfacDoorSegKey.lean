/- What Turn and First of package seg return, for every key (and cmp.Compare and cmp.Or of the library at int, as First calls them). -/
import Derived.Test.YteijbohfakokfacDoorSegAt
import Derived.Test.YteijbohfakokfacDoorSegFit
import Derived.Deep.RegionHeld3
import Derived.Deep.DrawnRows
namespace Go.Proofs.YteijbohfakokfacDoor
open Go.RowKit
set_option linter.unusedVariables false

theorem turn_any (k : Ky) (w : World) :
    Calls Tryd.prog 10 #[keyV k] w fun e w' => e = .returned (keyV (turnK k)) ∧ Below w.heap.size w w' := by
  unfold keyV turnK
  go_enter Tryd.func10, Tryd.ntmps10
  go_wp2
  exact bodyPost_ret (v := .agg #[.int .i64 k.kind, .int .i64 k.dst, .int .i64 k.too, .int .i64 k.src, .int .i64 k.frm]) (by simp [results, Tryd.results10, go_sem]) rfl ⟨rfl, ((Below.refl _ _).alloc (Nat.le_refl _) _).alloc (by simp) _⟩
theorem isNaN_any (n : Int) (w : World) : Calls Tryd.prog 45 #[.int .i64 n] w fun e w' => e = .returned (.bool false) ∧ w' = w := by
  go_enter Tryd.func45, Tryd.ntmps45
  go_wp2
  go_ret
  exact ⟨by simp, rfl⟩
def cmpI (a b : Int) : Int := if a < b then -1 else if b < a then 1 else 0
theorem compare_any (a b : Int) (w : World) : Calls Tryd.prog 26 #[.int .i64 a, .int .i64 b] w fun e w' => e = .returned (.int .i64 (cmpI a b)) ∧ w' = w := by
  by_cases h1 : a < b
  · rw [show cmpI a b = -1 from if_pos h1]
    go_enter Tryd.func26, Tryd.ntmps26
    go_wp2_with (go_at_call 45; refine (isNaN_any _ _).mono ?_; rintro e w' ⟨rfl, rfl⟩)
    go_ret
    exact ⟨rfl, rfl⟩
  · by_cases h2 : b < a
    · rw [show cmpI a b = 1 by unfold cmpI; rw [if_neg h1, if_pos h2]]
      go_enter Tryd.func26, Tryd.ntmps26
      go_wp2_with (go_at_call 45; refine (isNaN_any _ _).mono ?_; rintro e w' ⟨rfl, rfl⟩)
      go_ret
      exact ⟨rfl, rfl⟩
    · rw [show cmpI a b = 0 by unfold cmpI; rw [if_neg h1, if_neg h2]]
      go_enter Tryd.func26, Tryd.ntmps26
      go_wp2_with (go_at_call 45; refine (isNaN_any _ _).mono ?_; rintro e w' ⟨rfl, rfl⟩)
      go_ret
      exact ⟨rfl, rfl⟩
def orI (x y : Int) : Int := if x = 0 then y else x
theorem or_any (g : Nat) (x y : Int) (w : World) (h0 : w.cell? ⟨g, 0, none⟩ = some (.int .i64 x)) (h1 : w.cell? ⟨g, 1, none⟩ = some (.int .i64 y)) :
    Calls Tryd.prog 25 #[.slice (some ⟨g, 0, none⟩) 2 2] w fun e w' => e = .returned (.int .i64 (orI x y)) ∧ w' = w := by
  by_cases hx : x = 0
  · rw [show orI x y = y from if_pos hx]
    have e1 : (x != 0) = false := by simp [hx]
    clear hx
    by_cases hy : y = 0
    · have e2 : (y != 0) = false := by simp [hy]
      have HY : Hid (y = 0) := hy
      clear hy
      go_enter Tryd.func25, Tryd.ntmps25
      go_wp2
      refine wp_loop_rounds 3 ?_
      rw [rounds_succ]
      go_wp2
      rw [rounds_succ]
      go_wp2
      rw [rounds_succ]
      go_wp2
      go_ret
      exact ⟨by rw [HY.out]; rfl, rfl⟩
    · have e2 : (y != 0) = true := by simpa using hy
      go_enter Tryd.func25, Tryd.ntmps25
      go_wp2
      refine wp_loop_rounds 2 ?_
      rw [rounds_succ]
      go_wp2
      rw [rounds_succ]
      go_wp2
      go_ret
      exact ⟨rfl, rfl⟩
  · rw [show orI x y = x from if_neg hx]
    have e1 : (x != 0) = true := by simpa using hx
    go_enter Tryd.func25, Tryd.ntmps25
    go_wp2
    refine wp_loop_rounds 1 ?_
    rw [rounds_succ]
    go_wp2
    go_ret
    exact ⟨rfl, rfl⟩
theorem first_neg (k : Ky) : orI (cmpI k.dst k.src) (cmpI k.too k.frm) < 0 ↔ (k.dst < k.src ∨ (k.dst = k.src ∧ k.too < k.frm)) := by
  unfold orI cmpI
  split <;> split <;> (try split) <;> (try split) <;> omega
theorem KyAt.drew {w : World} {b : Nat} {p : Ky} (h : KyAt w b p) : KyAt w.drew b p := h
/-- What holds all the way. -/
def KdS (w : World) (k : Ky) (w' : World) : Prop := KyAt w' w.heap.size k ∧ KyAt w' (w.heap.size + 1) zeroY ∧ Below w.heap.size w w'
theorem KdS.drew {w : World} {k : Ky} {w' : World} (h : KdS w k w') : KdS w k w'.drew := ⟨h.1, h.2.1, h.2.2.drew⟩
theorem KdS.alloc {w : World} {k : Ky} {w' : World} (h : KdS w k w') (o : Obj) : KdS w k (w'.alloc o) := ⟨h.1.alloc o, h.2.1.alloc o, h.2.2.alloc h.2.2.size o⟩
end Go.Proofs.YteijbohfakokfacDoor
