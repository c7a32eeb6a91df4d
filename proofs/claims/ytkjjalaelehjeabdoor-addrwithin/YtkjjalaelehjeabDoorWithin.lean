/- The walk of the law AddrWithin (package portlaw4): for every input it returns true, and what lay in memory stays. Condition: the library's table of powers of ten holds what its text lays. -/
import Derived.Test.YtkjjalaelehjeabDoorWithinMath
import Derived.Test.YtkjjalaelehjeabDoorShowMath
import Derived.Test.YtkjjalaelehjeabDoorAddrPrint
namespace Go.Proofs.YtkjjalaelehjeabDoor
open Go.RowKit
set_option linter.unusedVariables false

/-- Two pairs that were boxed at the end of w's heap lie there still. -/
def Bx (w : World) (a l b m : Int) (w1 : World) : Prop :=
  w1.cell? ⟨w.heap.size, 0, none⟩ = some (.int .i64 a) ∧ w1.cell? ⟨w.heap.size, 1, none⟩ = some (.int .i64 l) ∧ w1.cell? ⟨w.heap.size + 1, 0, none⟩ = some (.int .i64 b) ∧ w1.cell? ⟨w.heap.size + 1, 1, none⟩ = some (.int .i64 m) ∧ Below w.heap.size w w1 ∧ w.heap.size + 1 < w1.heap.size
theorem Bx.first {w : World} {a l b m : Int} {t : TypeId} : Bx w a l b m ((w.alloc (.cells #[.int .i64 a, .int .i64 l] t)).alloc (.cells #[.int .i64 b, .int .i64 m] t)) := boxed2 (Below.refl _ _)
theorem Bx.step {w w1 w2 : World} {a l b m : Int} (h : Bx w a l b m w1) (hb : Below w1.heap.size w1 w2) : Bx w a l b m w2 := by
  obtain ⟨c0, c1, c2, c3, b1, z1⟩ := h
  obtain ⟨d0, d1, d2, d3⟩ := boxed2' c0 c1 c2 c3 z1 hb
  have := hb.size
  exact ⟨d0, d1, d2, d3, b1.trans (hb.mono (by omega)), by omega⟩

set_option maxHeartbeats 4000000 in
theorem within_pq (a l b m c : Int) (w : World) (hp : prefE a l = 0) (hq : ¬ prefE b m = 0) :
    Calls Tryd.prog 4 #[.agg #[.int .i64 a, .int .i64 l], .agg #[.int .i64 b, .int .i64 m], .int .i64 c] w fun e w' => e = .returned (.bool true) ∧ Below w.heap.size w w' := by
  have hcp := fun w => check_ok a l w hp
  have hcq := fun w => check_bad b m w hq
  have hin := fun w => inside_any a l b m w
  rw [in_bad (.inr hq)] at hin
  have x : Bx w a l b m ((w.alloc (.cells #[.int .i64 a, .int .i64 l] 28)).alloc (.cells #[.int .i64 b, .int .i64 m] 28)) := Bx.first
  clear hp hq
  go_enter Tryd.func4, Tryd.ntmps4
  go_wp2_with (first
    | (go_at_call_of 8 (Value.agg #[.int .i64 a, .int .i64 l]); refine (hcp _).mono ?_; rintro e wj ⟨rfl, bj⟩; have x := x.step bj; obtain ⟨_, _, _, _, _, _⟩ := id x)
    | (go_at_call_of 8 (Value.agg #[.int .i64 b, .int .i64 m]); refine (hcq _).mono ?_; rintro e wj ⟨rfl, bj⟩; have x := x.step bj; obtain ⟨_, _, _, _, _, _⟩ := id x)
    | (go_at_call 15; refine (hin _).mono ?_; rintro e wj ⟨rfl, bj⟩; have x := x.step bj; obtain ⟨_, _, _, _, _, _⟩ := id x))
  go_ret
  exact ⟨rfl, x.2.2.2.2.1⟩

set_option maxHeartbeats 4000000 in
theorem within_p (a l b m c : Int) (w : World) (hp : ¬ prefE a l = 0) :
    Calls Tryd.prog 4 #[.agg #[.int .i64 a, .int .i64 l], .agg #[.int .i64 b, .int .i64 m], .int .i64 c] w fun e w' => e = .returned (.bool true) ∧ Below w.heap.size w w' := by
  have hcp := fun w => check_bad a l w hp
  have hin := fun w => inside_any a l b m w
  rw [in_bad (.inl hp)] at hin
  have hha := fun w => has_any a l c w
  rw [has_bad hp] at hha
  have x : Bx w a l b m ((w.alloc (.cells #[.int .i64 a, .int .i64 l] 28)).alloc (.cells #[.int .i64 b, .int .i64 m] 28)) := Bx.first
  clear hp
  by_cases hq : prefE b m = 0
  · have hcq := fun w => check_ok b m w hq
    go_enter Tryd.func4, Tryd.ntmps4
    go_wp2_with (first
      | (go_at_call_of 8 (Value.agg #[.int .i64 a, .int .i64 l]); refine (hcp _).mono ?_; rintro e wj ⟨rfl, bj⟩; have x := x.step bj; obtain ⟨_, _, _, _, _, _⟩ := id x)
      | (go_at_call_of 8 (Value.agg #[.int .i64 b, .int .i64 m]); refine (hcq _).mono ?_; rintro e wj ⟨rfl, bj⟩; have x := x.step bj; obtain ⟨_, _, _, _, _, _⟩ := id x)
      | (go_at_call 15; refine (hin _).mono ?_; rintro e wj ⟨rfl, bj⟩; have x := x.step bj; obtain ⟨_, _, _, _, _, _⟩ := id x)
      | (go_at_call 6; refine (hha _).mono ?_; rintro e wj ⟨rfl, bj⟩; have x := x.step bj; obtain ⟨_, _, _, _, _, _⟩ := id x))
    go_ret
    exact ⟨rfl, x.2.2.2.2.1⟩
  · have hcq := fun w => check_bad b m w hq
    go_enter Tryd.func4, Tryd.ntmps4
    go_wp2_with (first
      | (go_at_call_of 8 (Value.agg #[.int .i64 a, .int .i64 l]); refine (hcp _).mono ?_; rintro e wj ⟨rfl, bj⟩; have x := x.step bj; obtain ⟨_, _, _, _, _, _⟩ := id x)
      | (go_at_call_of 8 (Value.agg #[.int .i64 b, .int .i64 m]); refine (hcq _).mono ?_; rintro e wj ⟨rfl, bj⟩; have x := x.step bj; obtain ⟨_, _, _, _, _, _⟩ := id x)
      | (go_at_call 15; refine (hin _).mono ?_; rintro e wj ⟨rfl, bj⟩; have x := x.step bj; obtain ⟨_, _, _, _, _, _⟩ := id x)
      | (go_at_call 6; refine (hha _).mono ?_; rintro e wj ⟨rfl, bj⟩; have x := x.step bj; obtain ⟨_, _, _, _, _, _⟩ := id x))
    go_ret
    exact ⟨rfl, x.2.2.2.2.1⟩

set_option maxHeartbeats 8000000 in
theorem within_both (a l b m c : Int) (w : World) (hp : prefE a l = 0) (hq : prefE b m = 0) (ht : Tab w) :
    Calls Tryd.prog 4 #[.agg #[.int .i64 a, .int .i64 l], .agg #[.int .i64 b, .int .i64 m], .int .i64 c] w fun e w' => e = .returned (.bool true) ∧ Below w.heap.size w w' := by
  have hcp := fun w => check_ok a l w hp
  have hcq := fun w => check_ok b m w hq
  have hen := fun w => ends_ok a l w hp
  have hin := in_both hp hq
  have hlo := has_low hp
  have hun := has_under hp
  have hov := has_over hp
  have hsh := has_shared (x := c) hp hq
  have h1 := pw_pos (32 - l)
  have h2 := pref_top hp
  obtain ⟨⟨h3, h4⟩, _⟩ := prefE_zero hp
  obtain ⟨y, hy⟩ : ∃ y, y = a + pw (32 - l) - 1 := ⟨_, rfl⟩
  rw [← hy] at hen hin hov h2
  have h5 : a ≤ y := by omega
  have x : Bx w a l b m ((w.alloc (.cells #[.int .i64 a, .int .i64 l] 28)).alloc (.cells #[.int .i64 b, .int .i64 m] 28)) := Bx.first
  have hpr : ∀ w, Tab w → Calls Tryd.prog 14 #[.int .i64 c] w fun e w' => e = .returned (.tuple #[.string (mkB (if isAddr c = true then showL c else [])), if isAddr c = true then .nilIface else .iface 46 (.int .i64 1)]) ∧ Below w.heap.size w w' := by
    intro w ht
    rcases hc : isAddr c with _ | _
    · exact print_bad c w hc
    · exact print_ok c w hc ht
  have hpp : isAddr c = true → ∀ w, Calls Tryd.prog 11 #[.string (mkB (showL c))] w fun e w' => e = .returned (.tuple #[.agg #[.int .i64 c, .int .i64 32], .nilIface]) ∧ Below w.heap.size w w' := by
    intro hc w
    have := parsePrefix_any (showL c) w (by have := showL_short c; omega)
    rw [read_show (of_isAddr hc).1 (of_isAddr hc).2, prefR_ok] at this
    exact this
  clear hp hq h1 hy
  have leaf : (hasB b m a = false ∧ inB a l b m = false) ∨ (hasB b m a = true ∧ hasB b m y = false ∧ inB a l b m = false) ∨ (hasB b m a = true ∧ hasB b m y = true ∧ inB a l b m = true) := by
    rcases e1 : hasB b m a with _ | _
    · exact .inl ⟨rfl, by rw [hin, e1]; rfl⟩
    · rcases e2 : hasB b m y with _ | _
      · exact .inr (.inl ⟨rfl, rfl, by rw [hin, e1, e2]; rfl⟩)
      · exact .inr (.inr ⟨rfl, rfl, by rw [hin, e1, e2]; rfl⟩)
  have leaf2 : inB a l b m = true ∨ (inB b m a l = true) ∨ (inB b m a l = false ∧ hasB a l c = false) ∨ (inB b m a l = false ∧ hasB a l c = true ∧ hasB b m c = false) := by
    rcases e0 : inB a l b m with _ | _
    · rcases e3 : inB b m a l with _ | _
      · have := hsh e0 e3
        rcases e4 : hasB a l c with _ | _
        · exact .inr (.inr (.inl ⟨rfl, rfl⟩))
        · rw [e4] at this
          exact .inr (.inr (.inr ⟨rfl, rfl, by simpa using this⟩))
      · exact .inr (.inl rfl)
    · exact .inl rfl
  clear hin hsh
  rcases hc : isAddr c with _ | _
  · rw [hc] at hpr
    simp only [if_false, Bool.false_eq_true] at hpr
    clear hpp
    rcases leaf with ⟨e1, e0⟩ | ⟨e1, e2, e0⟩ | ⟨e1, e2, e0⟩
    · rw [e0] at leaf2
      rcases leaf2 with e3 | e3 | ⟨e3, e4⟩ | ⟨e3, e4, e5⟩
      · simp at e3
      all_goals
        go_enter Tryd.func4, Tryd.ntmps4
        go_wp2_with (first
        | (go_at_call_of 8 (Value.agg #[.int .i64 a, .int .i64 l]); refine (hcp _).mono ?_; rintro e wj ⟨rfl, bj⟩; have x := x.step bj; obtain ⟨_, _, _, _, _, _⟩ := id x)
        | (go_at_call_of 8 (Value.agg #[.int .i64 b, .int .i64 m]); refine (hcq _).mono ?_; rintro e wj ⟨rfl, bj⟩; have x := x.step bj; obtain ⟨_, _, _, _, _, _⟩ := id x)
        | (go_at_call 7; refine (hen _).mono ?_; rintro e wj ⟨rfl, bj⟩; have x := x.step bj; obtain ⟨_, _, _, _, _, _⟩ := id x)
        | (go_at_call 15; refine (inside_any _ _ _ _ _).mono ?_; rintro e wj ⟨rfl, bj⟩; have x := x.step bj; obtain ⟨_, _, _, _, _, _⟩ := id x)
        | (go_at_call 6; refine (has_any _ _ _ _).mono ?_; rintro e wj ⟨rfl, bj⟩; have x := x.step bj; obtain ⟨_, _, _, _, _, _⟩ := id x)
        | (go_at_call 14; refine (hpr _ (ht.below x.2.2.2.2.1)).mono ?_; rintro e wj ⟨rfl, bj⟩; have x := x.step bj; obtain ⟨_, _, _, _, _, _⟩ := id x))
        go_ret
        exact ⟨rfl, x.2.2.2.2.1⟩
    · rw [e0] at leaf2
      rcases leaf2 with e3 | e3 | ⟨e3, e4⟩ | ⟨e3, e4, e5⟩
      · simp at e3
      all_goals
        go_enter Tryd.func4, Tryd.ntmps4
        go_wp2_with (first
        | (go_at_call_of 8 (Value.agg #[.int .i64 a, .int .i64 l]); refine (hcp _).mono ?_; rintro e wj ⟨rfl, bj⟩; have x := x.step bj; obtain ⟨_, _, _, _, _, _⟩ := id x)
        | (go_at_call_of 8 (Value.agg #[.int .i64 b, .int .i64 m]); refine (hcq _).mono ?_; rintro e wj ⟨rfl, bj⟩; have x := x.step bj; obtain ⟨_, _, _, _, _, _⟩ := id x)
        | (go_at_call 7; refine (hen _).mono ?_; rintro e wj ⟨rfl, bj⟩; have x := x.step bj; obtain ⟨_, _, _, _, _, _⟩ := id x)
        | (go_at_call 15; refine (inside_any _ _ _ _ _).mono ?_; rintro e wj ⟨rfl, bj⟩; have x := x.step bj; obtain ⟨_, _, _, _, _, _⟩ := id x)
        | (go_at_call 6; refine (has_any _ _ _ _).mono ?_; rintro e wj ⟨rfl, bj⟩; have x := x.step bj; obtain ⟨_, _, _, _, _, _⟩ := id x)
        | (go_at_call 14; refine (hpr _ (ht.below x.2.2.2.2.1)).mono ?_; rintro e wj ⟨rfl, bj⟩; have x := x.step bj; obtain ⟨_, _, _, _, _, _⟩ := id x))
        go_ret
        exact ⟨rfl, x.2.2.2.2.1⟩
    · clear leaf2
      go_enter Tryd.func4, Tryd.ntmps4
      go_wp2_with (first
      | (go_at_call_of 8 (Value.agg #[.int .i64 a, .int .i64 l]); refine (hcp _).mono ?_; rintro e wj ⟨rfl, bj⟩; have x := x.step bj; obtain ⟨_, _, _, _, _, _⟩ := id x)
      | (go_at_call_of 8 (Value.agg #[.int .i64 b, .int .i64 m]); refine (hcq _).mono ?_; rintro e wj ⟨rfl, bj⟩; have x := x.step bj; obtain ⟨_, _, _, _, _, _⟩ := id x)
      | (go_at_call 7; refine (hen _).mono ?_; rintro e wj ⟨rfl, bj⟩; have x := x.step bj; obtain ⟨_, _, _, _, _, _⟩ := id x)
      | (go_at_call 15; refine (inside_any _ _ _ _ _).mono ?_; rintro e wj ⟨rfl, bj⟩; have x := x.step bj; obtain ⟨_, _, _, _, _, _⟩ := id x)
      | (go_at_call 6; refine (has_any _ _ _ _).mono ?_; rintro e wj ⟨rfl, bj⟩; have x := x.step bj; obtain ⟨_, _, _, _, _, _⟩ := id x)
      | (go_at_call 14; refine (hpr _ (ht.below x.2.2.2.2.1)).mono ?_; rintro e wj ⟨rfl, bj⟩; have x := x.step bj; obtain ⟨_, _, _, _, _, _⟩ := id x))
      go_ret
      exact ⟨rfl, x.2.2.2.2.1⟩
  · rw [hc] at hpr
    simp only [if_true] at hpr
    have hpp := hpp hc
    rcases leaf with ⟨e1, e0⟩ | ⟨e1, e2, e0⟩ | ⟨e1, e2, e0⟩
    · rw [e0] at leaf2
      rcases leaf2 with e3 | e3 | ⟨e3, e4⟩ | ⟨e3, e4, e5⟩
      · simp at e3
      all_goals
        go_enter Tryd.func4, Tryd.ntmps4
        go_wp2_with (first
        | (go_at_call_of 8 (Value.agg #[.int .i64 a, .int .i64 l]); refine (hcp _).mono ?_; rintro e wj ⟨rfl, bj⟩; have x := x.step bj; obtain ⟨_, _, _, _, _, _⟩ := id x)
        | (go_at_call_of 8 (Value.agg #[.int .i64 b, .int .i64 m]); refine (hcq _).mono ?_; rintro e wj ⟨rfl, bj⟩; have x := x.step bj; obtain ⟨_, _, _, _, _, _⟩ := id x)
        | (go_at_call 7; refine (hen _).mono ?_; rintro e wj ⟨rfl, bj⟩; have x := x.step bj; obtain ⟨_, _, _, _, _, _⟩ := id x)
        | (go_at_call 15; refine (inside_any _ _ _ _ _).mono ?_; rintro e wj ⟨rfl, bj⟩; have x := x.step bj; obtain ⟨_, _, _, _, _, _⟩ := id x)
        | (go_at_call 6; refine (has_any _ _ _ _).mono ?_; rintro e wj ⟨rfl, bj⟩; have x := x.step bj; obtain ⟨_, _, _, _, _, _⟩ := id x)
        | (go_at_call 14; refine (hpr _ (ht.below x.2.2.2.2.1)).mono ?_; rintro e wj ⟨rfl, bj⟩; have x := x.step bj; obtain ⟨_, _, _, _, _, _⟩ := id x)
        | (go_at_call 11; refine (hpp _).mono ?_; rintro e wj ⟨rfl, bj⟩; have x := x.step bj; obtain ⟨_, _, _, _, _, _⟩ := id x))
        go_ret
        exact ⟨rfl, x.2.2.2.2.1.alloc (by have := x.2.2.2.2.2; omega) _⟩
    · rw [e0] at leaf2
      rcases leaf2 with e3 | e3 | ⟨e3, e4⟩ | ⟨e3, e4, e5⟩
      · simp at e3
      all_goals
        go_enter Tryd.func4, Tryd.ntmps4
        go_wp2_with (first
        | (go_at_call_of 8 (Value.agg #[.int .i64 a, .int .i64 l]); refine (hcp _).mono ?_; rintro e wj ⟨rfl, bj⟩; have x := x.step bj; obtain ⟨_, _, _, _, _, _⟩ := id x)
        | (go_at_call_of 8 (Value.agg #[.int .i64 b, .int .i64 m]); refine (hcq _).mono ?_; rintro e wj ⟨rfl, bj⟩; have x := x.step bj; obtain ⟨_, _, _, _, _, _⟩ := id x)
        | (go_at_call 7; refine (hen _).mono ?_; rintro e wj ⟨rfl, bj⟩; have x := x.step bj; obtain ⟨_, _, _, _, _, _⟩ := id x)
        | (go_at_call 15; refine (inside_any _ _ _ _ _).mono ?_; rintro e wj ⟨rfl, bj⟩; have x := x.step bj; obtain ⟨_, _, _, _, _, _⟩ := id x)
        | (go_at_call 6; refine (has_any _ _ _ _).mono ?_; rintro e wj ⟨rfl, bj⟩; have x := x.step bj; obtain ⟨_, _, _, _, _, _⟩ := id x)
        | (go_at_call 14; refine (hpr _ (ht.below x.2.2.2.2.1)).mono ?_; rintro e wj ⟨rfl, bj⟩; have x := x.step bj; obtain ⟨_, _, _, _, _, _⟩ := id x)
        | (go_at_call 11; refine (hpp _).mono ?_; rintro e wj ⟨rfl, bj⟩; have x := x.step bj; obtain ⟨_, _, _, _, _, _⟩ := id x))
        go_ret
        exact ⟨rfl, x.2.2.2.2.1.alloc (by have := x.2.2.2.2.2; omega) _⟩
    · clear leaf2
      go_enter Tryd.func4, Tryd.ntmps4
      go_wp2_with (first
      | (go_at_call_of 8 (Value.agg #[.int .i64 a, .int .i64 l]); refine (hcp _).mono ?_; rintro e wj ⟨rfl, bj⟩; have x := x.step bj; obtain ⟨_, _, _, _, _, _⟩ := id x)
      | (go_at_call_of 8 (Value.agg #[.int .i64 b, .int .i64 m]); refine (hcq _).mono ?_; rintro e wj ⟨rfl, bj⟩; have x := x.step bj; obtain ⟨_, _, _, _, _, _⟩ := id x)
      | (go_at_call 7; refine (hen _).mono ?_; rintro e wj ⟨rfl, bj⟩; have x := x.step bj; obtain ⟨_, _, _, _, _, _⟩ := id x)
      | (go_at_call 15; refine (inside_any _ _ _ _ _).mono ?_; rintro e wj ⟨rfl, bj⟩; have x := x.step bj; obtain ⟨_, _, _, _, _, _⟩ := id x)
      | (go_at_call 6; refine (has_any _ _ _ _).mono ?_; rintro e wj ⟨rfl, bj⟩; have x := x.step bj; obtain ⟨_, _, _, _, _, _⟩ := id x)
      | (go_at_call 14; refine (hpr _ (ht.below x.2.2.2.2.1)).mono ?_; rintro e wj ⟨rfl, bj⟩; have x := x.step bj; obtain ⟨_, _, _, _, _, _⟩ := id x)
      | (go_at_call 11; refine (hpp _).mono ?_; rintro e wj ⟨rfl, bj⟩; have x := x.step bj; obtain ⟨_, _, _, _, _, _⟩ := id x))
      go_ret
      exact ⟨rfl, x.2.2.2.2.1.alloc (by have := x.2.2.2.2.2; omega) _⟩

theorem within_walk (a l b m c : Int) (w : World) (wa : (Lit.int .i64 a).wf = true) (wl : (Lit.int .i64 l).wf = true) (wb : (Lit.int .i64 b).wf = true) (wm : (Lit.int .i64 m).wf = true) (wc : (Lit.int .i64 c).wf = true) (ht : Tab w) :
    Calls Tryd.prog 4 #[.agg #[.int .i64 a, .int .i64 l], .agg #[.int .i64 b, .int .i64 m], .int .i64 c] w fun e w' => e = .returned (.bool true) ∧ Below w.heap.size w w' := by
  by_cases hp : prefE a l = 0
  · by_cases hq : prefE b m = 0
    · exact within_both a l b m c w hp hq ht
    · exact within_pq a l b m c w hp hq
  · exact within_p a l b m c w hp
end Go.Proofs.YtkjjalaelehjeabDoor
