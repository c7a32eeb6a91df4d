/- Arbiters and voters of package elect in memory ('ArAt', 'VtAt'); what the functions of package elect return, and what becomes of their blocks. -/
import Derived.Test.YtempphlbgeogiaaDoorElMath
import Derived.Test.YtempphlbgeogiaaDoorTurnT
import Derived.WalkKit
import Derived.Deep.QuietTactic
import Derived.BigQuiet
import Derived.Lib.MinMax
import Derived.Deep.RegionHeld3
import Derived.Deep.DeepMust
import Derived.Deep.DeepCutAuto
namespace Go.Proofs.YtempphlbgeogiaaDoor
open Go.RowKit
set_option linter.unusedVariables false

def elV (e : Int) : Value := if e = 0 then .nilIface else .iface 55 (.int .i64 e)
def ArAt (w : World) (b : Nat) (a : Ar) : Prop := w.heap[b]? = some (.cells #[.int .i64 a.now, .int .i64 a.lease, .int .i64 a.own, .int .i64 a.unt] 59 (0, 0))
theorem ArAt.lt {w : World} {b : Nat} {a : Ar} (h : ArAt w b a) : b < w.heap.size := (Array.getElem?_eq_some_iff.1 h).1
theorem ArAt.blk {w w' : World} {b : Nat} {a : Ar} (h : ArAt w b a) (hb : w'.heap[b]? = w.heap[b]?) : ArAt w' b a := hb.trans h
theorem ArAt.below {w w' : World} {b : Nat} {a : Ar} (h : ArAt w b a) (hb : Below w.heap.size w w') : ArAt w' b a := h.blk (hb.block _ h.lt)
theorem ArAt.turn {F : Nat → Prop} {w w' : World} {b : Nat} {a : Ar} (h : ArAt w b a) (t : Turn F w w') (hF : ¬ F b) : ArAt w' b a := h.blk (t.block _ h.lt hF)
theorem ar_cells {w : World} {b : Nat} {x y z u : Value} {T : TypeId} (h : w.heap[b]? = some (.cells #[x, y, z, u] T (0, 0))) : w.cell? ⟨b, 0, none⟩ = some x ∧ w.cell? ⟨b, 1, none⟩ = some y ∧ w.cell? ⟨b, 2, none⟩ = some z ∧ w.cell? ⟨b, 3, none⟩ = some u := by
  refine ⟨?_, ?_, ?_, ?_⟩ <;> (rw [cell_of_row w b _ _ _ _ h]; rfl)
theorem ar_frees {w : World} {b : Nat} {x y z u : Value} {T : TypeId} (h : w.heap[b]? = some (.cells #[x, y, z, u] T (0, 0))) : w.frozen? ⟨b, 0, none⟩ = false ∧ w.frozen? ⟨b, 1, none⟩ = false ∧ w.frozen? ⟨b, 2, none⟩ = false ∧ w.frozen? ⟨b, 3, none⟩ = false :=
  ⟨frozen_of_row w b 0 _ _ h, frozen_of_row w b 1 _ _ h, frozen_of_row w b 2 _ _ h, frozen_of_row w b 3 _ _ h⟩
theorem one_cell {w : World} {b : Nat} {x : Value} {T : TypeId} (h : w.heap[b]? = some (.cells #[x] T (0, 0))) : w.cell? ⟨b, 0, none⟩ = some x ∧ w.frozen? ⟨b, 0, none⟩ = false :=
  ⟨by rw [cell_of_row w b _ _ _ _ h]; rfl, frozen_of_row w b 0 _ _ h⟩
def VtAt (w : World) (b : Nat) (v : Vt) : Prop := w.heap[b]? = some (.cells #[.int .i64 v.now, .int .i64 v.node, .int .i64 v.prio, .int .i64 v.drift, .int .i64 v.unt, .int .i64 v.oth, .int .i64 v.cnt] 62 (0, 0))
theorem VtAt.lt {w : World} {b : Nat} {v : Vt} (h : VtAt w b v) : b < w.heap.size := (Array.getElem?_eq_some_iff.1 h).1
theorem VtAt.blk {w w' : World} {b : Nat} {v : Vt} (h : VtAt w b v) (hb : w'.heap[b]? = w.heap[b]?) : VtAt w' b v := hb.trans h
theorem VtAt.below {w w' : World} {b : Nat} {v : Vt} (h : VtAt w b v) (hb : Below w.heap.size w w') : VtAt w' b v := h.blk (hb.block _ h.lt)
theorem VtAt.turn {F : Nat → Prop} {w w' : World} {b : Nat} {v : Vt} (h : VtAt w b v) (t : Turn F w w') (hF : ¬ F b) : VtAt w' b v := h.blk (t.block _ h.lt hF)
theorem vt_cells {w : World} {b : Nat} {x0 x1 x2 x3 x4 x5 x6 : Value} {T : TypeId} (h : w.heap[b]? = some (.cells #[x0, x1, x2, x3, x4, x5, x6] T (0, 0))) : w.cell? ⟨b, 0, none⟩ = some x0 ∧ w.cell? ⟨b, 1, none⟩ = some x1 ∧ w.cell? ⟨b, 2, none⟩ = some x2 ∧ w.cell? ⟨b, 3, none⟩ = some x3 ∧ w.cell? ⟨b, 4, none⟩ = some x4 ∧ w.cell? ⟨b, 5, none⟩ = some x5 ∧ w.cell? ⟨b, 6, none⟩ = some x6 := by
  refine ⟨?_, ?_, ?_, ?_, ?_, ?_, ?_⟩ <;> (rw [cell_of_row w b _ _ _ _ h]; rfl)
theorem vt_frees {w : World} {b : Nat} {x0 x1 x2 x3 x4 x5 x6 : Value} {T : TypeId} (h : w.heap[b]? = some (.cells #[x0, x1, x2, x3, x4, x5, x6] T (0, 0))) : w.frozen? ⟨b, 0, none⟩ = false ∧ w.frozen? ⟨b, 2, none⟩ = false ∧ w.frozen? ⟨b, 4, none⟩ = false ∧ w.frozen? ⟨b, 5, none⟩ = false ∧ w.frozen? ⟨b, 6, none⟩ = false :=
  ⟨frozen_of_row w b 0 _ _ h, frozen_of_row w b 2 _ _ h, frozen_of_row w b 4 _ _ h, frozen_of_row w b 5 _ _ h, frozen_of_row w b 6 _ _ h⟩

/-! ### the clock -/
set_option maxHeartbeats 2000000 in
theorem mv_bad (b : Nat) (t now z : Int) (w : World) (hz : tmE t now = z) (h0 : ¬ z = 0) (hc : w.cell? ⟨b, 0, none⟩ = some (.int .i64 t)) :
    Calls Tryd.prog 27 #[.pointer (some ⟨b, 0, none⟩), .int .i64 now] w fun e w' => e = .returned (.iface 55 (.int .i64 z)) ∧ w' = w := by
  unfold tmE at hz
  by_cases h1 : now < 0
  · rw [if_pos (.inl h1)] at hz
    subst hz
    go_enter Tryd.func27, Tryd.ntmps27
    go_wp2_with fail
    go_ret
    exact ⟨rfl, rfl⟩
  · by_cases h2 : 1000000 < now
    · rw [if_pos (.inr h2)] at hz
      subst hz
      go_enter Tryd.func27, Tryd.ntmps27
      go_wp2_with fail
      go_ret
      exact ⟨rfl, rfl⟩
    · rw [if_neg (by omega)] at hz
      by_cases h3 : now < t
      · rw [if_pos h3] at hz
        subst hz
        go_enter Tryd.func27, Tryd.ntmps27
        go_wp2_with fail
        go_ret
        exact ⟨rfl, rfl⟩
      · rw [if_neg h3] at hz
        exact absurd hz.symm h0
set_option maxHeartbeats 2000000 in
theorem mv_ok (b : Nat) (t now : Int) (w : World) (hz : tmE t now = 0) (hc : w.cell? ⟨b, 0, none⟩ = some (.int .i64 t)) (hf : w.frozen? ⟨b, 0, none⟩ = false) :
    Calls Tryd.prog 27 #[.pointer (some ⟨b, 0, none⟩), .int .i64 now] w fun e w' => e = .returned .nilIface ∧ w' = w.setCell ⟨b, 0, none⟩ (.int .i64 now) := by
  obtain ⟨h1, h2, h3⟩ := tmE_ok hz
  have i1 : ¬ now < 0 := by omega
  have i2 : ¬ 1000000 < now := by omega
  have i3 : ¬ now < t := by omega
  clear hz h1 h2 h3
  go_enter Tryd.func27, Tryd.ntmps27
  go_wp2_with fail
  go_ret
  exact ⟨rfl, rfl⟩
theorem isNode_any (n : Int) (w : World) : Calls Tryd.prog 22 #[.int .i64 n] w fun e w' => e = .returned (.bool (decide (n = 0 ∨ n = 1))) ∧ w' = w := by
  by_cases h0 : n = 0
  · subst h0
    go_enter Tryd.func22, Tryd.ntmps22
    go_wp2_with fail
    go_ret
    exact ⟨rfl, rfl⟩
  · have h0' : (n == 0) = false := by simpa using h0
    by_cases h1 : n = 1
    · subst h1
      go_enter Tryd.func22, Tryd.ntmps22
      go_wp2_with fail
      go_ret
      exact ⟨rfl, rfl⟩
    · have h1' : (n == 1) = false := by simpa using h1
      have e : decide (n = 0 ∨ n = 1) = false := decide_eq_false (by omega)
      rw [e]
      clear h0 h1 e
      go_enter Tryd.func22, Tryd.ntmps22
      go_wp2_with fail
      go_ret
      exact ⟨rfl, rfl⟩
theorem isPrio_any (n : Int) (w : World) : Calls Tryd.prog 23 #[.int .i64 n] w fun e w' => e = .returned (.bool (prB n)) ∧ w' = w := by
  by_cases h0 : 0 ≤ n
  · by_cases h1 : n ≤ 255
    · have e : prB n = true := decide_eq_true ⟨h0, h1⟩
      rw [e]
      clear e
      go_enter Tryd.func23, Tryd.ntmps23
      go_wp2_with fail
      go_ret
      exact ⟨rfl, rfl⟩
    · have e : prB n = false := decide_eq_false (by omega)
      rw [e]
      clear e
      go_enter Tryd.func23, Tryd.ntmps23
      go_wp2_with fail
      go_ret
      exact ⟨rfl, rfl⟩
  · have e : prB n = false := decide_eq_false (by omega)
    rw [e]
    clear e
    go_enter Tryd.func23, Tryd.ntmps23
    go_wp2_with fail
    go_ret
    exact ⟨rfl, rfl⟩

/-! ### the arbiter -/
theorem newA_bad (l : Int) (w : World) (h : l < 1 ∨ 1000000 < l) :
    Calls Tryd.prog 5 #[.int .i64 l] w fun e w' => e = .returned (.tuple #[.pointer none, .iface 55 (.int .i64 1)]) ∧ w' = w := by
  rcases (by omega : l < 1 ∨ (¬ l < 1 ∧ 1000000 < l)) with h1 | ⟨h1, h2⟩
  all_goals
    clear h
    go_enter Tryd.func5, Tryd.ntmps5
    go_wp2_with fail
    go_ret2
    exact ⟨rfl, rfl⟩
theorem newA_ok (l : Int) (w : World) (h1 : ¬ l < 1) (h2 : ¬ 1000000 < l) :
    Calls Tryd.prog 5 #[.int .i64 l] w fun e w' => e = .returned (.tuple #[.pointer (some ⟨w.heap.size, 0, none⟩), .nilIface]) ∧ w' = w.alloc (.cells #[.int .i64 0, .int .i64 l, .int .i64 0, .int .i64 0] 59) := by
  go_enter Tryd.func5, Tryd.ntmps5
  go_wp2_with fail
  go_ret2
  exact ⟨rfl, rfl⟩
theorem newA_at (l : Int) (w : World) : ArAt (w.alloc (.cells #[.int .i64 0, .int .i64 l, .int .i64 0, .int .i64 0] 59)) w.heap.size { now := 0, lease := l, own := 0, unt := 0 } := heap_alloc_new _ _
end Go.Proofs.YtempphlbgeogiaaDoor
