/- What plain.Told and portsame.Error return of an error that is nil or an Errno, where the package variable errors.errorType holds the handle of the type error. -/
import Derived.Test.YtfgaalhaeadhmaaDoorAs
import Derived.Below
namespace Go.Proofs.YtfgaalhaeadhmaaDoor
open Go.RowKit
set_option linter.unusedVariables false

theorem ErrLaid.lt {w : World} (h : ErrLaid w) : 0 < w.heap.size := by
  rcases Nat.lt_or_ge 0 w.heap.size with h1 | h1
  · exact h1
  · unfold ErrLaid at h; simp [World.cell?, Array.getElem?_eq_none h1] at h
theorem ErrLaid.below {w w' : World} (h : ErrLaid w) (hb : Below w.heap.size w w') : ErrLaid w' := by
  have e := hb.cell (p := ⟨0, 0, none⟩) h.lt
  unfold ErrLaid at *
  rw [e]; exact h

/-- An error that is nil (0), or the Errno k. -/
def ErrVal (v : Value) (k : Int) : Prop := (v = .nilIface ∧ k = 0) ∨ v = .iface 73 (.int .i64 k)

theorem told_nil (w : World) :
    Calls Tryd.prog 27 #[.nilIface] w fun e w' => e = .returned (.int .i64 0) ∧ w' = w := by
  go_enter Tryd.func27, Tryd.ntmps27
  go_wp2
  go_ret
  exact ⟨rfl, rfl⟩

set_option maxHeartbeats 1000000 in
theorem told_errno (k : Int) (w : World) (hg : ErrLaid w) :
    Calls Tryd.prog 27 #[.iface 73 (.int .i64 k)] w fun e w' => e = .returned (.int .i64 k) ∧ Below w.heap.size w w' := by
  have b1 : Below w.heap.size w (w.alloc (.cells #[.int .i64 0] 73)) := (Below.refl _ _).alloc (Nat.le_refl _) _
  have hg1 := hg.below b1
  go_enter Tryd.func27, Tryd.ntmps27
  go_wp2_with (go_at_call 46; refine (as_errno k ⟨w.heap.size, 0, none⟩ (.int .i64 0) _ hg1 (by simp) (by simp)).mono ?_; rintro e w' ⟨rfl, rfl⟩)
  go_ret
  refine ⟨rfl, ?_⟩
  exact (((((Below.refl _ _).alloc (Nat.le_refl _) _).alloc (by simp) _).alloc (by simp; omega) _).alloc (by simp; omega) _).alloc (by simp; omega) _

theorem told_val {v : Value} {k : Int} (h : ErrVal v k) (w : World) (hg : ErrLaid w) :
    Calls Tryd.prog 27 #[v] w fun e w' => e = .returned (.int .i64 k) ∧ Below w.heap.size w w' := by
  rcases h with ⟨rfl, rfl⟩ | rfl
  · refine (told_nil w).mono ?_
    rintro e w' ⟨rfl, rfl⟩
    exact ⟨rfl, Below.refl _ _⟩
  · exact told_errno k w hg

theorem error_val {v : Value} {k : Int} (h : ErrVal v k) (n : Int) (w : World) (hg : ErrLaid w) :
    Calls Tryd.prog 10 #[v, .int .i64 n] w fun e w' => e = .returned (.bool (k == n)) ∧ Below w.heap.size w w' := by
  go_enter Tryd.func10, Tryd.ntmps10
  go_wp2_with (go_at_call 27; refine (told_val h w hg).mono ?_; rintro e w' ⟨rfl, hb⟩)
  go_ret
  exact ⟨rfl, hb⟩
end Go.Proofs.YtfgaalhaeadhmaaDoor
