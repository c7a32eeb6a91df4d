/- Two numbers that lie in memory ('PairAt'), and what leaves them there. -/
import Derived.Test.YtaimahlhlfifnaaGreatDoorNum
namespace Go.Proofs.YtaimahlhlfifnaaGreatDoor
open Go.RowKit
set_option linter.unusedVariables false

/-- Two numbers lie at block b, and may be written. -/
def PairAt (w : World) (b : Nat) (x y : Int) : Prop :=
  w.cell? ⟨b, 0, none⟩ = some (.int .i64 x) ∧ w.cell? ⟨b, 1, none⟩ = some (.int .i64 y) ∧ w.frozen? ⟨b, 0, none⟩ = false ∧ w.frozen? ⟨b, 1, none⟩ = false
theorem PairAt.new (w : World) (x y : Int) (t : TypeId) : PairAt (w.alloc (.cells #[.int .i64 x, .int .i64 y] t)) w.heap.size x y := by
  refine ⟨?_, ?_, ?_, ?_⟩ <;> simp
theorem PairAt.lt {w : World} {b : Nat} {x y : Int} (h : PairAt w b x y) : b < w.heap.size := by
  rcases Nat.lt_or_ge b w.heap.size with h1 | h1
  · exact h1
  · have := h.1; simp [World.cell?, Array.getElem?_eq_none h1] at this
theorem PairAt.below {w w' : World} {b B : Nat} {x y : Int} (h : PairAt w b x y) (hB : b < B) (hb : Below B w w') : PairAt w' b x y := by
  refine ⟨?_, ?_, ?_, ?_⟩
  · rw [hb.cell (p := ⟨b, 0, none⟩) hB]; exact h.1
  · rw [hb.cell (p := ⟨b, 1, none⟩) hB]; exact h.2.1
  · rw [hb.frozen (p := ⟨b, 0, none⟩) hB]; exact h.2.2.1
  · rw [hb.frozen (p := ⟨b, 1, none⟩) hB]; exact h.2.2.2
theorem PairAt.alloc {w : World} {b : Nat} {x y : Int} (h : PairAt w b x y) (o : Obj) : PairAt (w.alloc o) b x y :=
  h.below h.lt ((Below.refl _ _).alloc (Nat.le_refl _) _)
theorem frozen_setCell (w : World) (a b : Addr) (v : Value) : (w.setCell a v).frozen? b = w.frozen? b := by simp
theorem PairAt.set0 {w : World} {b : Nat} {x y : Int} (h : PairAt w b x y) (z : Int) : PairAt (w.setCell ⟨b, 0, none⟩ (.int .i64 z)) b z y := by
  refine ⟨World.cell?_setCell_same w _ _ h.1, ?_, ?_, ?_⟩
  · rw [World.cell?_setCell_other w _ _ _ (by simp)]; exact h.2.1
  · rw [frozen_setCell]; exact h.2.2.1
  · rw [frozen_setCell]; exact h.2.2.2
theorem PairAt.set1 {w : World} {b : Nat} {x y : Int} (h : PairAt w b x y) (z : Int) : PairAt (w.setCell ⟨b, 1, none⟩ (.int .i64 z)) b x z := by
  refine ⟨?_, World.cell?_setCell_same w _ _ h.2.1, ?_, ?_⟩
  · rw [World.cell?_setCell_other w _ _ _ (by simp)]; exact h.1
  · rw [frozen_setCell]; exact h.2.2.1
  · rw [frozen_setCell]; exact h.2.2.2
theorem PairAt.other {w : World} {b : Nat} {x y : Int} (h : PairAt w b x y) {c off : Nat} (hc : c ≠ b) (v : Value) : PairAt (w.setCell ⟨c, off, none⟩ v) b x y := by
  refine ⟨?_, ?_, ?_, ?_⟩
  · rw [World.cell?_setCell_other w _ _ _ (fun h => hc (congrArg Addr.block h))]; exact h.1
  · rw [World.cell?_setCell_other w _ _ _ (fun h => hc (congrArg Addr.block h))]; exact h.2.1
  · rw [frozen_setCell]; exact h.2.2.1
  · rw [frozen_setCell]; exact h.2.2.2

theorem PairAt.keep {W w' : World} {B : Nat} {x y : Int} (hb : Below W.heap.size W w') (h : PairAt W B x y) : PairAt w' B x y := h.below h.lt hb
end Go.Proofs.YtaimahlhlfifnaaGreatDoor
