/- A key: its numbers ('Ky'), as a value ('keyV'), and in a block of its own ('KyAt'). -/
import Derived.Test.YtfgaalhaeadhmaaDoorProg
import Derived.Laws.Rows
import Derived.WalkKit
import Derived.Below
import Derived.WalkSmall
namespace Go.Proofs.YtfgaalhaeadhmaaDoor
open Go.RowKit
set_option linter.unusedVariables false

/-- A key. -/
structure Ky where
  kind : Int
  src : Int
  frm : Int
  dst : Int
  too : Int
def keyV (p : Ky) : Value := .agg #[.int .i64 p.kind, .int .i64 p.src, .int .i64 p.frm, .int .i64 p.dst, .int .i64 p.too]
def KyAt (w : World) (b : Nat) (p : Ky) : Prop := w.heap[b]? = some (.cells #[.int .i64 p.kind, .int .i64 p.src, .int .i64 p.frm, .int .i64 p.dst, .int .i64 p.too] 52 (0, 0))
theorem KyAt.lt {w : World} {b : Nat} {p : Ky} (h : KyAt w b p) : b < w.heap.size := by
  rcases Nat.lt_or_ge b w.heap.size with h1 | h1
  · exact h1
  · unfold KyAt at h; simp [Array.getElem?_eq_none h1] at h
theorem KyAt.new (w : World) (p : Ky) : KyAt (w.alloc (.cells #[.int .i64 p.kind, .int .i64 p.src, .int .i64 p.frm, .int .i64 p.dst, .int .i64 p.too] 52)) w.heap.size p := heap_alloc_new w _
theorem KyAt.drewN {w : World} {b : Nat} {p : Ky} (h : KyAt w b p) (n : Nat) : KyAt (w.drewN n) b p := h
theorem KyAt.below {w w' : World} {b B : Nat} {p : Ky} (h : KyAt w b p) (hB : b < B) (hb : Below B w w') : KyAt w' b p := by
  unfold KyAt; rw [hb.block b hB]; exact h
theorem KyAt.alloc {w : World} {b : Nat} {p : Ky} (h : KyAt w b p) (o : Obj) : KyAt (w.alloc o) b p := h.below h.lt ((Below.refl _ _).alloc (Nat.le_refl _) _)
theorem KyAt.free {w : World} {b : Nat} {p : Ky} (h : KyAt w b p) (j : Nat) : w.frozen? ⟨b, j, none⟩ = false := frozen_of_row w b j _ _ h
theorem KyAt.cells {w : World} {b : Nat} {p : Ky} (h : KyAt w b p) :
    w.cell? ⟨b, 0, none⟩ = some (.int .i64 p.kind) ∧ w.cell? ⟨b, 1, none⟩ = some (.int .i64 p.src) ∧ w.cell? ⟨b, 2, none⟩ = some (.int .i64 p.frm) ∧ w.cell? ⟨b, 3, none⟩ = some (.int .i64 p.dst) ∧ w.cell? ⟨b, 4, none⟩ = some (.int .i64 p.too) := by
  refine ⟨?_, ?_, ?_, ?_, ?_⟩ <;> (rw [cell_of_row w b _ _ _ _ h]; rfl)
end Go.Proofs.YtfgaalhaeadhmaaDoor
