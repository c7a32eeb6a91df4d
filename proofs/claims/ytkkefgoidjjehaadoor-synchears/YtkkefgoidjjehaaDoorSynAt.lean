/- A note as a value ('ntV'), and in a block of its own ('NtAt'): its cells, what stores leave of it; '==' and '!=' of any two flows, and of a note and itself. -/
import Derived.Test.YtkkefgoidjjehaaDoorSynMath
import Derived.Test.YtkkefgoidjjehaaDoorMgF
namespace Go.Proofs.YtkkefgoidjjehaaDoor
open Go.RowKit
set_option linter.unusedVariables false

def ntV (p : Nt) : Value := .agg #[.int .i64 p.what, .int .i64 p.seq, .int .i64 p.fl.key.kind, .int .i64 p.fl.key.src, .int .i64 p.fl.key.frm, .int .i64 p.fl.key.dst, .int .i64 p.fl.key.too, .int .i64 p.fl.st, .int .i64 p.fl.unt, .int .i64 p.fl.stp, .int .i64 p.fl.h0, .int .i64 p.fl.h1, .int .i64 p.fl.w0, .int .i64 p.fl.w1, .bool p.fl.d0, .bool p.fl.d1, .int .i64 p.fl.num]
def NtAt (w : World) (b : Nat) (p : Nt) : Prop := w.heap[b]? = some (.cells #[.int .i64 p.what, .int .i64 p.seq, .int .i64 p.fl.key.kind, .int .i64 p.fl.key.src, .int .i64 p.fl.key.frm, .int .i64 p.fl.key.dst, .int .i64 p.fl.key.too, .int .i64 p.fl.st, .int .i64 p.fl.unt, .int .i64 p.fl.stp, .int .i64 p.fl.h0, .int .i64 p.fl.h1, .int .i64 p.fl.w0, .int .i64 p.fl.w1, .bool p.fl.d0, .bool p.fl.d1, .int .i64 p.fl.num] 29 (0, 0))
theorem NtAt.lt {w : World} {b : Nat} {p : Nt} (h : NtAt w b p) : b < w.heap.size := by
  rcases Nat.lt_or_ge b w.heap.size with h1 | h1
  · exact h1
  · unfold NtAt at h; simp [Array.getElem?_eq_none h1] at h
theorem NtAt.new (w : World) (p : Nt) : NtAt (w.alloc (.cells #[.int .i64 p.what, .int .i64 p.seq, .int .i64 p.fl.key.kind, .int .i64 p.fl.key.src, .int .i64 p.fl.key.frm, .int .i64 p.fl.key.dst, .int .i64 p.fl.key.too, .int .i64 p.fl.st, .int .i64 p.fl.unt, .int .i64 p.fl.stp, .int .i64 p.fl.h0, .int .i64 p.fl.h1, .int .i64 p.fl.w0, .int .i64 p.fl.w1, .bool p.fl.d0, .bool p.fl.d1, .int .i64 p.fl.num] 29)) w.heap.size p := heap_alloc_new w _
theorem NtAt.zero (w : World) : NtAt (w.alloc (.cells #[.int .i64 0, .int .i64 0, .int .i64 0, .int .i64 0, .int .i64 0, .int .i64 0, .int .i64 0, .int .i64 0, .int .i64 0, .int .i64 0, .int .i64 0, .int .i64 0, .int .i64 0, .int .i64 0, .bool false, .bool false, .int .i64 0] 29)) w.heap.size zeroN := heap_alloc_new w _
theorem NtAt.drewN {w : World} {b : Nat} {p : Nt} (h : NtAt w b p) (n : Nat) : NtAt (w.drewN n) b p := h
theorem NtAt.same {w w' : World} {b : Nat} {p : Nt} (h : NtAt w b p) (hs : Same w w') : NtAt w' b p := by
  obtain ⟨n, rfl⟩ := hs; exact h
theorem NtAt.below {w w' : World} {b B : Nat} {p : Nt} (h : NtAt w b p) (hB : b < B) (hb : Below B w w') : NtAt w' b p := by
  unfold NtAt; rw [hb.block b hB]; exact h
theorem NtAt.only {w w' : World} {b g : Nat} {p : Nt} (h : NtAt w b p) (hne : b ≠ g) (ho : Only g w w') : NtAt w' b p := by
  unfold NtAt; rw [ho.block b hne]; exact h
theorem NtAt.alloc {w : World} {b : Nat} {p : Nt} (h : NtAt w b p) (o : Obj) : NtAt (w.alloc o) b p := h.below h.lt ((Below.refl _ _).alloc (Nat.le_refl _) _)
theorem NtAt.free {w : World} {b : Nat} {p : Nt} (h : NtAt w b p) (j : Nat) : w.frozen? ⟨b, j, none⟩ = false := frozen_of_row w b j _ _ h
theorem NtAt.cells {w : World} {b : Nat} {p : Nt} (h : NtAt w b p) :
    w.cell? ⟨b, 0, none⟩ = some (.int .i64 p.what) ∧ w.cell? ⟨b, 1, none⟩ = some (.int .i64 p.seq) ∧ w.cell? ⟨b, 2, none⟩ = some (.int .i64 p.fl.key.kind) ∧ w.cell? ⟨b, 3, none⟩ = some (.int .i64 p.fl.key.src) ∧ w.cell? ⟨b, 4, none⟩ = some (.int .i64 p.fl.key.frm) ∧ w.cell? ⟨b, 5, none⟩ = some (.int .i64 p.fl.key.dst) ∧ w.cell? ⟨b, 6, none⟩ = some (.int .i64 p.fl.key.too) ∧ w.cell? ⟨b, 7, none⟩ = some (.int .i64 p.fl.st) ∧ w.cell? ⟨b, 8, none⟩ = some (.int .i64 p.fl.unt) ∧ w.cell? ⟨b, 9, none⟩ = some (.int .i64 p.fl.stp) ∧ w.cell? ⟨b, 10, none⟩ = some (.int .i64 p.fl.h0) ∧ w.cell? ⟨b, 11, none⟩ = some (.int .i64 p.fl.h1) ∧ w.cell? ⟨b, 12, none⟩ = some (.int .i64 p.fl.w0) ∧ w.cell? ⟨b, 13, none⟩ = some (.int .i64 p.fl.w1) ∧ w.cell? ⟨b, 14, none⟩ = some (.bool p.fl.d0) ∧ w.cell? ⟨b, 15, none⟩ = some (.bool p.fl.d1) ∧ w.cell? ⟨b, 16, none⟩ = some (.int .i64 p.fl.num) := by
  refine ⟨?_, ?_, ?_, ?_, ?_, ?_, ?_, ?_, ?_, ?_, ?_, ?_, ?_, ?_, ?_, ?_, ?_⟩ <;> (rw [cell_of_row w b _ _ _ _ h]; rfl)
theorem NtAt.frees {w : World} {b : Nat} {p : Nt} (h : NtAt w b p) : w.frozen? ⟨b, 0, none⟩ = false ∧ w.frozen? ⟨b, 1, none⟩ = false ∧ w.frozen? ⟨b, 2, none⟩ = false ∧ w.frozen? ⟨b, 3, none⟩ = false ∧ w.frozen? ⟨b, 4, none⟩ = false ∧ w.frozen? ⟨b, 5, none⟩ = false ∧ w.frozen? ⟨b, 6, none⟩ = false ∧ w.frozen? ⟨b, 7, none⟩ = false ∧ w.frozen? ⟨b, 8, none⟩ = false ∧ w.frozen? ⟨b, 9, none⟩ = false ∧ w.frozen? ⟨b, 10, none⟩ = false ∧ w.frozen? ⟨b, 11, none⟩ = false ∧ w.frozen? ⟨b, 12, none⟩ = false ∧ w.frozen? ⟨b, 13, none⟩ = false ∧ w.frozen? ⟨b, 14, none⟩ = false ∧ w.frozen? ⟨b, 15, none⟩ = false ∧ w.frozen? ⟨b, 16, none⟩ = false :=
  ⟨h.free 0, h.free 1, h.free 2, h.free 3, h.free 4, h.free 5, h.free 6, h.free 7, h.free 8, h.free 9, h.free 10, h.free 11, h.free 12, h.free 13, h.free 14, h.free 15, h.free 16⟩
theorem set17_0 (x0 x1 x2 x3 x4 x5 x6 x7 x8 x9 x10 x11 x12 x13 x14 x15 x16 y : Value) : (#[x0, x1, x2, x3, x4, x5, x6, x7, x8, x9, x10, x11, x12, x13, x14, x15, x16] : Array Value).setIfInBounds 0 y = #[y, x1, x2, x3, x4, x5, x6, x7, x8, x9, x10, x11, x12, x13, x14, x15, x16] := rfl
theorem set17_1 (x0 x1 x2 x3 x4 x5 x6 x7 x8 x9 x10 x11 x12 x13 x14 x15 x16 y : Value) : (#[x0, x1, x2, x3, x4, x5, x6, x7, x8, x9, x10, x11, x12, x13, x14, x15, x16] : Array Value).setIfInBounds 1 y = #[x0, y, x2, x3, x4, x5, x6, x7, x8, x9, x10, x11, x12, x13, x14, x15, x16] := rfl
theorem set17_2 (x0 x1 x2 x3 x4 x5 x6 x7 x8 x9 x10 x11 x12 x13 x14 x15 x16 y : Value) : (#[x0, x1, x2, x3, x4, x5, x6, x7, x8, x9, x10, x11, x12, x13, x14, x15, x16] : Array Value).setIfInBounds 2 y = #[x0, x1, y, x3, x4, x5, x6, x7, x8, x9, x10, x11, x12, x13, x14, x15, x16] := rfl
theorem set17_3 (x0 x1 x2 x3 x4 x5 x6 x7 x8 x9 x10 x11 x12 x13 x14 x15 x16 y : Value) : (#[x0, x1, x2, x3, x4, x5, x6, x7, x8, x9, x10, x11, x12, x13, x14, x15, x16] : Array Value).setIfInBounds 3 y = #[x0, x1, x2, y, x4, x5, x6, x7, x8, x9, x10, x11, x12, x13, x14, x15, x16] := rfl
theorem set17_4 (x0 x1 x2 x3 x4 x5 x6 x7 x8 x9 x10 x11 x12 x13 x14 x15 x16 y : Value) : (#[x0, x1, x2, x3, x4, x5, x6, x7, x8, x9, x10, x11, x12, x13, x14, x15, x16] : Array Value).setIfInBounds 4 y = #[x0, x1, x2, x3, y, x5, x6, x7, x8, x9, x10, x11, x12, x13, x14, x15, x16] := rfl
theorem set17_5 (x0 x1 x2 x3 x4 x5 x6 x7 x8 x9 x10 x11 x12 x13 x14 x15 x16 y : Value) : (#[x0, x1, x2, x3, x4, x5, x6, x7, x8, x9, x10, x11, x12, x13, x14, x15, x16] : Array Value).setIfInBounds 5 y = #[x0, x1, x2, x3, x4, y, x6, x7, x8, x9, x10, x11, x12, x13, x14, x15, x16] := rfl
theorem set17_6 (x0 x1 x2 x3 x4 x5 x6 x7 x8 x9 x10 x11 x12 x13 x14 x15 x16 y : Value) : (#[x0, x1, x2, x3, x4, x5, x6, x7, x8, x9, x10, x11, x12, x13, x14, x15, x16] : Array Value).setIfInBounds 6 y = #[x0, x1, x2, x3, x4, x5, y, x7, x8, x9, x10, x11, x12, x13, x14, x15, x16] := rfl
theorem set17_7 (x0 x1 x2 x3 x4 x5 x6 x7 x8 x9 x10 x11 x12 x13 x14 x15 x16 y : Value) : (#[x0, x1, x2, x3, x4, x5, x6, x7, x8, x9, x10, x11, x12, x13, x14, x15, x16] : Array Value).setIfInBounds 7 y = #[x0, x1, x2, x3, x4, x5, x6, y, x8, x9, x10, x11, x12, x13, x14, x15, x16] := rfl
theorem set17_8 (x0 x1 x2 x3 x4 x5 x6 x7 x8 x9 x10 x11 x12 x13 x14 x15 x16 y : Value) : (#[x0, x1, x2, x3, x4, x5, x6, x7, x8, x9, x10, x11, x12, x13, x14, x15, x16] : Array Value).setIfInBounds 8 y = #[x0, x1, x2, x3, x4, x5, x6, x7, y, x9, x10, x11, x12, x13, x14, x15, x16] := rfl
theorem set17_9 (x0 x1 x2 x3 x4 x5 x6 x7 x8 x9 x10 x11 x12 x13 x14 x15 x16 y : Value) : (#[x0, x1, x2, x3, x4, x5, x6, x7, x8, x9, x10, x11, x12, x13, x14, x15, x16] : Array Value).setIfInBounds 9 y = #[x0, x1, x2, x3, x4, x5, x6, x7, x8, y, x10, x11, x12, x13, x14, x15, x16] := rfl
theorem set17_10 (x0 x1 x2 x3 x4 x5 x6 x7 x8 x9 x10 x11 x12 x13 x14 x15 x16 y : Value) : (#[x0, x1, x2, x3, x4, x5, x6, x7, x8, x9, x10, x11, x12, x13, x14, x15, x16] : Array Value).setIfInBounds 10 y = #[x0, x1, x2, x3, x4, x5, x6, x7, x8, x9, y, x11, x12, x13, x14, x15, x16] := rfl
theorem set17_11 (x0 x1 x2 x3 x4 x5 x6 x7 x8 x9 x10 x11 x12 x13 x14 x15 x16 y : Value) : (#[x0, x1, x2, x3, x4, x5, x6, x7, x8, x9, x10, x11, x12, x13, x14, x15, x16] : Array Value).setIfInBounds 11 y = #[x0, x1, x2, x3, x4, x5, x6, x7, x8, x9, x10, y, x12, x13, x14, x15, x16] := rfl
theorem set17_12 (x0 x1 x2 x3 x4 x5 x6 x7 x8 x9 x10 x11 x12 x13 x14 x15 x16 y : Value) : (#[x0, x1, x2, x3, x4, x5, x6, x7, x8, x9, x10, x11, x12, x13, x14, x15, x16] : Array Value).setIfInBounds 12 y = #[x0, x1, x2, x3, x4, x5, x6, x7, x8, x9, x10, x11, y, x13, x14, x15, x16] := rfl
theorem set17_13 (x0 x1 x2 x3 x4 x5 x6 x7 x8 x9 x10 x11 x12 x13 x14 x15 x16 y : Value) : (#[x0, x1, x2, x3, x4, x5, x6, x7, x8, x9, x10, x11, x12, x13, x14, x15, x16] : Array Value).setIfInBounds 13 y = #[x0, x1, x2, x3, x4, x5, x6, x7, x8, x9, x10, x11, x12, y, x14, x15, x16] := rfl
theorem set17_14 (x0 x1 x2 x3 x4 x5 x6 x7 x8 x9 x10 x11 x12 x13 x14 x15 x16 y : Value) : (#[x0, x1, x2, x3, x4, x5, x6, x7, x8, x9, x10, x11, x12, x13, x14, x15, x16] : Array Value).setIfInBounds 14 y = #[x0, x1, x2, x3, x4, x5, x6, x7, x8, x9, x10, x11, x12, x13, y, x15, x16] := rfl
theorem set17_15 (x0 x1 x2 x3 x4 x5 x6 x7 x8 x9 x10 x11 x12 x13 x14 x15 x16 y : Value) : (#[x0, x1, x2, x3, x4, x5, x6, x7, x8, x9, x10, x11, x12, x13, x14, x15, x16] : Array Value).setIfInBounds 15 y = #[x0, x1, x2, x3, x4, x5, x6, x7, x8, x9, x10, x11, x12, x13, x14, y, x16] := rfl
theorem set17_16 (x0 x1 x2 x3 x4 x5 x6 x7 x8 x9 x10 x11 x12 x13 x14 x15 x16 y : Value) : (#[x0, x1, x2, x3, x4, x5, x6, x7, x8, x9, x10, x11, x12, x13, x14, x15, x16] : Array Value).setIfInBounds 16 y = #[x0, x1, x2, x3, x4, x5, x6, x7, x8, x9, x10, x11, x12, x13, x14, x15, y] := rfl
theorem NtAt.store {w : World} {b : Nat} {p : Nt} (h : NtAt w b p) (q : Nt) :
    ∃ w', (((((((((((((((((w.setCell ⟨b, 0, none⟩ (.int .i64 q.what)).setCell ⟨b, 1, none⟩ (.int .i64 q.seq)).setCell ⟨b, 2, none⟩ (.int .i64 q.fl.key.kind)).setCell ⟨b, 3, none⟩ (.int .i64 q.fl.key.src)).setCell ⟨b, 4, none⟩ (.int .i64 q.fl.key.frm)).setCell ⟨b, 5, none⟩ (.int .i64 q.fl.key.dst)).setCell ⟨b, 6, none⟩ (.int .i64 q.fl.key.too)).setCell ⟨b, 7, none⟩ (.int .i64 q.fl.st)).setCell ⟨b, 8, none⟩ (.int .i64 q.fl.unt)).setCell ⟨b, 9, none⟩ (.int .i64 q.fl.stp)).setCell ⟨b, 10, none⟩ (.int .i64 q.fl.h0)).setCell ⟨b, 11, none⟩ (.int .i64 q.fl.h1)).setCell ⟨b, 12, none⟩ (.int .i64 q.fl.w0)).setCell ⟨b, 13, none⟩ (.int .i64 q.fl.w1)).setCell ⟨b, 14, none⟩ (.bool q.fl.d0)).setCell ⟨b, 15, none⟩ (.bool q.fl.d1)).setCell ⟨b, 16, none⟩ (.int .i64 q.fl.num)) = w' ∧ NtAt w' b q ∧ Only b w w' := by
  refine ⟨_, rfl, ?_, ((((((((((((((((((Only.refl _ _).setCell _ _).setCell _ _).setCell _ _).setCell _ _).setCell _ _).setCell _ _).setCell _ _).setCell _ _).setCell _ _).setCell _ _).setCell _ _).setCell _ _).setCell _ _).setCell _ _).setCell _ _).setCell _ _).setCell _ _)⟩
  have e0 := heap_setCell_same _ b 0 _ _ (.int .i64 q.what) h
  rw [set17_0] at e0
  have e1 := heap_setCell_same _ b 1 _ _ (.int .i64 q.seq) e0
  rw [set17_1] at e1
  have e2 := heap_setCell_same _ b 2 _ _ (.int .i64 q.fl.key.kind) e1
  rw [set17_2] at e2
  have e3 := heap_setCell_same _ b 3 _ _ (.int .i64 q.fl.key.src) e2
  rw [set17_3] at e3
  have e4 := heap_setCell_same _ b 4 _ _ (.int .i64 q.fl.key.frm) e3
  rw [set17_4] at e4
  have e5 := heap_setCell_same _ b 5 _ _ (.int .i64 q.fl.key.dst) e4
  rw [set17_5] at e5
  have e6 := heap_setCell_same _ b 6 _ _ (.int .i64 q.fl.key.too) e5
  rw [set17_6] at e6
  have e7 := heap_setCell_same _ b 7 _ _ (.int .i64 q.fl.st) e6
  rw [set17_7] at e7
  have e8 := heap_setCell_same _ b 8 _ _ (.int .i64 q.fl.unt) e7
  rw [set17_8] at e8
  have e9 := heap_setCell_same _ b 9 _ _ (.int .i64 q.fl.stp) e8
  rw [set17_9] at e9
  have e10 := heap_setCell_same _ b 10 _ _ (.int .i64 q.fl.h0) e9
  rw [set17_10] at e10
  have e11 := heap_setCell_same _ b 11 _ _ (.int .i64 q.fl.h1) e10
  rw [set17_11] at e11
  have e12 := heap_setCell_same _ b 12 _ _ (.int .i64 q.fl.w0) e11
  rw [set17_12] at e12
  have e13 := heap_setCell_same _ b 13 _ _ (.int .i64 q.fl.w1) e12
  rw [set17_13] at e13
  have e14 := heap_setCell_same _ b 14 _ _ (.bool q.fl.d0) e13
  rw [set17_14] at e14
  have e15 := heap_setCell_same _ b 15 _ _ (.bool q.fl.d1) e14
  rw [set17_15] at e15
  have e16 := heap_setCell_same _ b 16 _ _ (.int .i64 q.fl.num) e15
  rw [set17_16] at e16
  exact e16
theorem NtAt.wipe {w : World} {b : Nat} {p : Nt} (h : NtAt w b p) :
    ∃ w', (((((((((((((((((w.setCell ⟨b, 0, none⟩ (.int .i64 0)).setCell ⟨b, 1, none⟩ (.int .i64 0)).setCell ⟨b, 2, none⟩ (.int .i64 0)).setCell ⟨b, 3, none⟩ (.int .i64 0)).setCell ⟨b, 4, none⟩ (.int .i64 0)).setCell ⟨b, 5, none⟩ (.int .i64 0)).setCell ⟨b, 6, none⟩ (.int .i64 0)).setCell ⟨b, 7, none⟩ (.int .i64 0)).setCell ⟨b, 8, none⟩ (.int .i64 0)).setCell ⟨b, 9, none⟩ (.int .i64 0)).setCell ⟨b, 10, none⟩ (.int .i64 0)).setCell ⟨b, 11, none⟩ (.int .i64 0)).setCell ⟨b, 12, none⟩ (.int .i64 0)).setCell ⟨b, 13, none⟩ (.int .i64 0)).setCell ⟨b, 14, none⟩ (.bool false)).setCell ⟨b, 15, none⟩ (.bool false)).setCell ⟨b, 16, none⟩ (.int .i64 0)) = w' ∧ NtAt w' b zeroN ∧ Only b w w' := h.store zeroN
theorem NtAt.store_seq {w : World} {b : Nat} {p : Nt} (h : NtAt w b p) (n : Int) : ∃ w', w.setCell ⟨b, 1, none⟩ (.int .i64 n) = w' ∧ NtAt w' b { p with seq := n } ∧ Only b w w' := by
  refine ⟨_, rfl, ?_, (Only.refl _ _).setCell _ _⟩
  have e := heap_setCell_same _ b 1 _ _ (.int .i64 n) h
  rw [set17_1] at e
  exact e
theorem FlAt.putKey {w : World} {b : Nat} {p : Fl} (h : FlAt w b p) (k : Ky) :
    ∃ w', (((((w.setCell ⟨b, 0, none⟩ (.int .i64 k.kind)).setCell ⟨b, 1, none⟩ (.int .i64 k.src)).setCell ⟨b, 2, none⟩ (.int .i64 k.frm)).setCell ⟨b, 3, none⟩ (.int .i64 k.dst)).setCell ⟨b, 4, none⟩ (.int .i64 k.too)) = w' ∧ FlAt w' b { p with key := k } ∧ Only b w w' := by
  refine ⟨_, rfl, ?_, ((((((Only.refl _ _).setCell _ _).setCell _ _).setCell _ _).setCell _ _).setCell _ _)⟩
  have e0 := heap_setCell_same _ b 0 _ _ (.int .i64 k.kind) h
  rw [set15_0] at e0
  have e1 := heap_setCell_same _ b 1 _ _ (.int .i64 k.src) e0
  rw [set15_1] at e1
  have e2 := heap_setCell_same _ b 2 _ _ (.int .i64 k.frm) e1
  rw [set15_2] at e2
  have e3 := heap_setCell_same _ b 3 _ _ (.int .i64 k.dst) e2
  rw [set15_3] at e3
  have e4 := heap_setCell_same _ b 4 _ _ (.int .i64 k.too) e3
  rw [set15_4] at e4
  exact e4
def eqK (p q : Ky) : Bool := p.kind == q.kind && p.src == q.src && p.frm == q.frm && p.dst == q.dst && p.too == q.too
theorem Tryd.keyEqD (n : Nat) (p q : Ky) (w : World) : (Op.equalIn (n + 2) 23 (.agg #[.int .i64 p.kind, .int .i64 p.src, .int .i64 p.frm, .int .i64 p.dst, .int .i64 p.too]) (.agg #[.int .i64 q.kind, .int .i64 q.src, .int .i64 q.frm, .int .i64 q.dst, .int .i64 q.too])).run Tryd.prog w = .ok (eqK p q) w := by
  have h := run_equalIn_agg (P := Tryd.prog) w (n + 1) 23 #[.int .i64 p.kind, .int .i64 p.src, .int .i64 p.frm, .int .i64 p.dst, .int .i64 p.too] #[.int .i64 q.kind, .int .i64 q.src, .int .i64 q.frm, .int .i64 q.dst, .int .i64 q.too] Tryd.keyFields Tryd.keyHeld
  refine h.trans ?_
  unfold eqK
  by_cases h0 : p.kind = q.kind
  rotate_left
  · simp [Program.fieldsOf, Tryd.underlying23, Op.eqFields, part, isAgg, underlying, Tryd.underlying3, Result.andThen, run_equalIn_int (P := Tryd.prog) _ n 3 .i64 .i64 _ _ Tryd.underlying3, h0]
  by_cases h1 : p.src = q.src
  rotate_left
  · simp [Program.fieldsOf, Tryd.underlying23, Op.eqFields, part, isAgg, underlying, Tryd.underlying3, Result.andThen, run_equalIn_int (P := Tryd.prog) _ n 3 .i64 .i64 _ _ Tryd.underlying3, h0, h1]
  by_cases h2 : p.frm = q.frm
  rotate_left
  · simp [Program.fieldsOf, Tryd.underlying23, Op.eqFields, part, isAgg, underlying, Tryd.underlying3, Result.andThen, run_equalIn_int (P := Tryd.prog) _ n 3 .i64 .i64 _ _ Tryd.underlying3, h0, h1, h2]
  by_cases h3 : p.dst = q.dst
  rotate_left
  · simp [Program.fieldsOf, Tryd.underlying23, Op.eqFields, part, isAgg, underlying, Tryd.underlying3, Result.andThen, run_equalIn_int (P := Tryd.prog) _ n 3 .i64 .i64 _ _ Tryd.underlying3, h0, h1, h2, h3]
  by_cases h4 : p.too = q.too
  · simp [Program.fieldsOf, Tryd.underlying23, Op.eqFields, part, isAgg, underlying, Tryd.underlying3, Result.andThen, run_equalIn_int (P := Tryd.prog) _ n 3 .i64 .i64 _ _ Tryd.underlying3, h0, h1, h2, h3, h4]
  · simp [Program.fieldsOf, Tryd.underlying23, Op.eqFields, part, isAgg, underlying, Tryd.underlying3, Result.andThen, run_equalIn_int (P := Tryd.prog) _ n 3 .i64 .i64 _ _ Tryd.underlying3, h0, h1, h2, h3, h4]
theorem Tryd.flEqD (n : Nat) (p q : Fl) (w : World) : (Op.equalIn (n + 3) 27 (.agg #[.int .i64 p.key.kind, .int .i64 p.key.src, .int .i64 p.key.frm, .int .i64 p.key.dst, .int .i64 p.key.too, .int .i64 p.st, .int .i64 p.unt, .int .i64 p.stp, .int .i64 p.h0, .int .i64 p.h1, .int .i64 p.w0, .int .i64 p.w1, .bool p.d0, .bool p.d1, .int .i64 p.num]) (.agg #[.int .i64 q.key.kind, .int .i64 q.key.src, .int .i64 q.key.frm, .int .i64 q.key.dst, .int .i64 q.key.too, .int .i64 q.st, .int .i64 q.unt, .int .i64 q.stp, .int .i64 q.h0, .int .i64 q.h1, .int .i64 q.w0, .int .i64 q.w1, .bool q.d0, .bool q.d1, .int .i64 q.num])).run Tryd.prog w = .ok (eqF p q) w := by
  have h := run_equalIn_agg (P := Tryd.prog) w (n + 2) 27 #[.int .i64 p.key.kind, .int .i64 p.key.src, .int .i64 p.key.frm, .int .i64 p.key.dst, .int .i64 p.key.too, .int .i64 p.st, .int .i64 p.unt, .int .i64 p.stp, .int .i64 p.h0, .int .i64 p.h1, .int .i64 p.w0, .int .i64 p.w1, .bool p.d0, .bool p.d1, .int .i64 p.num] #[.int .i64 q.key.kind, .int .i64 q.key.src, .int .i64 q.key.frm, .int .i64 q.key.dst, .int .i64 q.key.too, .int .i64 q.st, .int .i64 q.unt, .int .i64 q.stp, .int .i64 q.h0, .int .i64 q.h1, .int .i64 q.w0, .int .i64 q.w1, .bool q.d0, .bool q.d1, .int .i64 q.num] Tryd.flFields Tryd.flHeld
  refine h.trans ?_
  clear h
  have E : eqF p q = (eqK p.key q.key && p.st == q.st && p.unt == q.unt && p.stp == q.stp && (p.h0 == q.h0 && p.h1 == q.h1) && (p.w0 == q.w0 && p.w1 == q.w1) && (p.d0 == q.d0 && p.d1 == q.d1) && p.num == q.num) := by
    unfold eqF eqK
    rw [Bool.eq_iff_iff]; simp [and_assoc]
  rw [E]
  simp [Program.fieldsOf, Tryd.underlying27, Op.eqFields, part, isAgg, underlying, Tryd.underlying3, Tryd.underlying23, Tryd.underlying24, Tryd.underlying25, Result.andThen, run_equalIn_int (P := Tryd.prog) _ (n + 1) 3 .i64 .i64 _ _ Tryd.underlying3, Tryd.keyEqD n, Tryd.ar2EqualD n, Tryd.ab2EqualD n]
  generalize eqK p.key q.key = x1
  cases x1 <;> simp
  by_cases h2 : p.st = q.st <;> simp [h2]
  by_cases h3 : p.unt = q.unt <;> simp [h3]
  by_cases h4 : p.stp = q.stp <;> simp [h4]
  by_cases h5 : p.h0 = q.h0 <;> simp [h5]
  by_cases h6 : p.h1 = q.h1 <;> simp [h6]
  by_cases h7 : p.w0 = q.w0 <;> simp [h7]
  by_cases h8 : p.w1 = q.w1 <;> simp [h8]
  by_cases h9 : p.d0 = q.d0 <;> simp [h9]
  by_cases h10 : p.d1 = q.d1 <;> simp [h10]
  by_cases h11 : p.num = q.num <;> simp [h11]
theorem Tryd.flNeqG (p q : Fl) (w : World) : (binOp .neq 27 (.agg #[.int .i64 p.key.kind, .int .i64 p.key.src, .int .i64 p.key.frm, .int .i64 p.key.dst, .int .i64 p.key.too, .int .i64 p.st, .int .i64 p.unt, .int .i64 p.stp, .int .i64 p.h0, .int .i64 p.h1, .int .i64 p.w0, .int .i64 p.w1, .bool p.d0, .bool p.d1, .int .i64 p.num]) (.agg #[.int .i64 q.key.kind, .int .i64 q.key.src, .int .i64 q.key.frm, .int .i64 q.key.dst, .int .i64 q.key.too, .int .i64 q.st, .int .i64 q.unt, .int .i64 q.stp, .int .i64 q.h0, .int .i64 q.h1, .int .i64 q.w0, .int .i64 q.w1, .bool q.d0, .bool q.d1, .int .i64 q.num])).run Tryd.prog w = .ok (.bool (!eqF p q)) w := by
  rw [run_neq_struct, Tryd.flEqD 9997]; rfl
theorem Tryd.ntGuard : Tryd.prog.eqGuardType Tryd.prog.depth 29 = false := by kernel_rfl
theorem Tryd.ntHeld : Tryd.prog.stoodInHeld 29 = false := by kernel_rfl
theorem Tryd.ntFields : Tryd.prog.underlying 29 = some (.struct (Tryd.prog.fieldsOf 29)) := by kernel_rfl
theorem Tryd.ntEqual (p : Nt) (w : World) : (Op.equalIn 10000 29 (.agg #[.int .i64 p.what, .int .i64 p.seq, .int .i64 p.fl.key.kind, .int .i64 p.fl.key.src, .int .i64 p.fl.key.frm, .int .i64 p.fl.key.dst, .int .i64 p.fl.key.too, .int .i64 p.fl.st, .int .i64 p.fl.unt, .int .i64 p.fl.stp, .int .i64 p.fl.h0, .int .i64 p.fl.h1, .int .i64 p.fl.w0, .int .i64 p.fl.w1, .bool p.fl.d0, .bool p.fl.d1, .int .i64 p.fl.num]) (.agg #[.int .i64 p.what, .int .i64 p.seq, .int .i64 p.fl.key.kind, .int .i64 p.fl.key.src, .int .i64 p.fl.key.frm, .int .i64 p.fl.key.dst, .int .i64 p.fl.key.too, .int .i64 p.fl.st, .int .i64 p.fl.unt, .int .i64 p.fl.stp, .int .i64 p.fl.h0, .int .i64 p.fl.h1, .int .i64 p.fl.w0, .int .i64 p.fl.w1, .bool p.fl.d0, .bool p.fl.d1, .int .i64 p.fl.num])).run Tryd.prog w = .ok true w := by
  have h := run_equalIn_agg (P := Tryd.prog) w 9999 29 #[.int .i64 p.what, .int .i64 p.seq, .int .i64 p.fl.key.kind, .int .i64 p.fl.key.src, .int .i64 p.fl.key.frm, .int .i64 p.fl.key.dst, .int .i64 p.fl.key.too, .int .i64 p.fl.st, .int .i64 p.fl.unt, .int .i64 p.fl.stp, .int .i64 p.fl.h0, .int .i64 p.fl.h1, .int .i64 p.fl.w0, .int .i64 p.fl.w1, .bool p.fl.d0, .bool p.fl.d1, .int .i64 p.fl.num] #[.int .i64 p.what, .int .i64 p.seq, .int .i64 p.fl.key.kind, .int .i64 p.fl.key.src, .int .i64 p.fl.key.frm, .int .i64 p.fl.key.dst, .int .i64 p.fl.key.too, .int .i64 p.fl.st, .int .i64 p.fl.unt, .int .i64 p.fl.stp, .int .i64 p.fl.h0, .int .i64 p.fl.h1, .int .i64 p.fl.w0, .int .i64 p.fl.w1, .bool p.fl.d0, .bool p.fl.d1, .int .i64 p.fl.num] Tryd.ntFields Tryd.ntHeld
  refine h.trans ?_
  simp [Program.fieldsOf, Tryd.underlying29, Op.eqFields, part, isAgg, underlying, Tryd.underlying3, Tryd.underlying27, Result.andThen, run_equalIn_int (P := Tryd.prog) _ 9998 3 .i64 .i64 _ _ Tryd.underlying3, Tryd.flEqD 9996, eqF_self]
theorem Tryd.ntNeq (p : Nt) (w : World) : (binOp .neq 29 (.agg #[.int .i64 p.what, .int .i64 p.seq, .int .i64 p.fl.key.kind, .int .i64 p.fl.key.src, .int .i64 p.fl.key.frm, .int .i64 p.fl.key.dst, .int .i64 p.fl.key.too, .int .i64 p.fl.st, .int .i64 p.fl.unt, .int .i64 p.fl.stp, .int .i64 p.fl.h0, .int .i64 p.fl.h1, .int .i64 p.fl.w0, .int .i64 p.fl.w1, .bool p.fl.d0, .bool p.fl.d1, .int .i64 p.fl.num]) (.agg #[.int .i64 p.what, .int .i64 p.seq, .int .i64 p.fl.key.kind, .int .i64 p.fl.key.src, .int .i64 p.fl.key.frm, .int .i64 p.fl.key.dst, .int .i64 p.fl.key.too, .int .i64 p.fl.st, .int .i64 p.fl.unt, .int .i64 p.fl.stp, .int .i64 p.fl.h0, .int .i64 p.fl.h1, .int .i64 p.fl.w0, .int .i64 p.fl.w1, .bool p.fl.d0, .bool p.fl.d1, .int .i64 p.fl.num])).run Tryd.prog w = .ok (.bool false) w := by
  rw [run_neq_struct, Tryd.ntEqual]; rfl
end Go.Proofs.YtkkefgoidjjehaaDoor
