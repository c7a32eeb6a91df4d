/- A flow as a value ('flV'), and in a block of its own ('FlAt'): its cells, what stores leave of it. -/
import Derived.Test.YtiigoeecklelpaaDoorTrkMath
import Derived.Test.YtiigoeecklelpaaDoorSegAt
namespace Go.Proofs.YtiigoeecklelpaaDoor
open Go.RowKit
set_option linter.unusedVariables false

def flV (p : Fl) : Value := .agg #[.int .i64 p.key.kind, .int .i64 p.key.src, .int .i64 p.key.frm, .int .i64 p.key.dst, .int .i64 p.key.too, .int .i64 p.st, .int .i64 p.unt, .int .i64 p.stp, .int .i64 p.h0, .int .i64 p.h1, .int .i64 p.w0, .int .i64 p.w1, .bool p.d0, .bool p.d1, .int .i64 p.num]
def FlAt (w : World) (b : Nat) (p : Fl) : Prop := w.heap[b]? = some (.cells #[.int .i64 p.key.kind, .int .i64 p.key.src, .int .i64 p.key.frm, .int .i64 p.key.dst, .int .i64 p.key.too, .int .i64 p.st, .int .i64 p.unt, .int .i64 p.stp, .int .i64 p.h0, .int .i64 p.h1, .int .i64 p.w0, .int .i64 p.w1, .bool p.d0, .bool p.d1, .int .i64 p.num] 30 (0, 0))
theorem FlAt.lt {w : World} {b : Nat} {p : Fl} (h : FlAt w b p) : b < w.heap.size := by
  rcases Nat.lt_or_ge b w.heap.size with h1 | h1
  · exact h1
  · unfold FlAt at h; simp [Array.getElem?_eq_none h1] at h
theorem FlAt.new (w : World) (p : Fl) : FlAt (w.alloc (.cells #[.int .i64 p.key.kind, .int .i64 p.key.src, .int .i64 p.key.frm, .int .i64 p.key.dst, .int .i64 p.key.too, .int .i64 p.st, .int .i64 p.unt, .int .i64 p.stp, .int .i64 p.h0, .int .i64 p.h1, .int .i64 p.w0, .int .i64 p.w1, .bool p.d0, .bool p.d1, .int .i64 p.num] 30)) w.heap.size p := heap_alloc_new w _
theorem FlAt.zero (w : World) : FlAt (w.alloc (.cells #[.int .i64 0, .int .i64 0, .int .i64 0, .int .i64 0, .int .i64 0, .int .i64 0, .int .i64 0, .int .i64 0, .int .i64 0, .int .i64 0, .int .i64 0, .int .i64 0, .bool false, .bool false, .int .i64 0] 30)) w.heap.size zeroF := heap_alloc_new w _
theorem FlAt.drewN {w : World} {b : Nat} {p : Fl} (h : FlAt w b p) (n : Nat) : FlAt (w.drewN n) b p := h
theorem FlAt.drew {w : World} {b : Nat} {p : Fl} (h : FlAt w b p) : FlAt w.drew b p := h
theorem FlAt.same {w w' : World} {b : Nat} {p : Fl} (h : FlAt w b p) (hs : Same w w') : FlAt w' b p := by
  obtain ⟨n, rfl⟩ := hs; exact h
theorem FlAt.below {w w' : World} {b B : Nat} {p : Fl} (h : FlAt w b p) (hB : b < B) (hb : Below B w w') : FlAt w' b p := by
  unfold FlAt; rw [hb.block b hB]; exact h
theorem FlAt.only {w w' : World} {b g : Nat} {p : Fl} (h : FlAt w b p) (hne : b ≠ g) (ho : Only g w w') : FlAt w' b p := by
  unfold FlAt; rw [ho.block b hne]; exact h
theorem FlAt.alloc {w : World} {b : Nat} {p : Fl} (h : FlAt w b p) (o : Obj) : FlAt (w.alloc o) b p := h.below h.lt ((Below.refl _ _).alloc (Nat.le_refl _) _)
theorem FlAt.free {w : World} {b : Nat} {p : Fl} (h : FlAt w b p) (j : Nat) : w.frozen? ⟨b, j, none⟩ = false := frozen_of_row w b j _ _ h
theorem FlAt.cells {w : World} {b : Nat} {p : Fl} (h : FlAt w b p) :
    w.cell? ⟨b, 0, none⟩ = some (.int .i64 p.key.kind) ∧ w.cell? ⟨b, 1, none⟩ = some (.int .i64 p.key.src) ∧ w.cell? ⟨b, 2, none⟩ = some (.int .i64 p.key.frm) ∧ w.cell? ⟨b, 3, none⟩ = some (.int .i64 p.key.dst) ∧ w.cell? ⟨b, 4, none⟩ = some (.int .i64 p.key.too) ∧ w.cell? ⟨b, 5, none⟩ = some (.int .i64 p.st) ∧ w.cell? ⟨b, 6, none⟩ = some (.int .i64 p.unt) ∧ w.cell? ⟨b, 7, none⟩ = some (.int .i64 p.stp) ∧ w.cell? ⟨b, 8, none⟩ = some (.int .i64 p.h0) ∧ w.cell? ⟨b, 9, none⟩ = some (.int .i64 p.h1) ∧ w.cell? ⟨b, 10, none⟩ = some (.int .i64 p.w0) ∧ w.cell? ⟨b, 11, none⟩ = some (.int .i64 p.w1) ∧ w.cell? ⟨b, 12, none⟩ = some (.bool p.d0) ∧ w.cell? ⟨b, 13, none⟩ = some (.bool p.d1) ∧ w.cell? ⟨b, 14, none⟩ = some (.int .i64 p.num) := by
  refine ⟨?_, ?_, ?_, ?_, ?_, ?_, ?_, ?_, ?_, ?_, ?_, ?_, ?_, ?_, ?_⟩ <;> (rw [cell_of_row w b _ _ _ _ h]; rfl)
theorem FlAt.frees {w : World} {b : Nat} {p : Fl} (h : FlAt w b p) : w.frozen? ⟨b, 0, none⟩ = false ∧ w.frozen? ⟨b, 1, none⟩ = false ∧ w.frozen? ⟨b, 2, none⟩ = false ∧ w.frozen? ⟨b, 3, none⟩ = false ∧ w.frozen? ⟨b, 4, none⟩ = false ∧ w.frozen? ⟨b, 5, none⟩ = false ∧ w.frozen? ⟨b, 6, none⟩ = false ∧ w.frozen? ⟨b, 7, none⟩ = false ∧ w.frozen? ⟨b, 8, none⟩ = false ∧ w.frozen? ⟨b, 9, none⟩ = false ∧ w.frozen? ⟨b, 10, none⟩ = false ∧ w.frozen? ⟨b, 11, none⟩ = false ∧ w.frozen? ⟨b, 12, none⟩ = false ∧ w.frozen? ⟨b, 13, none⟩ = false ∧ w.frozen? ⟨b, 14, none⟩ = false :=
  ⟨h.free 0, h.free 1, h.free 2, h.free 3, h.free 4, h.free 5, h.free 6, h.free 7, h.free 8, h.free 9, h.free 10, h.free 11, h.free 12, h.free 13, h.free 14⟩
theorem set15_0 (x0 x1 x2 x3 x4 x5 x6 x7 x8 x9 x10 x11 x12 x13 x14 y : Value) : (#[x0, x1, x2, x3, x4, x5, x6, x7, x8, x9, x10, x11, x12, x13, x14] : Array Value).setIfInBounds 0 y = #[y, x1, x2, x3, x4, x5, x6, x7, x8, x9, x10, x11, x12, x13, x14] := rfl
theorem set15_1 (x0 x1 x2 x3 x4 x5 x6 x7 x8 x9 x10 x11 x12 x13 x14 y : Value) : (#[x0, x1, x2, x3, x4, x5, x6, x7, x8, x9, x10, x11, x12, x13, x14] : Array Value).setIfInBounds 1 y = #[x0, y, x2, x3, x4, x5, x6, x7, x8, x9, x10, x11, x12, x13, x14] := rfl
theorem set15_2 (x0 x1 x2 x3 x4 x5 x6 x7 x8 x9 x10 x11 x12 x13 x14 y : Value) : (#[x0, x1, x2, x3, x4, x5, x6, x7, x8, x9, x10, x11, x12, x13, x14] : Array Value).setIfInBounds 2 y = #[x0, x1, y, x3, x4, x5, x6, x7, x8, x9, x10, x11, x12, x13, x14] := rfl
theorem set15_3 (x0 x1 x2 x3 x4 x5 x6 x7 x8 x9 x10 x11 x12 x13 x14 y : Value) : (#[x0, x1, x2, x3, x4, x5, x6, x7, x8, x9, x10, x11, x12, x13, x14] : Array Value).setIfInBounds 3 y = #[x0, x1, x2, y, x4, x5, x6, x7, x8, x9, x10, x11, x12, x13, x14] := rfl
theorem set15_4 (x0 x1 x2 x3 x4 x5 x6 x7 x8 x9 x10 x11 x12 x13 x14 y : Value) : (#[x0, x1, x2, x3, x4, x5, x6, x7, x8, x9, x10, x11, x12, x13, x14] : Array Value).setIfInBounds 4 y = #[x0, x1, x2, x3, y, x5, x6, x7, x8, x9, x10, x11, x12, x13, x14] := rfl
theorem set15_5 (x0 x1 x2 x3 x4 x5 x6 x7 x8 x9 x10 x11 x12 x13 x14 y : Value) : (#[x0, x1, x2, x3, x4, x5, x6, x7, x8, x9, x10, x11, x12, x13, x14] : Array Value).setIfInBounds 5 y = #[x0, x1, x2, x3, x4, y, x6, x7, x8, x9, x10, x11, x12, x13, x14] := rfl
theorem set15_6 (x0 x1 x2 x3 x4 x5 x6 x7 x8 x9 x10 x11 x12 x13 x14 y : Value) : (#[x0, x1, x2, x3, x4, x5, x6, x7, x8, x9, x10, x11, x12, x13, x14] : Array Value).setIfInBounds 6 y = #[x0, x1, x2, x3, x4, x5, y, x7, x8, x9, x10, x11, x12, x13, x14] := rfl
theorem set15_7 (x0 x1 x2 x3 x4 x5 x6 x7 x8 x9 x10 x11 x12 x13 x14 y : Value) : (#[x0, x1, x2, x3, x4, x5, x6, x7, x8, x9, x10, x11, x12, x13, x14] : Array Value).setIfInBounds 7 y = #[x0, x1, x2, x3, x4, x5, x6, y, x8, x9, x10, x11, x12, x13, x14] := rfl
theorem set15_8 (x0 x1 x2 x3 x4 x5 x6 x7 x8 x9 x10 x11 x12 x13 x14 y : Value) : (#[x0, x1, x2, x3, x4, x5, x6, x7, x8, x9, x10, x11, x12, x13, x14] : Array Value).setIfInBounds 8 y = #[x0, x1, x2, x3, x4, x5, x6, x7, y, x9, x10, x11, x12, x13, x14] := rfl
theorem set15_9 (x0 x1 x2 x3 x4 x5 x6 x7 x8 x9 x10 x11 x12 x13 x14 y : Value) : (#[x0, x1, x2, x3, x4, x5, x6, x7, x8, x9, x10, x11, x12, x13, x14] : Array Value).setIfInBounds 9 y = #[x0, x1, x2, x3, x4, x5, x6, x7, x8, y, x10, x11, x12, x13, x14] := rfl
theorem set15_10 (x0 x1 x2 x3 x4 x5 x6 x7 x8 x9 x10 x11 x12 x13 x14 y : Value) : (#[x0, x1, x2, x3, x4, x5, x6, x7, x8, x9, x10, x11, x12, x13, x14] : Array Value).setIfInBounds 10 y = #[x0, x1, x2, x3, x4, x5, x6, x7, x8, x9, y, x11, x12, x13, x14] := rfl
theorem set15_11 (x0 x1 x2 x3 x4 x5 x6 x7 x8 x9 x10 x11 x12 x13 x14 y : Value) : (#[x0, x1, x2, x3, x4, x5, x6, x7, x8, x9, x10, x11, x12, x13, x14] : Array Value).setIfInBounds 11 y = #[x0, x1, x2, x3, x4, x5, x6, x7, x8, x9, x10, y, x12, x13, x14] := rfl
theorem set15_12 (x0 x1 x2 x3 x4 x5 x6 x7 x8 x9 x10 x11 x12 x13 x14 y : Value) : (#[x0, x1, x2, x3, x4, x5, x6, x7, x8, x9, x10, x11, x12, x13, x14] : Array Value).setIfInBounds 12 y = #[x0, x1, x2, x3, x4, x5, x6, x7, x8, x9, x10, x11, y, x13, x14] := rfl
theorem set15_13 (x0 x1 x2 x3 x4 x5 x6 x7 x8 x9 x10 x11 x12 x13 x14 y : Value) : (#[x0, x1, x2, x3, x4, x5, x6, x7, x8, x9, x10, x11, x12, x13, x14] : Array Value).setIfInBounds 13 y = #[x0, x1, x2, x3, x4, x5, x6, x7, x8, x9, x10, x11, x12, y, x14] := rfl
theorem set15_14 (x0 x1 x2 x3 x4 x5 x6 x7 x8 x9 x10 x11 x12 x13 x14 y : Value) : (#[x0, x1, x2, x3, x4, x5, x6, x7, x8, x9, x10, x11, x12, x13, x14] : Array Value).setIfInBounds 14 y = #[x0, x1, x2, x3, x4, x5, x6, x7, x8, x9, x10, x11, x12, x13, y] := rfl
theorem FlAt.store {w : World} {b : Nat} {p : Fl} (h : FlAt w b p) (q : Fl) :
    ∃ w', (((((((((((((((w.setCell ⟨b, 0, none⟩ (.int .i64 q.key.kind)).setCell ⟨b, 1, none⟩ (.int .i64 q.key.src)).setCell ⟨b, 2, none⟩ (.int .i64 q.key.frm)).setCell ⟨b, 3, none⟩ (.int .i64 q.key.dst)).setCell ⟨b, 4, none⟩ (.int .i64 q.key.too)).setCell ⟨b, 5, none⟩ (.int .i64 q.st)).setCell ⟨b, 6, none⟩ (.int .i64 q.unt)).setCell ⟨b, 7, none⟩ (.int .i64 q.stp)).setCell ⟨b, 8, none⟩ (.int .i64 q.h0)).setCell ⟨b, 9, none⟩ (.int .i64 q.h1)).setCell ⟨b, 10, none⟩ (.int .i64 q.w0)).setCell ⟨b, 11, none⟩ (.int .i64 q.w1)).setCell ⟨b, 12, none⟩ (.bool q.d0)).setCell ⟨b, 13, none⟩ (.bool q.d1)).setCell ⟨b, 14, none⟩ (.int .i64 q.num)) = w' ∧ FlAt w' b q ∧ Only b w w' := by
  refine ⟨_, rfl, ?_, ((((((((((((((((Only.refl _ _).setCell _ _).setCell _ _).setCell _ _).setCell _ _).setCell _ _).setCell _ _).setCell _ _).setCell _ _).setCell _ _).setCell _ _).setCell _ _).setCell _ _).setCell _ _).setCell _ _).setCell _ _)⟩
  have e0 := heap_setCell_same _ b 0 _ _ (.int .i64 q.key.kind) h
  rw [set15_0] at e0
  have e1 := heap_setCell_same _ b 1 _ _ (.int .i64 q.key.src) e0
  rw [set15_1] at e1
  have e2 := heap_setCell_same _ b 2 _ _ (.int .i64 q.key.frm) e1
  rw [set15_2] at e2
  have e3 := heap_setCell_same _ b 3 _ _ (.int .i64 q.key.dst) e2
  rw [set15_3] at e3
  have e4 := heap_setCell_same _ b 4 _ _ (.int .i64 q.key.too) e3
  rw [set15_4] at e4
  have e5 := heap_setCell_same _ b 5 _ _ (.int .i64 q.st) e4
  rw [set15_5] at e5
  have e6 := heap_setCell_same _ b 6 _ _ (.int .i64 q.unt) e5
  rw [set15_6] at e6
  have e7 := heap_setCell_same _ b 7 _ _ (.int .i64 q.stp) e6
  rw [set15_7] at e7
  have e8 := heap_setCell_same _ b 8 _ _ (.int .i64 q.h0) e7
  rw [set15_8] at e8
  have e9 := heap_setCell_same _ b 9 _ _ (.int .i64 q.h1) e8
  rw [set15_9] at e9
  have e10 := heap_setCell_same _ b 10 _ _ (.int .i64 q.w0) e9
  rw [set15_10] at e10
  have e11 := heap_setCell_same _ b 11 _ _ (.int .i64 q.w1) e10
  rw [set15_11] at e11
  have e12 := heap_setCell_same _ b 12 _ _ (.bool q.d0) e11
  rw [set15_12] at e12
  have e13 := heap_setCell_same _ b 13 _ _ (.bool q.d1) e12
  rw [set15_13] at e13
  have e14 := heap_setCell_same _ b 14 _ _ (.int .i64 q.num) e13
  rw [set15_14] at e14
  exact e14
theorem FlAt.wipe {w : World} {b : Nat} {p : Fl} (h : FlAt w b p) :
    ∃ w', (((((((((((((((w.setCell ⟨b, 0, none⟩ (.int .i64 0)).setCell ⟨b, 1, none⟩ (.int .i64 0)).setCell ⟨b, 2, none⟩ (.int .i64 0)).setCell ⟨b, 3, none⟩ (.int .i64 0)).setCell ⟨b, 4, none⟩ (.int .i64 0)).setCell ⟨b, 5, none⟩ (.int .i64 0)).setCell ⟨b, 6, none⟩ (.int .i64 0)).setCell ⟨b, 7, none⟩ (.int .i64 0)).setCell ⟨b, 8, none⟩ (.int .i64 0)).setCell ⟨b, 9, none⟩ (.int .i64 0)).setCell ⟨b, 10, none⟩ (.int .i64 0)).setCell ⟨b, 11, none⟩ (.int .i64 0)).setCell ⟨b, 12, none⟩ (.bool false)).setCell ⟨b, 13, none⟩ (.bool false)).setCell ⟨b, 14, none⟩ (.int .i64 0)) = w' ∧ FlAt w' b zeroF ∧ Only b w w' := h.store zeroF
theorem FlAt.store_st {w : World} {b : Nat} {p : Fl} (h : FlAt w b p) (n : Int) : ∃ w', w.setCell ⟨b, 5, none⟩ (.int .i64 n) = w' ∧ FlAt w' b { p with st := n } ∧ Only b w w' := by
  refine ⟨_, rfl, ?_, (Only.refl _ _).setCell _ _⟩
  have e := heap_setCell_same _ b 5 _ _ (.int .i64 n) h
  rw [set15_5] at e
  exact e
theorem FlAt.store_unt {w : World} {b : Nat} {p : Fl} (h : FlAt w b p) (n : Int) : ∃ w', w.setCell ⟨b, 6, none⟩ (.int .i64 n) = w' ∧ FlAt w' b { p with unt := n } ∧ Only b w w' := by
  refine ⟨_, rfl, ?_, (Only.refl _ _).setCell _ _⟩
  have e := heap_setCell_same _ b 6 _ _ (.int .i64 n) h
  rw [set15_6] at e
  exact e
theorem FlAt.store_stp {w : World} {b : Nat} {p : Fl} (h : FlAt w b p) (n : Int) : ∃ w', w.setCell ⟨b, 7, none⟩ (.int .i64 n) = w' ∧ FlAt w' b { p with stp := n } ∧ Only b w w' := by
  refine ⟨_, rfl, ?_, (Only.refl _ _).setCell _ _⟩
  have e := heap_setCell_same _ b 7 _ _ (.int .i64 n) h
  rw [set15_7] at e
  exact e
theorem FlAt.store_h0 {w : World} {b : Nat} {p : Fl} (h : FlAt w b p) (n : Int) : ∃ w', w.setCell ⟨b, 8, none⟩ (.int .i64 n) = w' ∧ FlAt w' b { p with h0 := n } ∧ Only b w w' := by
  refine ⟨_, rfl, ?_, (Only.refl _ _).setCell _ _⟩
  have e := heap_setCell_same _ b 8 _ _ (.int .i64 n) h
  rw [set15_8] at e
  exact e
theorem FlAt.store_h1 {w : World} {b : Nat} {p : Fl} (h : FlAt w b p) (n : Int) : ∃ w', w.setCell ⟨b, 9, none⟩ (.int .i64 n) = w' ∧ FlAt w' b { p with h1 := n } ∧ Only b w w' := by
  refine ⟨_, rfl, ?_, (Only.refl _ _).setCell _ _⟩
  have e := heap_setCell_same _ b 9 _ _ (.int .i64 n) h
  rw [set15_9] at e
  exact e
theorem FlAt.store_w0 {w : World} {b : Nat} {p : Fl} (h : FlAt w b p) (n : Int) : ∃ w', w.setCell ⟨b, 10, none⟩ (.int .i64 n) = w' ∧ FlAt w' b { p with w0 := n } ∧ Only b w w' := by
  refine ⟨_, rfl, ?_, (Only.refl _ _).setCell _ _⟩
  have e := heap_setCell_same _ b 10 _ _ (.int .i64 n) h
  rw [set15_10] at e
  exact e
theorem FlAt.store_w1 {w : World} {b : Nat} {p : Fl} (h : FlAt w b p) (n : Int) : ∃ w', w.setCell ⟨b, 11, none⟩ (.int .i64 n) = w' ∧ FlAt w' b { p with w1 := n } ∧ Only b w w' := by
  refine ⟨_, rfl, ?_, (Only.refl _ _).setCell _ _⟩
  have e := heap_setCell_same _ b 11 _ _ (.int .i64 n) h
  rw [set15_11] at e
  exact e
theorem FlAt.store_d0 {w : World} {b : Nat} {p : Fl} (h : FlAt w b p) (n : Bool) : ∃ w', w.setCell ⟨b, 12, none⟩ (.bool n) = w' ∧ FlAt w' b { p with d0 := n } ∧ Only b w w' := by
  refine ⟨_, rfl, ?_, (Only.refl _ _).setCell _ _⟩
  have e := heap_setCell_same _ b 12 _ _ (.bool n) h
  rw [set15_12] at e
  exact e
theorem FlAt.store_d1 {w : World} {b : Nat} {p : Fl} (h : FlAt w b p) (n : Bool) : ∃ w', w.setCell ⟨b, 13, none⟩ (.bool n) = w' ∧ FlAt w' b { p with d1 := n } ∧ Only b w w' := by
  refine ⟨_, rfl, ?_, (Only.refl _ _).setCell _ _⟩
  have e := heap_setCell_same _ b 13 _ _ (.bool n) h
  rw [set15_13] at e
  exact e
theorem FlAt.store_num {w : World} {b : Nat} {p : Fl} (h : FlAt w b p) (n : Int) : ∃ w', w.setCell ⟨b, 14, none⟩ (.int .i64 n) = w' ∧ FlAt w' b { p with num := n } ∧ Only b w w' := by
  refine ⟨_, rfl, ?_, (Only.refl _ _).setCell _ _⟩
  have e := heap_setCell_same _ b 14 _ _ (.int .i64 n) h
  rw [set15_14] at e
  exact e
end Go.Proofs.YtiigoeecklelpaaDoor
