/- Step of package track: the key as each side has it, in an array of the call's own. -/
import Derived.Test.YtiigoeecklelpaaDoorTrkZe
namespace Go.Proofs.YtiigoeecklelpaaDoor
open Go.RowKit
set_option linter.unusedVariables false

theorem set10_0 (x0 x1 x2 x3 x4 x5 x6 x7 x8 x9 y : Value) : (#[x0, x1, x2, x3, x4, x5, x6, x7, x8, x9] : Array Value).setIfInBounds 0 y = #[y, x1, x2, x3, x4, x5, x6, x7, x8, x9] := rfl
theorem set10_1 (x0 x1 x2 x3 x4 x5 x6 x7 x8 x9 y : Value) : (#[x0, x1, x2, x3, x4, x5, x6, x7, x8, x9] : Array Value).setIfInBounds 1 y = #[x0, y, x2, x3, x4, x5, x6, x7, x8, x9] := rfl
theorem set10_2 (x0 x1 x2 x3 x4 x5 x6 x7 x8 x9 y : Value) : (#[x0, x1, x2, x3, x4, x5, x6, x7, x8, x9] : Array Value).setIfInBounds 2 y = #[x0, x1, y, x3, x4, x5, x6, x7, x8, x9] := rfl
theorem set10_3 (x0 x1 x2 x3 x4 x5 x6 x7 x8 x9 y : Value) : (#[x0, x1, x2, x3, x4, x5, x6, x7, x8, x9] : Array Value).setIfInBounds 3 y = #[x0, x1, x2, y, x4, x5, x6, x7, x8, x9] := rfl
theorem set10_4 (x0 x1 x2 x3 x4 x5 x6 x7 x8 x9 y : Value) : (#[x0, x1, x2, x3, x4, x5, x6, x7, x8, x9] : Array Value).setIfInBounds 4 y = #[x0, x1, x2, x3, y, x5, x6, x7, x8, x9] := rfl
theorem set10_5 (x0 x1 x2 x3 x4 x5 x6 x7 x8 x9 y : Value) : (#[x0, x1, x2, x3, x4, x5, x6, x7, x8, x9] : Array Value).setIfInBounds 5 y = #[x0, x1, x2, x3, x4, y, x6, x7, x8, x9] := rfl
theorem set10_6 (x0 x1 x2 x3 x4 x5 x6 x7 x8 x9 y : Value) : (#[x0, x1, x2, x3, x4, x5, x6, x7, x8, x9] : Array Value).setIfInBounds 6 y = #[x0, x1, x2, x3, x4, x5, y, x7, x8, x9] := rfl
theorem set10_7 (x0 x1 x2 x3 x4 x5 x6 x7 x8 x9 y : Value) : (#[x0, x1, x2, x3, x4, x5, x6, x7, x8, x9] : Array Value).setIfInBounds 7 y = #[x0, x1, x2, x3, x4, x5, x6, y, x8, x9] := rfl
theorem set10_8 (x0 x1 x2 x3 x4 x5 x6 x7 x8 x9 y : Value) : (#[x0, x1, x2, x3, x4, x5, x6, x7, x8, x9] : Array Value).setIfInBounds 8 y = #[x0, x1, x2, x3, x4, x5, x6, x7, y, x9] := rfl
theorem set10_9 (x0 x1 x2 x3 x4 x5 x6 x7 x8 x9 y : Value) : (#[x0, x1, x2, x3, x4, x5, x6, x7, x8, x9] : Array Value).setIfInBounds 9 y = #[x0, x1, x2, x3, x4, x5, x6, x7, x8, y] := rfl
def zeroKs : Obj := .cells #[.int .i64 0, .int .i64 0, .int .i64 0, .int .i64 0, .int .i64 0, .int .i64 0, .int .i64 0, .int .i64 0, .int .i64 0, .int .i64 0] 65
theorem keys_store {w : World} {B : Nat} (h : w.heap[B]? = some (.cells #[.int .i64 0, .int .i64 0, .int .i64 0, .int .i64 0, .int .i64 0, .int .i64 0, .int .i64 0, .int .i64 0, .int .i64 0, .int .i64 0] 65 (0, 0))) (x0 x1 x2 x3 x4 x5 x6 x7 x8 x9 : Value) :
    ((((((((((w.setCell ⟨B, 0, none⟩ x0).setCell ⟨B, 1, none⟩ x1).setCell ⟨B, 2, none⟩ x2).setCell ⟨B, 3, none⟩ x3).setCell ⟨B, 4, none⟩ x4).setCell ⟨B, 5, none⟩ x5).setCell ⟨B, 6, none⟩ x6).setCell ⟨B, 7, none⟩ x7).setCell ⟨B, 8, none⟩ x8).setCell ⟨B, 9, none⟩ x9).heap[B]? = some (.cells #[x0, x1, x2, x3, x4, x5, x6, x7, x8, x9] 65 (0, 0)) ∧ Only B w ((((((((((w.setCell ⟨B, 0, none⟩ x0).setCell ⟨B, 1, none⟩ x1).setCell ⟨B, 2, none⟩ x2).setCell ⟨B, 3, none⟩ x3).setCell ⟨B, 4, none⟩ x4).setCell ⟨B, 5, none⟩ x5).setCell ⟨B, 6, none⟩ x6).setCell ⟨B, 7, none⟩ x7).setCell ⟨B, 8, none⟩ x8).setCell ⟨B, 9, none⟩ x9) := by
  refine ⟨?_, (((((((((((Only.refl _ _).setCell _ _).setCell _ _).setCell _ _).setCell _ _).setCell _ _).setCell _ _).setCell _ _).setCell _ _).setCell _ _).setCell _ _)⟩
  have e0 := heap_setCell_same _ B 0 _ _ x0 h
  rw [set10_0] at e0
  have e1 := heap_setCell_same _ B 1 _ _ x1 e0
  rw [set10_1] at e1
  have e2 := heap_setCell_same _ B 2 _ _ x2 e1
  rw [set10_2] at e2
  have e3 := heap_setCell_same _ B 3 _ _ x3 e2
  rw [set10_3] at e3
  have e4 := heap_setCell_same _ B 4 _ _ x4 e3
  rw [set10_4] at e4
  have e5 := heap_setCell_same _ B 5 _ _ x5 e4
  rw [set10_5] at e5
  have e6 := heap_setCell_same _ B 6 _ _ x6 e5
  rw [set10_6] at e6
  have e7 := heap_setCell_same _ B 7 _ _ x7 e6
  rw [set10_7] at e7
  have e8 := heap_setCell_same _ B 8 _ _ x8 e7
  rw [set10_8] at e8
  have e9 := heap_setCell_same _ B 9 _ _ x9 e8
  rw [set10_9] at e9
  exact e9
/-- A flow, a segment, the answer, and both keys in an array. -/
structure Fk (w : World) (f : Fl) (s : Sg) (bv : Value) (P : Nat) (W : World) : Prop where
  st : Fsz w f s bv zeroF W
  ks : W.heap[P]? = some (.cells #[.int .i64 f.key.kind, .int .i64 f.key.src, .int .i64 f.key.frm, .int .i64 f.key.dst, .int .i64 f.key.too, .int .i64 f.key.kind, .int .i64 f.key.dst, .int .i64 f.key.too, .int .i64 f.key.src, .int .i64 f.key.frm] 65 (0, 0))
theorem Fk.fresh {w W : World} {f : Fl} {s : Sg} {bv : Value} (h : Fsz w f s bv zeroF W) : Fk w f s bv W.heap.size (W.alloc (.cells #[.int .i64 f.key.kind, .int .i64 f.key.src, .int .i64 f.key.frm, .int .i64 f.key.dst, .int .i64 f.key.too, .int .i64 f.key.kind, .int .i64 f.key.dst, .int .i64 f.key.too, .int .i64 f.key.src, .int .i64 f.key.frm] 65)) :=
  ⟨h.step ((Below.refl _ _).alloc (Nat.le_refl _) _), heap_alloc_new W _⟩
theorem Fk.put {w W : World} {f : Fl} {s : Sg} {bv : Value} {B : Nat} (h : Fsz w f s bv zeroF W) (hB : w.heap.size + 2 < B) (hz : W.heap[B]? = some (.cells #[.int .i64 0, .int .i64 0, .int .i64 0, .int .i64 0, .int .i64 0, .int .i64 0, .int .i64 0, .int .i64 0, .int .i64 0, .int .i64 0] 65 (0, 0))) :
    Fk w f s bv B ((((((((((W.setCell ⟨B, 0, none⟩ (.int .i64 f.key.kind)).setCell ⟨B, 1, none⟩ (.int .i64 f.key.src)).setCell ⟨B, 2, none⟩ (.int .i64 f.key.frm)).setCell ⟨B, 3, none⟩ (.int .i64 f.key.dst)).setCell ⟨B, 4, none⟩ (.int .i64 f.key.too)).setCell ⟨B, 5, none⟩ (.int .i64 f.key.kind)).setCell ⟨B, 6, none⟩ (.int .i64 f.key.dst)).setCell ⟨B, 7, none⟩ (.int .i64 f.key.too)).setCell ⟨B, 8, none⟩ (.int .i64 f.key.src)).setCell ⟨B, 9, none⟩ (.int .i64 f.key.frm)) := by
  obtain ⟨h1, h2⟩ := keys_store hz (.int .i64 f.key.kind) (.int .i64 f.key.src) (.int .i64 f.key.frm) (.int .i64 f.key.dst) (.int .i64 f.key.too) (.int .i64 f.key.kind) (.int .i64 f.key.dst) (.int .i64 f.key.too) (.int .i64 f.key.src) (.int .i64 f.key.frm)
  exact ⟨⟨h.fl.only (by omega) h2, h.sg.only (by omega) h2, h.rs.only (by omega) h2, h2.below (by omega) h.bel⟩, h1⟩
theorem Fk.step {w W W' : World} {f : Fl} {s : Sg} {bv : Value} {P : Nat} (h : Fk w f s bv P W) (hb : Below W.heap.size W W') : Fk w f s bv P W' :=
  ⟨h.st.step hb, (hb.block P (Array.getElem?_eq_some_iff.1 h.ks).1).trans h.ks⟩
theorem Fk.cells {w W : World} {f : Fl} {s : Sg} {bv : Value} {P : Nat} (h : Fk w f s bv P W) : W.cell? ⟨P, 0, none⟩ = some (.int .i64 f.key.kind) ∧ W.cell? ⟨P, 1, none⟩ = some (.int .i64 f.key.src) ∧ W.cell? ⟨P, 2, none⟩ = some (.int .i64 f.key.frm) ∧ W.cell? ⟨P, 3, none⟩ = some (.int .i64 f.key.dst) ∧ W.cell? ⟨P, 4, none⟩ = some (.int .i64 f.key.too) ∧ W.cell? ⟨P, 5, none⟩ = some (.int .i64 f.key.kind) ∧ W.cell? ⟨P, 6, none⟩ = some (.int .i64 f.key.dst) ∧ W.cell? ⟨P, 7, none⟩ = some (.int .i64 f.key.too) ∧ W.cell? ⟨P, 8, none⟩ = some (.int .i64 f.key.src) ∧ W.cell? ⟨P, 9, none⟩ = some (.int .i64 f.key.frm) := by
  refine ⟨?_, ?_, ?_, ?_, ?_, ?_, ?_, ?_, ?_, ?_⟩ <;> (rw [cell_of_row W P _ _ _ _ h.ks]; rfl)
theorem keysZ_cells {W : World} {B : Nat} (h : W.heap[B]? = some (.cells #[.int .i64 0, .int .i64 0, .int .i64 0, .int .i64 0, .int .i64 0, .int .i64 0, .int .i64 0, .int .i64 0, .int .i64 0, .int .i64 0] 65 (0, 0))) : W.cell? ⟨B, 0, none⟩ = some (.int .i64 0) ∧ W.cell? ⟨B, 1, none⟩ = some (.int .i64 0) ∧ W.cell? ⟨B, 2, none⟩ = some (.int .i64 0) ∧ W.cell? ⟨B, 3, none⟩ = some (.int .i64 0) ∧ W.cell? ⟨B, 4, none⟩ = some (.int .i64 0) ∧ W.cell? ⟨B, 5, none⟩ = some (.int .i64 0) ∧ W.cell? ⟨B, 6, none⟩ = some (.int .i64 0) ∧ W.cell? ⟨B, 7, none⟩ = some (.int .i64 0) ∧ W.cell? ⟨B, 8, none⟩ = some (.int .i64 0) ∧ W.cell? ⟨B, 9, none⟩ = some (.int .i64 0) := by
  refine ⟨?_, ?_, ?_, ?_, ?_, ?_, ?_, ?_, ?_, ?_⟩ <;> (rw [cell_of_row W B _ _ _ _ h]; rfl)
theorem keysZ_frees {W : World} {B : Nat} (h : W.heap[B]? = some (.cells #[.int .i64 0, .int .i64 0, .int .i64 0, .int .i64 0, .int .i64 0, .int .i64 0, .int .i64 0, .int .i64 0, .int .i64 0, .int .i64 0] 65 (0, 0))) : W.frozen? ⟨B, 0, none⟩ = false ∧ W.frozen? ⟨B, 1, none⟩ = false ∧ W.frozen? ⟨B, 2, none⟩ = false ∧ W.frozen? ⟨B, 3, none⟩ = false ∧ W.frozen? ⟨B, 4, none⟩ = false ∧ W.frozen? ⟨B, 5, none⟩ = false ∧ W.frozen? ⟨B, 6, none⟩ = false ∧ W.frozen? ⟨B, 7, none⟩ = false ∧ W.frozen? ⟨B, 8, none⟩ = false ∧ W.frozen? ⟨B, 9, none⟩ = false :=
  ⟨frozen_of_row W B 0 _ _ h, frozen_of_row W B 1 _ _ h, frozen_of_row W B 2 _ _ h, frozen_of_row W B 3 _ _ h, frozen_of_row W B 4 _ _ h, frozen_of_row W B 5 _ _ h, frozen_of_row W B 6 _ _ h, frozen_of_row W B 7 _ _ h, frozen_of_row W B 8 _ _ h, frozen_of_row W B 9 _ _ h⟩
/-- The array was made ahead of the call. -/
theorem keys_early {w W W3 : World} {f : Fl} {s : Sg} {bv : Value} (h : Fsz w f s bv zeroF W) (b : Below (W.alloc (.cells #[.int .i64 0, .int .i64 0, .int .i64 0, .int .i64 0, .int .i64 0, .int .i64 0, .int .i64 0, .int .i64 0, .int .i64 0, .int .i64 0] 65)).drew.heap.size (W.alloc (.cells #[.int .i64 0, .int .i64 0, .int .i64 0, .int .i64 0, .int .i64 0, .int .i64 0, .int .i64 0, .int .i64 0, .int .i64 0, .int .i64 0] 65)).drew W3) : Fsz w f s bv zeroF W3 ∧ W3.heap[W.heap.size]? = some (.cells #[.int .i64 0, .int .i64 0, .int .i64 0, .int .i64 0, .int .i64 0, .int .i64 0, .int .i64 0, .int .i64 0, .int .i64 0, .int .i64 0] 65 (0, 0)) := by
  have h1 := (h.step ((Below.refl _ _).alloc (Nat.le_refl _) (.cells #[.int .i64 0, .int .i64 0, .int .i64 0, .int .i64 0, .int .i64 0, .int .i64 0, .int .i64 0, .int .i64 0, .int .i64 0, .int .i64 0] 65))).drew
  refine ⟨h1.step b, ?_⟩
  have z : W.heap.size < (W.alloc (.cells #[.int .i64 0, .int .i64 0, .int .i64 0, .int .i64 0, .int .i64 0, .int .i64 0, .int .i64 0, .int .i64 0, .int .i64 0, .int .i64 0] 65)).drew.heap.size := by show W.heap.size < (W.alloc (.cells #[.int .i64 0, .int .i64 0, .int .i64 0, .int .i64 0, .int .i64 0, .int .i64 0, .int .i64 0, .int .i64 0, .int .i64 0, .int .i64 0] 65)).heap.size; simp
  rw [b.block _ z]
  exact heap_alloc_new W _
end Go.Proofs.YtiigoeecklelpaaDoor
