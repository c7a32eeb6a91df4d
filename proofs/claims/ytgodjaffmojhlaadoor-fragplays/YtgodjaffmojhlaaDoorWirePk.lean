/- A packet that lies in a block of its own ('PkAt'): its cells, what a store of a whole packet leaves of it. -/
import Derived.Test.YtgodjaffmojhlaaDoorWireMeas
namespace Go.Proofs.YtgodjaffmojhlaaDoor
open Go.RowKit
set_option linter.unusedVariables false

/-- Block b is a packet, whose body is the slice bv. -/
def PkAt (w : World) (b : Nat) (p : Pk) (bv : Value) : Prop :=
  w.heap[b]? = some (.cells #[.int .i64 p.kind, .int .i64 p.ttl, .int .i64 p.ident, .int .i64 p.src, .int .i64 p.dst, .int .i64 p.pos, .bool p.more, bv] 40 (0, 0))
theorem PkAt.lt {w : World} {b : Nat} {p : Pk} {bv : Value} (h : PkAt w b p bv) : b < w.heap.size := by
  rcases Nat.lt_or_ge b w.heap.size with h1 | h1
  · exact h1
  · unfold PkAt at h; simp [Array.getElem?_eq_none h1] at h
theorem PkAt.new (w : World) (p : Pk) (bv : Value) : PkAt (w.alloc (.cells #[.int .i64 p.kind, .int .i64 p.ttl, .int .i64 p.ident, .int .i64 p.src, .int .i64 p.dst, .int .i64 p.pos, .bool p.more, bv] 40)) w.heap.size p bv := heap_alloc_new w _
theorem PkAt.zero (w : World) : PkAt (w.alloc (.cells #[.int .i64 0, .int .i64 0, .int .i64 0, .int .i64 0, .int .i64 0, .int .i64 0, .bool false, .slice none 0 0] 40)) w.heap.size zeroK (.slice none 0 0) := heap_alloc_new w _
theorem PkAt.drewN {w : World} {b : Nat} {p : Pk} {bv : Value} (h : PkAt w b p bv) (n : Nat) : PkAt (w.drewN n) b p bv := h
theorem PkAt.same {w w' : World} {b : Nat} {p : Pk} {bv : Value} (h : PkAt w b p bv) (hs : Same w w') : PkAt w' b p bv := by
  obtain ⟨n, rfl⟩ := hs; exact h
theorem PkAt.below {w w' : World} {b B : Nat} {p : Pk} {bv : Value} (h : PkAt w b p bv) (hB : b < B) (hb : Below B w w') : PkAt w' b p bv := by
  unfold PkAt; rw [hb.block b hB]; exact h
theorem PkAt.only {w w' : World} {b g : Nat} {p : Pk} {bv : Value} (h : PkAt w b p bv) (hne : b ≠ g) (ho : Only g w w') : PkAt w' b p bv := by
  unfold PkAt; rw [ho.block b hne]; exact h
theorem PkAt.alloc {w : World} {b : Nat} {p : Pk} {bv : Value} (h : PkAt w b p bv) (o : Obj) : PkAt (w.alloc o) b p bv := h.below h.lt ((Below.refl _ _).alloc (Nat.le_refl _) _)
theorem PkAt.free {w : World} {b : Nat} {p : Pk} {bv : Value} (h : PkAt w b p bv) (j : Nat) : w.frozen? ⟨b, j, none⟩ = false := frozen_of_row w b j _ _ h
theorem PkAt.cells {w : World} {b : Nat} {p : Pk} {bv : Value} (h : PkAt w b p bv) :
    w.cell? ⟨b, 0, none⟩ = some (.int .i64 p.kind) ∧ w.cell? ⟨b, 1, none⟩ = some (.int .i64 p.ttl) ∧ w.cell? ⟨b, 2, none⟩ = some (.int .i64 p.ident) ∧ w.cell? ⟨b, 3, none⟩ = some (.int .i64 p.src) ∧
    w.cell? ⟨b, 4, none⟩ = some (.int .i64 p.dst) ∧ w.cell? ⟨b, 5, none⟩ = some (.int .i64 p.pos) ∧ w.cell? ⟨b, 6, none⟩ = some (.bool p.more) ∧ w.cell? ⟨b, 7, none⟩ = some bv := by
  refine ⟨?_, ?_, ?_, ?_, ?_, ?_, ?_, ?_⟩ <;> (rw [cell_of_row w b _ _ _ _ h]; rfl)
theorem set8_0 (a0 a1 a2 a3 a4 a5 a6 a7 x : Value) : (#[a0, a1, a2, a3, a4, a5, a6, a7] : Array Value).setIfInBounds 0 x = #[x, a1, a2, a3, a4, a5, a6, a7] := rfl
theorem set8_1 (a0 a1 a2 a3 a4 a5 a6 a7 x : Value) : (#[a0, a1, a2, a3, a4, a5, a6, a7] : Array Value).setIfInBounds 1 x = #[a0, x, a2, a3, a4, a5, a6, a7] := rfl
theorem set8_2 (a0 a1 a2 a3 a4 a5 a6 a7 x : Value) : (#[a0, a1, a2, a3, a4, a5, a6, a7] : Array Value).setIfInBounds 2 x = #[a0, a1, x, a3, a4, a5, a6, a7] := rfl
theorem set8_3 (a0 a1 a2 a3 a4 a5 a6 a7 x : Value) : (#[a0, a1, a2, a3, a4, a5, a6, a7] : Array Value).setIfInBounds 3 x = #[a0, a1, a2, x, a4, a5, a6, a7] := rfl
theorem set8_4 (a0 a1 a2 a3 a4 a5 a6 a7 x : Value) : (#[a0, a1, a2, a3, a4, a5, a6, a7] : Array Value).setIfInBounds 4 x = #[a0, a1, a2, a3, x, a5, a6, a7] := rfl
theorem set8_5 (a0 a1 a2 a3 a4 a5 a6 a7 x : Value) : (#[a0, a1, a2, a3, a4, a5, a6, a7] : Array Value).setIfInBounds 5 x = #[a0, a1, a2, a3, a4, x, a6, a7] := rfl
theorem set8_6 (a0 a1 a2 a3 a4 a5 a6 a7 x : Value) : (#[a0, a1, a2, a3, a4, a5, a6, a7] : Array Value).setIfInBounds 6 x = #[a0, a1, a2, a3, a4, a5, x, a7] := rfl
theorem set8_7 (a0 a1 a2 a3 a4 a5 a6 a7 x : Value) : (#[a0, a1, a2, a3, a4, a5, a6, a7] : Array Value).setIfInBounds 7 x = #[a0, a1, a2, a3, a4, a5, a6, x] := rfl
theorem PkAt.store {w : World} {b : Nat} {p : Pk} {bv : Value} (h : PkAt w b p bv) (k t i s d o : Int) (m : Bool) (v : Value) :
    ∃ w', (((((((w.setCell ⟨b, 0, none⟩ (.int .i64 k)).setCell ⟨b, 1, none⟩ (.int .i64 t)).setCell ⟨b, 2, none⟩ (.int .i64 i)).setCell ⟨b, 3, none⟩ (.int .i64 s)).setCell ⟨b, 4, none⟩ (.int .i64 d)).setCell ⟨b, 5, none⟩ (.int .i64 o)).setCell ⟨b, 6, none⟩ (.bool m)).setCell ⟨b, 7, none⟩ v = w' ∧
      PkAt w' b { kind := k, ttl := t, ident := i, src := s, dst := d, pos := o, more := m, body := p.body } v ∧ Only b w w' := by
  refine ⟨_, rfl, ?_, ((((((((Only.refl _ _).setCell _ _).setCell _ _).setCell _ _).setCell _ _).setCell _ _).setCell _ _).setCell _ _).setCell _ _⟩
  have e0 := heap_setCell_same w b 0 _ _ (.int .i64 k) h
  rw [set8_0] at e0
  have e1 := heap_setCell_same _ b 1 _ _ (.int .i64 t) e0
  rw [set8_1] at e1
  have e2 := heap_setCell_same _ b 2 _ _ (.int .i64 i) e1
  rw [set8_2] at e2
  have e3 := heap_setCell_same _ b 3 _ _ (.int .i64 s) e2
  rw [set8_3] at e3
  have e4 := heap_setCell_same _ b 4 _ _ (.int .i64 d) e3
  rw [set8_4] at e4
  have e5 := heap_setCell_same _ b 5 _ _ (.int .i64 o) e4
  rw [set8_5] at e5
  have e6 := heap_setCell_same _ b 6 _ _ (.bool m) e5
  rw [set8_6] at e6
  have e7 := heap_setCell_same _ b 7 _ _ v e6
  rw [set8_7] at e7
  exact e7
/-- The cells of a packet are its numbers' and its body's: the body's bytes are told elsewhere. -/
theorem PkAt.of {w : World} {b : Nat} {p q : Pk} {bv : Value} (h : PkAt w b p bv) (h0 : p.kind = q.kind) (h1 : p.ttl = q.ttl) (h2 : p.ident = q.ident) (h3 : p.src = q.src) (h4 : p.dst = q.dst) (h5 : p.pos = q.pos) (h6 : p.more = q.more) : PkAt w b q bv := by
  unfold PkAt at *; rw [← h0, ← h1, ← h2, ← h3, ← h4, ← h5, ← h6]; exact h
end Go.Proofs.YtgodjaffmojhlaaDoor
