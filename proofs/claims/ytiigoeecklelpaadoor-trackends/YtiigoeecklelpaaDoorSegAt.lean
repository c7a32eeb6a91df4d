/- A segment and a key as values, and in blocks of their own ('SgAt', 'KyAt'): their cells, what stores leave of them. -/
import Derived.Test.YtiigoeecklelpaaDoorSegMath
import Derived.Test.YtiigoeecklelpaaDoorWireChk
import Derived.Test.YtiigoeecklelpaaDoorGrew
namespace Go.Proofs.YtiigoeecklelpaaDoor
open Go.RowKit
set_option linter.unusedVariables false

theorem OwnB.stay {w w' : World} {base B : Nat} {v : Value} {zs : List Int} (h : OwnB w base v zs) (hB : w.heap.size ≤ B) (hb : Below B w w') : OwnB w' base v zs := by
  refine ⟨⟨h.1.1, ?_⟩, h.2⟩
  rcases h.1.2 with h0 | ⟨k, cp, cur, h1, h2, h3, h4⟩
  · exact .inl h0
  · refine .inr ⟨k, cp, cur, h1, h2, ?_, h4⟩
    have hlt : k < w.heap.size := by
      rcases Nat.lt_or_ge k w.heap.size with h | h
      · exact h
      · simp [Array.getElem?_eq_none h] at h3
    rw [hb.block k (by omega)]; exact h3
theorem OwnB.len62 {w : World} {base : Nat} {v : Value} {zs : List Int} (h : OwnB w base v zs) (hl : zs.length ≤ 100000) : Bytes w v zs := h.bytes (by omega)

def segV (p : Sg) (bv : Value) : Value := .agg #[.int .i64 p.frm, .int .i64 p.too, .int .i64 p.seq, .int .i64 p.ack, .int .i64 p.win, .int .i64 p.flg, bv]
def SgAt (w : World) (b : Nat) (p : Sg) (bv : Value) : Prop := w.heap[b]? = some (.cells #[.int .i64 p.frm, .int .i64 p.too, .int .i64 p.seq, .int .i64 p.ack, .int .i64 p.win, .int .i64 p.flg, bv] 26 (0, 0))
theorem SgAt.lt {w : World} {b : Nat} {p : Sg} {bv : Value} (h : SgAt w b p bv) : b < w.heap.size := by
  rcases Nat.lt_or_ge b w.heap.size with h1 | h1
  · exact h1
  · unfold SgAt at h; simp [Array.getElem?_eq_none h1] at h
theorem SgAt.new (w : World) (p : Sg) (bv : Value) : SgAt (w.alloc (.cells #[.int .i64 p.frm, .int .i64 p.too, .int .i64 p.seq, .int .i64 p.ack, .int .i64 p.win, .int .i64 p.flg, bv] 26)) w.heap.size p bv := heap_alloc_new w _
theorem SgAt.zero (w : World) : SgAt (w.alloc (.cells #[.int .i64 0, .int .i64 0, .int .i64 0, .int .i64 0, .int .i64 0, .int .i64 0, .slice none 0 0] 26)) w.heap.size zeroS (.slice none 0 0) := heap_alloc_new w _
theorem SgAt.drewN {w : World} {b : Nat} {p : Sg} {bv : Value} (h : SgAt w b p bv) (n : Nat) : SgAt (w.drewN n) b p bv := h
theorem SgAt.same {w w' : World} {b : Nat} {p : Sg} {bv : Value} (h : SgAt w b p bv) (hs : Same w w') : SgAt w' b p bv := by
  obtain ⟨n, rfl⟩ := hs; exact h
theorem SgAt.below {w w' : World} {b B : Nat} {p : Sg} {bv : Value} (h : SgAt w b p bv) (hB : b < B) (hb : Below B w w') : SgAt w' b p bv := by
  unfold SgAt; rw [hb.block b hB]; exact h
theorem SgAt.only {w w' : World} {b g : Nat} {p : Sg} {bv : Value} (h : SgAt w b p bv) (hne : b ≠ g) (ho : Only g w w') : SgAt w' b p bv := by
  unfold SgAt; rw [ho.block b hne]; exact h
theorem SgAt.alloc {w : World} {b : Nat} {p : Sg} {bv : Value} (h : SgAt w b p bv) (o : Obj) : SgAt (w.alloc o) b p bv := h.below h.lt ((Below.refl _ _).alloc (Nat.le_refl _) _)
theorem SgAt.free {w : World} {b : Nat} {p : Sg} {bv : Value} (h : SgAt w b p bv) (j : Nat) : w.frozen? ⟨b, j, none⟩ = false := frozen_of_row w b j _ _ h
theorem SgAt.cells {w : World} {b : Nat} {p : Sg} {bv : Value} (h : SgAt w b p bv) :
    w.cell? ⟨b, 0, none⟩ = some (.int .i64 p.frm) ∧ w.cell? ⟨b, 1, none⟩ = some (.int .i64 p.too) ∧ w.cell? ⟨b, 2, none⟩ = some (.int .i64 p.seq) ∧ w.cell? ⟨b, 3, none⟩ = some (.int .i64 p.ack) ∧ w.cell? ⟨b, 4, none⟩ = some (.int .i64 p.win) ∧ w.cell? ⟨b, 5, none⟩ = some (.int .i64 p.flg) ∧ w.cell? ⟨b, 6, none⟩ = some bv := by
  refine ⟨?_, ?_, ?_, ?_, ?_, ?_, ?_⟩ <;> (rw [cell_of_row w b _ _ _ _ h]; rfl)
theorem set7_0 (x0 x1 x2 x3 x4 x5 x6 y : Value) : (#[x0, x1, x2, x3, x4, x5, x6] : Array Value).setIfInBounds 0 y = #[y, x1, x2, x3, x4, x5, x6] := rfl
theorem set7_1 (x0 x1 x2 x3 x4 x5 x6 y : Value) : (#[x0, x1, x2, x3, x4, x5, x6] : Array Value).setIfInBounds 1 y = #[x0, y, x2, x3, x4, x5, x6] := rfl
theorem set7_2 (x0 x1 x2 x3 x4 x5 x6 y : Value) : (#[x0, x1, x2, x3, x4, x5, x6] : Array Value).setIfInBounds 2 y = #[x0, x1, y, x3, x4, x5, x6] := rfl
theorem set7_3 (x0 x1 x2 x3 x4 x5 x6 y : Value) : (#[x0, x1, x2, x3, x4, x5, x6] : Array Value).setIfInBounds 3 y = #[x0, x1, x2, y, x4, x5, x6] := rfl
theorem set7_4 (x0 x1 x2 x3 x4 x5 x6 y : Value) : (#[x0, x1, x2, x3, x4, x5, x6] : Array Value).setIfInBounds 4 y = #[x0, x1, x2, x3, y, x5, x6] := rfl
theorem set7_5 (x0 x1 x2 x3 x4 x5 x6 y : Value) : (#[x0, x1, x2, x3, x4, x5, x6] : Array Value).setIfInBounds 5 y = #[x0, x1, x2, x3, x4, y, x6] := rfl
theorem set7_6 (x0 x1 x2 x3 x4 x5 x6 y : Value) : (#[x0, x1, x2, x3, x4, x5, x6] : Array Value).setIfInBounds 6 y = #[x0, x1, x2, x3, x4, x5, y] := rfl
theorem SgAt.store {w : World} {b : Nat} {p : Sg} {bv : Value} (h : SgAt w b p bv) (q : Sg) (v : Value) :
    ∃ w', (((((((w.setCell ⟨b, 0, none⟩ (.int .i64 q.frm)).setCell ⟨b, 1, none⟩ (.int .i64 q.too)).setCell ⟨b, 2, none⟩ (.int .i64 q.seq)).setCell ⟨b, 3, none⟩ (.int .i64 q.ack)).setCell ⟨b, 4, none⟩ (.int .i64 q.win)).setCell ⟨b, 5, none⟩ (.int .i64 q.flg)).setCell ⟨b, 6, none⟩ v) = w' ∧ SgAt w' b q v ∧ Only b w w' := by
  refine ⟨_, rfl, ?_, ((((((((Only.refl _ _).setCell _ _).setCell _ _).setCell _ _).setCell _ _).setCell _ _).setCell _ _).setCell _ _)⟩
  have e0 := heap_setCell_same _ b 0 _ _ (.int .i64 q.frm) h
  rw [set7_0] at e0
  have e1 := heap_setCell_same _ b 1 _ _ (.int .i64 q.too) e0
  rw [set7_1] at e1
  have e2 := heap_setCell_same _ b 2 _ _ (.int .i64 q.seq) e1
  rw [set7_2] at e2
  have e3 := heap_setCell_same _ b 3 _ _ (.int .i64 q.ack) e2
  rw [set7_3] at e3
  have e4 := heap_setCell_same _ b 4 _ _ (.int .i64 q.win) e3
  rw [set7_4] at e4
  have e5 := heap_setCell_same _ b 5 _ _ (.int .i64 q.flg) e4
  rw [set7_5] at e5
  have e6 := heap_setCell_same _ b 6 _ _ v e5
  rw [set7_6] at e6
  exact e6
/-- Its body alone is stored. -/
theorem SgAt.storeB {w : World} {b : Nat} {p : Sg} {bv : Value} (h : SgAt w b p bv) (v : Value) : ∃ w', w.setCell ⟨b, 6, none⟩ v = w' ∧ SgAt w' b p v ∧ Only b w w' := by
  refine ⟨_, rfl, ?_, (Only.refl _ _).setCell _ _⟩
  have e := heap_setCell_same _ b 6 _ _ v h
  rw [set7_6] at e
  exact e
theorem SgAt.store_frm {w : World} {b : Nat} {p : Sg} {bv : Value} (h : SgAt w b p bv) (n : Int) : ∃ w', w.setCell ⟨b, 0, none⟩ (.int .i64 n) = w' ∧ SgAt w' b { p with frm := n } bv ∧ Only b w w' := by
  refine ⟨_, rfl, ?_, (Only.refl _ _).setCell _ _⟩
  have e := heap_setCell_same _ b 0 _ _ (.int .i64 n) h
  rw [set7_0] at e
  exact e
theorem SgAt.store_too {w : World} {b : Nat} {p : Sg} {bv : Value} (h : SgAt w b p bv) (n : Int) : ∃ w', w.setCell ⟨b, 1, none⟩ (.int .i64 n) = w' ∧ SgAt w' b { p with too := n } bv ∧ Only b w w' := by
  refine ⟨_, rfl, ?_, (Only.refl _ _).setCell _ _⟩
  have e := heap_setCell_same _ b 1 _ _ (.int .i64 n) h
  rw [set7_1] at e
  exact e
theorem SgAt.store_seq {w : World} {b : Nat} {p : Sg} {bv : Value} (h : SgAt w b p bv) (n : Int) : ∃ w', w.setCell ⟨b, 2, none⟩ (.int .i64 n) = w' ∧ SgAt w' b { p with seq := n } bv ∧ Only b w w' := by
  refine ⟨_, rfl, ?_, (Only.refl _ _).setCell _ _⟩
  have e := heap_setCell_same _ b 2 _ _ (.int .i64 n) h
  rw [set7_2] at e
  exact e
theorem SgAt.store_ack {w : World} {b : Nat} {p : Sg} {bv : Value} (h : SgAt w b p bv) (n : Int) : ∃ w', w.setCell ⟨b, 3, none⟩ (.int .i64 n) = w' ∧ SgAt w' b { p with ack := n } bv ∧ Only b w w' := by
  refine ⟨_, rfl, ?_, (Only.refl _ _).setCell _ _⟩
  have e := heap_setCell_same _ b 3 _ _ (.int .i64 n) h
  rw [set7_3] at e
  exact e
theorem SgAt.store_win {w : World} {b : Nat} {p : Sg} {bv : Value} (h : SgAt w b p bv) (n : Int) : ∃ w', w.setCell ⟨b, 4, none⟩ (.int .i64 n) = w' ∧ SgAt w' b { p with win := n } bv ∧ Only b w w' := by
  refine ⟨_, rfl, ?_, (Only.refl _ _).setCell _ _⟩
  have e := heap_setCell_same _ b 4 _ _ (.int .i64 n) h
  rw [set7_4] at e
  exact e
theorem SgAt.store_flg {w : World} {b : Nat} {p : Sg} {bv : Value} (h : SgAt w b p bv) (n : Int) : ∃ w', w.setCell ⟨b, 5, none⟩ (.int .i64 n) = w' ∧ SgAt w' b { p with flg := n } bv ∧ Only b w w' := by
  refine ⟨_, rfl, ?_, (Only.refl _ _).setCell _ _⟩
  have e := heap_setCell_same _ b 5 _ _ (.int .i64 n) h
  rw [set7_5] at e
  exact e
theorem SgAt.of {w : World} {b : Nat} {p q : Sg} {bv : Value} (h : SgAt w b p bv) (h0 : p.frm = q.frm) (h1 : p.too = q.too) (h2 : p.seq = q.seq) (h3 : p.ack = q.ack) (h4 : p.win = q.win) (h5 : p.flg = q.flg) : SgAt w b q bv := by
  unfold SgAt at *; rw [← h0, ← h1, ← h2, ← h3, ← h4, ← h5]; exact h
theorem KyAt.zero (w : World) : KyAt (w.alloc (.cells #[.int .i64 0, .int .i64 0, .int .i64 0, .int .i64 0, .int .i64 0] 23)) w.heap.size zeroY := heap_alloc_new w _
theorem KyAt.same {w w' : World} {b : Nat} {p : Ky} (h : KyAt w b p) (hs : Same w w') : KyAt w' b p := by
  obtain ⟨n, rfl⟩ := hs; exact h
theorem KyAt.only {w w' : World} {b g : Nat} {p : Ky} (h : KyAt w b p) (hne : b ≠ g) (ho : Only g w w') : KyAt w' b p := by
  unfold KyAt; rw [ho.block b hne]; exact h
theorem set5_0 (x0 x1 x2 x3 x4 y : Value) : (#[x0, x1, x2, x3, x4] : Array Value).setIfInBounds 0 y = #[y, x1, x2, x3, x4] := rfl
theorem set5_1 (x0 x1 x2 x3 x4 y : Value) : (#[x0, x1, x2, x3, x4] : Array Value).setIfInBounds 1 y = #[x0, y, x2, x3, x4] := rfl
theorem set5_2 (x0 x1 x2 x3 x4 y : Value) : (#[x0, x1, x2, x3, x4] : Array Value).setIfInBounds 2 y = #[x0, x1, y, x3, x4] := rfl
theorem set5_3 (x0 x1 x2 x3 x4 y : Value) : (#[x0, x1, x2, x3, x4] : Array Value).setIfInBounds 3 y = #[x0, x1, x2, y, x4] := rfl
theorem set5_4 (x0 x1 x2 x3 x4 y : Value) : (#[x0, x1, x2, x3, x4] : Array Value).setIfInBounds 4 y = #[x0, x1, x2, x3, y] := rfl
theorem KyAt.store {w : World} {b : Nat} {p : Ky} (h : KyAt w b p) (q : Ky) :
    ∃ w', (((((w.setCell ⟨b, 0, none⟩ (.int .i64 q.kind)).setCell ⟨b, 1, none⟩ (.int .i64 q.src)).setCell ⟨b, 2, none⟩ (.int .i64 q.frm)).setCell ⟨b, 3, none⟩ (.int .i64 q.dst)).setCell ⟨b, 4, none⟩ (.int .i64 q.too)) = w' ∧ KyAt w' b q ∧ Only b w w' := by
  refine ⟨_, rfl, ?_, ((((((Only.refl _ _).setCell _ _).setCell _ _).setCell _ _).setCell _ _).setCell _ _)⟩
  have e0 := heap_setCell_same _ b 0 _ _ (.int .i64 q.kind) h
  rw [set5_0] at e0
  have e1 := heap_setCell_same _ b 1 _ _ (.int .i64 q.src) e0
  rw [set5_1] at e1
  have e2 := heap_setCell_same _ b 2 _ _ (.int .i64 q.frm) e1
  rw [set5_2] at e2
  have e3 := heap_setCell_same _ b 3 _ _ (.int .i64 q.dst) e2
  rw [set5_3] at e3
  have e4 := heap_setCell_same _ b 4 _ _ (.int .i64 q.too) e3
  rw [set5_4] at e4
  exact e4
theorem KyAt.store_kind {w : World} {b : Nat} {p : Ky} (h : KyAt w b p) (n : Int) : ∃ w', w.setCell ⟨b, 0, none⟩ (.int .i64 n) = w' ∧ KyAt w' b { p with kind := n } ∧ Only b w w' := by
  refine ⟨_, rfl, ?_, (Only.refl _ _).setCell _ _⟩
  have e := heap_setCell_same _ b 0 _ _ (.int .i64 n) h
  rw [set5_0] at e
  exact e
theorem KyAt.store_src {w : World} {b : Nat} {p : Ky} (h : KyAt w b p) (n : Int) : ∃ w', w.setCell ⟨b, 1, none⟩ (.int .i64 n) = w' ∧ KyAt w' b { p with src := n } ∧ Only b w w' := by
  refine ⟨_, rfl, ?_, (Only.refl _ _).setCell _ _⟩
  have e := heap_setCell_same _ b 1 _ _ (.int .i64 n) h
  rw [set5_1] at e
  exact e
theorem KyAt.store_frm {w : World} {b : Nat} {p : Ky} (h : KyAt w b p) (n : Int) : ∃ w', w.setCell ⟨b, 2, none⟩ (.int .i64 n) = w' ∧ KyAt w' b { p with frm := n } ∧ Only b w w' := by
  refine ⟨_, rfl, ?_, (Only.refl _ _).setCell _ _⟩
  have e := heap_setCell_same _ b 2 _ _ (.int .i64 n) h
  rw [set5_2] at e
  exact e
theorem KyAt.store_dst {w : World} {b : Nat} {p : Ky} (h : KyAt w b p) (n : Int) : ∃ w', w.setCell ⟨b, 3, none⟩ (.int .i64 n) = w' ∧ KyAt w' b { p with dst := n } ∧ Only b w w' := by
  refine ⟨_, rfl, ?_, (Only.refl _ _).setCell _ _⟩
  have e := heap_setCell_same _ b 3 _ _ (.int .i64 n) h
  rw [set5_3] at e
  exact e
theorem KyAt.store_too {w : World} {b : Nat} {p : Ky} (h : KyAt w b p) (n : Int) : ∃ w', w.setCell ⟨b, 4, none⟩ (.int .i64 n) = w' ∧ KyAt w' b { p with too := n } ∧ Only b w w' := by
  refine ⟨_, rfl, ?_, (Only.refl _ _).setCell _ _⟩
  have e := heap_setCell_same _ b 4 _ _ (.int .i64 n) h
  rw [set5_4] at e
  exact e
theorem KyAt.of {w : World} {b : Nat} {p q : Ky} (h : KyAt w b p) (h0 : p.kind = q.kind) (h1 : p.src = q.src) (h2 : p.frm = q.frm) (h3 : p.dst = q.dst) (h4 : p.too = q.too) : KyAt w b q := by
  unfold KyAt at *; rw [← h0, ← h1, ← h2, ← h3, ← h4]; exact h
end Go.Proofs.YtiigoeecklelpaaDoor
