/- A row of bytes that lies in a block of its own, known whole ('RowB'); a world that has turned in one block alone ('Only'). -/
import Derived.Test.YtiigoeecklelpaaDoorOwn
import Derived.Test.YtiigoeecklelpaaDoorNorm
import Derived.Test.YtiigoeecklelpaaDoorTurnT
namespace Go.Proofs.YtiigoeecklelpaaDoor
open Go.RowKit
set_option linter.unusedVariables false

/-- Block g is a row of bytes, these. -/
def RowB (w : World) (g : Nat) (zs : List Int) : Prop :=
  w.heap[g]? = some (.cells (zs.map (Value.int .u8)).toArray 5 (0, 0)) ∧ ∀ x ∈ zs, 0 ≤ x ∧ x ≤ 255
theorem RowB.lt {w : World} {g : Nat} {zs : List Int} (h : RowB w g zs) : g < w.heap.size := by
  rcases Nat.lt_or_ge g w.heap.size with h1 | h1
  · exact h1
  · have := h.1; simp [Array.getElem?_eq_none h1] at this
theorem RowB.cell {w : World} {g : Nat} {zs : List Int} (h : RowB w g zs) (j : Nat) (hj : j < zs.length) : w.cell? ⟨g, j, none⟩ = some (.int .u8 (zs.getD j 0)) := by
  rw [cell_of_row w g j _ _ _ h.1]; simp [List.getD, hj]
theorem RowB.free {w : World} {g : Nat} {zs : List Int} (h : RowB w g zs) (j : Nat) : w.frozen? ⟨g, j, none⟩ = false := frozen_of_row w g j _ _ h.1
theorem RowB.store {w : World} {g : Nat} {zs : List Int} (h : RowB w g zs) (j : Nat) (u : Int) (h0 : 0 ≤ u) (h1 : u ≤ 255) : RowB (w.setCell ⟨g, j, none⟩ (.int .u8 u)) g (zs.set j u) := by
  refine ⟨?_, byte_set h.2 h0 h1⟩
  rw [heap_setCell_same w g j _ _ _ h.1]
  simp
theorem RowB.drewN {w : World} {g : Nat} {zs : List Int} (h : RowB w g zs) (n : Nat) : RowB (w.drewN n) g zs := h
theorem RowB.same {w w' : World} {g : Nat} {zs : List Int} (h : RowB w g zs) (hs : Same w w') : RowB w' g zs := by
  obtain ⟨n, rfl⟩ := hs; exact h
theorem RowB.below {w w' : World} {g B : Nat} {zs : List Int} (h : RowB w g zs) (hB : g < B) (hb : Below B w w') : RowB w' g zs := ⟨by rw [hb.block g hB]; exact h.1, h.2⟩
theorem RowB.only {w w' : World} {g k : Nat} {zs : List Int} (h : RowB w g zs) (hk : g ≠ k) (ho : Only k w w') : RowB w' g zs := ⟨by rw [ho.block g hk]; exact h.1, h.2⟩
theorem RowB.alloc {w : World} {g : Nat} {zs : List Int} (h : RowB w g zs) (o : Obj) : RowB (w.alloc o) g zs := h.below h.lt ((Below.refl _ _).alloc (Nat.le_refl _) _)
theorem RowB.new (w : World) (zs : List Int) (h : ∀ x ∈ zs, 0 ≤ x ∧ x ≤ 255) : RowB (w.alloc (.cells (zs.map (Value.int .u8)).toArray 5)) w.heap.size zs := ⟨heap_alloc_new w _, h⟩
theorem RowB.own {w : World} {g : Nat} {zs : List Int} {B : Nat} (h : RowB w g zs) (hB : B ≤ g) (hm : zs.length ≤ maxLen) : OwnB w B (.slice (some ⟨g, 0, none⟩) zs.length zs.length) zs :=
  ⟨⟨by simp, .inr ⟨g, zs.length, (zs.map (Value.int .u8)).toArray, rfl, hB, h.1, Nat.le_refl _, hm, by simp, List.take_of_length_le (by simp)⟩⟩, h.2⟩
theorem getD_drop_take (zs : List Int) (o n i : Nat) (hi : i < n) : ((zs.drop o).take n).getD i 0 = zs.getD (o + i) 0 := by
  simp [List.getD, hi, List.getElem?_drop]
/-- A stretch of it, as a row. -/
theorem RowB.row {w : World} {g : Nat} {zs : List Int} (h : RowB w g zs) (o n : Nat) (hn : o + n ≤ zs.length) : Row w g o ((zs.drop o).take n) := by
  refine ⟨fun i hi => ?_, fun x hx => h.2 x (List.mem_of_mem_drop (List.mem_of_mem_take hx))⟩
  have hi' : i < n := by simp at hi; omega
  rw [h.cell (o + i) (by omega), getD_drop_take zs o n i hi']
theorem RowB.bytes {w : World} {g : Nat} {zs : List Int} (h : RowB w g zs) (o n cap : Nat) (hn : o + n ≤ zs.length) (hc : n ≤ cap) (hm : cap ≤ maxLen) (h62 : n < 2 ^ 62) : Bytes w (.slice (some ⟨g, o, none⟩) n cap) ((zs.drop o).take n) :=
  .inr ⟨g, o, n, cap, rfl, hc, hm, h62, by simp; omega, h.row o n hn⟩
/-- A stretch of bytes that lie in memory. -/
theorem Row.part {w : World} {b off : Nat} {zs : List Int} (h : Row w b off zs) (o n : Nat) (hn : o + n ≤ zs.length) : Row w b (off + o) ((zs.drop o).take n) := by
  refine ⟨fun i hi => ?_, fun x hx => h.2 x (List.mem_of_mem_drop (List.mem_of_mem_take hx))⟩
  have hi' : i < n := by simp at hi; omega
  rw [Nat.add_assoc, h.1 (o + i) (by omega), getD_drop_take zs o n i hi']
theorem Row.below {w w' : World} {b off B : Nat} {zs : List Int} (h : Row w b off zs) (hB : b < B) (hb : Below B w w') : Row w' b off zs :=
  ⟨fun i hi => by rw [hb.cell (p := ⟨b, off + i, none⟩) hB]; exact h.1 i hi, h.2⟩
theorem Row.same {w w' : World} {b off : Nat} {zs : List Int} (h : Row w b off zs) (hs : Same w w') : Row w' b off zs := by
  obtain ⟨n, rfl⟩ := hs; exact h.drewN n
theorem Row.lt {w : World} {b off : Nat} {zs : List Int} (h : Row w b off zs) (hz : 0 < zs.length) : b < w.heap.size := by
  have hc := h.1 0 hz
  rcases Nat.lt_or_ge b w.heap.size with h1 | h1
  · exact h1
  · simp [World.cell?, Array.getElem?_eq_none h1] at hc
end Go.Proofs.YtiigoeecklelpaaDoor
