/- What fields of package seg returns, for each kind and bytes that are as many as it asks: the numbers of the segment, and the byte that is to be 0. -/
import Derived.Test.YteijbohfakokfacDoorSegEnc
import Derived.Deep.RegionHeld3
import Derived.Deep.DrawnRows
namespace Go.Proofs.YteijbohfakokfacDoor
open Go.RowKit
set_option linter.unusedVariables false

/-- What holds all the way: bytes that came in, and a segment's block of the call's own. -/
def SdS (w : World) (b off : Nat) (zs : List Int) (w' : World) : Prop := Row w' b off zs ∧ (∃ p bv, SgAt w' w.heap.size p bv) ∧ Below w.heap.size w w'
theorem SdS.drew {w : World} {b off : Nat} {zs : List Int} {w' : World} (h : SdS w b off zs w') : SdS w b off zs w'.drew := ⟨h.1.drewN 1, h.2.1, h.2.2.drew⟩
theorem SdS.step {w : World} {b off : Nat} {zs : List Int} {w' w'' : World} (h : SdS w b off zs w') (hb : b < w.heap.size) (hz : Below w'.heap.size w' w'') : SdS w b off zs w'' := by
  obtain ⟨h1, ⟨p, bv, hp⟩, h3⟩ := h
  exact ⟨h1.below (Nat.lt_of_lt_of_le hb h3.size) hz, ⟨p, bv, hp.below hp.lt hz⟩, h3.trans (hz.mono h3.size)⟩
theorem SdS.stored {w : World} {b off : Nat} {zs : List Int} {w' : World} (h : SdS w b off zs w') (hb : b < w.heap.size) (x0 x1 x2 x3 x4 x5 : Int) (v : Value) :
    SdS w b off zs (((((((w'.setCell ⟨w.heap.size, 0, none⟩ (.int .i64 x0)).setCell ⟨w.heap.size, 1, none⟩ (.int .i64 x1)).setCell ⟨w.heap.size, 2, none⟩ (.int .i64 x2)).setCell ⟨w.heap.size, 3, none⟩ (.int .i64 x3)).setCell ⟨w.heap.size, 4, none⟩ (.int .i64 x4)).setCell ⟨w.heap.size, 5, none⟩ (.int .i64 x5)).setCell ⟨w.heap.size, 6, none⟩ v) := by
  obtain ⟨h1, ⟨p, bv, hp⟩, h3⟩ := h
  obtain ⟨w1, e, hp1, ho1⟩ := hp.store { frm := x0, too := x1, seq := x2, ack := x3, win := x4, flg := x5, body := [] } v
  simp only at e
  rw [e]
  exact ⟨⟨fun j hj => by rw [ho1.cell (p := ⟨b, off + j, none⟩) (by simp; omega)]; exact h1.1 j hj, h1.2⟩, ⟨_, _, hp1⟩, ho1.below (Nat.le_refl _) h3⟩
theorem Row.alloc' {w : World} {b off : Nat} {zs : List Int} (h : Row w b off zs) (hb : b < w.heap.size) (o : Obj) : Row (w.alloc o) b off zs := h.below hb ((Below.refl _ _).alloc (Nat.le_refl _) _)
theorem SdS.start {w : World} {b off : Nat} {zs : List Int} (h : Row w b off zs) (hb : b < w.heap.size) : SdS w b off zs (w.alloc (.cells #[.int .i64 0, .int .i64 0, .int .i64 0, .int .i64 0, .int .i64 0, .int .i64 0, .slice none 0 0] 29)) :=
  ⟨h.alloc' hb _, ⟨_, _, SgAt.zero w⟩, (Below.refl _ _).alloc (Nat.le_refl _) _⟩
/-- What number returns, wherever the bytes lie. -/
def Nums (b off : Nat) (zs : List Int) (s : Value) (x : Int) : Prop :=
  ∀ W : World, Row W b off zs → Calls Tryd.prog 38 #[s] W fun e w' => e = .returned (.int .i64 x) ∧ w' = W

set_option maxRecDepth 100000 in
set_option maxHeartbeats 8000000 in
theorem fields1 (b off len cap : Nat) (zs : List Int) (w : World) (hl : len ≤ cap) (hm : cap ≤ maxLen) (hz : zs.length = len) (h0 : 17 ≤ len) (hr : Row w b off zs) :
    Calls Tryd.prog 39 #[.int .i64 1, .slice (some ⟨b, off, none⟩) len cap] w fun e w' => e = .returned (.tuple #[.agg #[.int .i64 (g2 zs 0), .int .i64 (g2 zs 2), .int .i64 (g4 zs 4), .int .i64 (g4 zs 8), .int .i64 (g2 zs 13), .int .i64 (zs.getD 12 0), .slice none 0 0], .int .i64 (0)]) ∧ Below w.heap.size w w' := by
  have hblk := hr.lt (by omega)
  have hS := SdS.start hr hblk
  have hm' := hm
  unfold maxLen at hm'
  have n2 : ¬ cap = 2 := by omega
  have n4 : ¬ cap = 4 := by omega
  have n8 : ¬ cap = 8 := by omega
  have n12 : ¬ cap = 12 := by omega
  have n13 : ¬ cap = 13 := by omega
  have i2 : (2 : Int) ≤ (cap : Int) := by omega
  have i4 : (4 : Int) ≤ (cap : Int) := by omega
  have i8 : (8 : Int) ≤ (cap : Int) := by omega
  have i12 : (12 : Int) ≤ (cap : Int) := by omega
  have i13 : (13 : Int) ≤ (cap : Int) := by omega
  have i15 : (15 : Int) ≤ (cap : Int) := by omega
  obtain ⟨x0, H0, G0⟩ : ∃ x : Int, Hid (x = g2 zs 0) ∧ Nums b off zs (.slice (some ⟨b, off, none⟩) 2 cap) x := ⟨_, rfl, fun W h => num2_any h 0 cap (by omega) (by omega) (by unfold maxLen; omega)⟩
  obtain ⟨x1, H1, G1⟩ : ∃ x : Int, Hid (x = g2 zs 2) ∧ Nums b off zs (.slice (some ⟨b, off + 2, none⟩) 2 (cap - 2)) x := ⟨_, rfl, fun W h => num2_any h 2 (cap - 2) (by omega) (by omega) (by unfold maxLen; omega)⟩
  obtain ⟨x2, H2, G2⟩ : ∃ x : Int, Hid (x = g4 zs 4) ∧ Nums b off zs (.slice (some ⟨b, off + 4, none⟩) 4 (cap - 4)) x := ⟨_, rfl, fun W h => num4_any h 4 (cap - 4) (by omega) (by omega) (by unfold maxLen; omega)⟩
  obtain ⟨x3, H3, G3⟩ : ∃ x : Int, Hid (x = g4 zs 8) ∧ Nums b off zs (.slice (some ⟨b, off + 8, none⟩) 4 (cap - 8)) x := ⟨_, rfl, fun W h => num4_any h 8 (cap - 8) (by omega) (by omega) (by unfold maxLen; omega)⟩
  obtain ⟨x4, H4, G4⟩ : ∃ x : Int, Hid (x = zs.getD 12 0) ∧ Nums b off zs (.slice (some ⟨b, off + 12, none⟩) 1 (cap - 12)) x := ⟨_, rfl, fun W h => num1_any h 12 (cap - 12) (by omega) (by omega) (by unfold maxLen; omega)⟩
  obtain ⟨x5, H5, G5⟩ : ∃ x : Int, Hid (x = g2 zs 13) ∧ Nums b off zs (.slice (some ⟨b, off + 13, none⟩) 2 (cap - 13)) x := ⟨_, rfl, fun W h => num2_any h 13 (cap - 13) (by omega) (by omega) (by unfold maxLen; omega)⟩
  rw [← H0.out, ← H1.out, ← H2.out, ← H3.out, ← H4.out, ← H5.out]
  clear hr hz
  go_enter Tryd.func39, Tryd.ntmps39
  go_upto_region 3 with fail
  obtain ⟨W1, hW1⟩ : ∃ W1, w.alloc (.cells #[.int .i64 0, .int .i64 0, .int .i64 0, .int .i64 0, .int .i64 0, .int .i64 0, .slice none 0 0] 29) = W1 := ⟨_, rfl⟩
  rw [hW1] at hS ⊢
  clear hW1
  obtain ⟨p1, bv1, hp1⟩ := id hS.2.1
  obtain ⟨c0, c1, c2, c3, c4, c5, c6⟩ := hp1.cells
  have f0 := hp1.free 0
  have f1 := hp1.free 1
  have f2 := hp1.free 2
  have f3 := hp1.free 3
  have f4 := hp1.free 4
  have f5 := hp1.free 5
  have f6 := hp1.free 6
  have m0 : True := trivial
  go_region_held3 (fun w' => SdS w b off zs w') (with_reducible first | assumption | exact SdS.drew (by assumption) | exact SdS.drew (SdS.stored (by assumption) hblk _ _ _ _ _ _ _) | exact SdS.stored (by assumption) hblk _ _ _ _ _ _ _) (first
    | (go_at_call 38; have m1 : True := m0; clear m0; refine (G0 _ (by assumption : SdS w b off zs _).1).mono ?_; rintro e w' ⟨rfl, rfl⟩)
    | (go_at_call 38; have m2 : True := m1; clear m1; refine (G1 _ (by assumption : SdS w b off zs _).1).mono ?_; rintro e w' ⟨rfl, rfl⟩)
    | (go_at_call 38; have m3 : True := m2; clear m2; refine (G2 _ (by assumption : SdS w b off zs _).1).mono ?_; rintro e w' ⟨rfl, rfl⟩)
    | (go_at_call 38; have m4 : True := m3; clear m3; refine (G3 _ (by assumption : SdS w b off zs _).1).mono ?_; rintro e w' ⟨rfl, rfl⟩)
    | (go_at_call 38; have m5 : True := m4; clear m4; refine (G4 _ (by assumption : SdS w b off zs _).1).mono ?_; rintro e w' ⟨rfl, rfl⟩)
    | (go_at_call 38; have m6 : True := m5; clear m5; refine (G5 _ (by assumption : SdS w b off zs _).1).mono ?_; rintro e w' ⟨rfl, rfl⟩))
  have hS2 := hS
  obtain ⟨w3', hw3, hp3, ho3⟩ := hp1.store { frm := x0, too := x1, seq := x2, ack := x3, win := x5, flg := x4, body := [] } (.slice none 0 0)
  simp only at hw3
  rw [hw3]
  replace hp3 : SgAt w3'.drew _ _ _ := hp3
  replace ho3 := ho3.drewN 1
  obtain ⟨w3, hd3⟩ : ∃ w3, w3'.drew = w3 := ⟨_, rfl⟩
  rw [hd3] at hp3 ⊢
  replace ho3 : Only w.heap.size W1 w3 := hd3 ▸ ho3
  have bw3 : Below w.heap.size w w3 := ho3.below (Nat.le_refl _) hS2.2.2
  clear hw3 hd3 c0 c1 c2 c3 c4 c5 c6 f0 f1 f2 f3 f4 f5 f6 hp1 hS2 ho3 hS
  obtain ⟨c0, c1, c2, c3, c4, c5, c6⟩ := hp3.cells
  have f0 := hp3.free 0
  have f1 := hp3.free 1
  have f2 := hp3.free 2
  have f3 := hp3.free 3
  have f4 := hp3.free 4
  have f5 := hp3.free 5
  have f6 := hp3.free 6
  simp only at c0 c1 c2 c3 c4 c5 c6
  go_wp2
  obtain ⟨w4, hw4, hp4, ho4⟩ := hp3.store { frm := x0, too := x1, seq := x2, ack := x3, win := x5, flg := x4, body := [] } (.slice none 0 0)
  simp only at hw4
  rw [hw4]
  have bw4 : Below w.heap.size w w4 := ho4.below (Nat.le_refl _) bw3
  clear hw4 c0 c1 c2 c3 c4 c5 c6 f0 f1 f2 f3 f4 f5 f6 hp3 ho4
  obtain ⟨c0, c1, c2, c3, c4, c5, c6⟩ := hp4.cells
  simp only at c0 c1 c2 c3 c4 c5 c6
  exact bodyPost_ret (v := .tuple #[.agg #[.int .i64 x0, .int .i64 x1, .int .i64 x2, .int .i64 x3, .int .i64 x5, .int .i64 x4, .slice none 0 0], .int .i64 0]) (by simp [results, Tryd.results39, go_sem, c0, c1, c2, c3, c4, c5, c6]) rfl ⟨rfl, bw4⟩
set_option maxRecDepth 100000 in
set_option maxHeartbeats 8000000 in
theorem fields2 (b off len cap : Nat) (zs : List Int) (w : World) (hl : len ≤ cap) (hm : cap ≤ maxLen) (hz : zs.length = len) (h0 : 6 ≤ len) (hr : Row w b off zs) :
    Calls Tryd.prog 39 #[.int .i64 2, .slice (some ⟨b, off, none⟩) len cap] w fun e w' => e = .returned (.tuple #[.agg #[.int .i64 (g2 zs 0), .int .i64 (g2 zs 2), .int .i64 (0), .int .i64 (0), .int .i64 (0), .int .i64 (0), .slice none 0 0], .int .i64 (0)]) ∧ Below w.heap.size w w' := by
  have hblk := hr.lt (by omega)
  have hS := SdS.start hr hblk
  have hm' := hm
  unfold maxLen at hm'
  have n2 : ¬ cap = 2 := by omega
  have i2 : (2 : Int) ≤ (cap : Int) := by omega
  have i4 : (4 : Int) ≤ (cap : Int) := by omega
  obtain ⟨x0, H0, G0⟩ : ∃ x : Int, Hid (x = g2 zs 0) ∧ Nums b off zs (.slice (some ⟨b, off, none⟩) 2 cap) x := ⟨_, rfl, fun W h => num2_any h 0 cap (by omega) (by omega) (by unfold maxLen; omega)⟩
  obtain ⟨x1, H1, G1⟩ : ∃ x : Int, Hid (x = g2 zs 2) ∧ Nums b off zs (.slice (some ⟨b, off + 2, none⟩) 2 (cap - 2)) x := ⟨_, rfl, fun W h => num2_any h 2 (cap - 2) (by omega) (by omega) (by unfold maxLen; omega)⟩
  rw [← H0.out, ← H1.out]
  clear hr hz
  go_enter Tryd.func39, Tryd.ntmps39
  go_upto_region 5 with fail
  obtain ⟨W1, hW1⟩ : ∃ W1, w.alloc (.cells #[.int .i64 0, .int .i64 0, .int .i64 0, .int .i64 0, .int .i64 0, .int .i64 0, .slice none 0 0] 29) = W1 := ⟨_, rfl⟩
  rw [hW1] at hS ⊢
  clear hW1
  obtain ⟨p1, bv1, hp1⟩ := id hS.2.1
  obtain ⟨c0, c1, c2, c3, c4, c5, c6⟩ := hp1.cells
  have f0 := hp1.free 0
  have f1 := hp1.free 1
  have f2 := hp1.free 2
  have f3 := hp1.free 3
  have f4 := hp1.free 4
  have f5 := hp1.free 5
  have f6 := hp1.free 6
  have m0 : True := trivial
  go_region_held3 (fun w' => SdS w b off zs w') (with_reducible first | assumption | exact SdS.drew (by assumption) | exact SdS.drew (SdS.stored (by assumption) hblk _ _ _ _ _ _ _) | exact SdS.stored (by assumption) hblk _ _ _ _ _ _ _) (first
    | (go_at_call 38; have m1 : True := m0; clear m0; refine (G0 _ (by assumption : SdS w b off zs _).1).mono ?_; rintro e w' ⟨rfl, rfl⟩)
    | (go_at_call 38; have m2 : True := m1; clear m1; refine (G1 _ (by assumption : SdS w b off zs _).1).mono ?_; rintro e w' ⟨rfl, rfl⟩))
  have hS2 := hS
  obtain ⟨w3', hw3, hp3, ho3⟩ := hp1.store { frm := x0, too := x1, seq := 0, ack := 0, win := 0, flg := 0, body := [] } (.slice none 0 0)
  simp only at hw3
  rw [hw3]
  replace hp3 : SgAt w3'.drew _ _ _ := hp3
  replace ho3 := ho3.drewN 1
  obtain ⟨w3, hd3⟩ : ∃ w3, w3'.drew = w3 := ⟨_, rfl⟩
  rw [hd3] at hp3 ⊢
  replace ho3 : Only w.heap.size W1 w3 := hd3 ▸ ho3
  have bw3 : Below w.heap.size w w3 := ho3.below (Nat.le_refl _) hS2.2.2
  clear hw3 hd3 c0 c1 c2 c3 c4 c5 c6 f0 f1 f2 f3 f4 f5 f6 hp1 hS2 ho3 hS
  obtain ⟨c0, c1, c2, c3, c4, c5, c6⟩ := hp3.cells
  have f0 := hp3.free 0
  have f1 := hp3.free 1
  have f2 := hp3.free 2
  have f3 := hp3.free 3
  have f4 := hp3.free 4
  have f5 := hp3.free 5
  have f6 := hp3.free 6
  simp only at c0 c1 c2 c3 c4 c5 c6
  go_wp2
  obtain ⟨w4, hw4, hp4, ho4⟩ := hp3.store { frm := x0, too := x1, seq := 0, ack := 0, win := 0, flg := 0, body := [] } (.slice none 0 0)
  simp only at hw4
  rw [hw4]
  have bw4 : Below w.heap.size w w4 := ho4.below (Nat.le_refl _) bw3
  clear hw4 c0 c1 c2 c3 c4 c5 c6 f0 f1 f2 f3 f4 f5 f6 hp3 ho4
  obtain ⟨c0, c1, c2, c3, c4, c5, c6⟩ := hp4.cells
  simp only at c0 c1 c2 c3 c4 c5 c6
  exact bodyPost_ret (v := .tuple #[.agg #[.int .i64 x0, .int .i64 x1, .int .i64 0, .int .i64 0, .int .i64 0, .int .i64 0, .slice none 0 0], .int .i64 0]) (by simp [results, Tryd.results39, go_sem, c0, c1, c2, c3, c4, c5, c6]) rfl ⟨rfl, bw4⟩
set_option maxRecDepth 100000 in
set_option maxHeartbeats 8000000 in
theorem fields3 (b off len cap : Nat) (zs : List Int) (w : World) (hl : len ≤ cap) (hm : cap ≤ maxLen) (hz : zs.length = len) (h0 : 8 ≤ len) (hr : Row w b off zs) :
    Calls Tryd.prog 39 #[.int .i64 3, .slice (some ⟨b, off, none⟩) len cap] w fun e w' => e = .returned (.tuple #[.agg #[.int .i64 (zs.getD 0 0), .int .i64 (g2 zs 1), .int .i64 (g2 zs 3), .int .i64 (0), .int .i64 (0), .int .i64 (0), .slice none 0 0], .int .i64 (zs.getD 5 0)]) ∧ Below w.heap.size w w' := by
  have hblk := hr.lt (by omega)
  have hS := SdS.start hr hblk
  have hm' := hm
  unfold maxLen at hm'
  have n1 : ¬ cap = 1 := by omega
  have n3 : ¬ cap = 3 := by omega
  have n5 : ¬ cap = 5 := by omega
  have i1 : (1 : Int) ≤ (cap : Int) := by omega
  have i3 : (3 : Int) ≤ (cap : Int) := by omega
  have i5 : (5 : Int) ≤ (cap : Int) := by omega
  have i6 : (6 : Int) ≤ (cap : Int) := by omega
  obtain ⟨x0, H0, G0⟩ : ∃ x : Int, Hid (x = zs.getD 0 0) ∧ Nums b off zs (.slice (some ⟨b, off, none⟩) 1 cap) x := ⟨_, rfl, fun W h => num1_any h 0 cap (by omega) (by omega) (by unfold maxLen; omega)⟩
  obtain ⟨x1, H1, G1⟩ : ∃ x : Int, Hid (x = g2 zs 1) ∧ Nums b off zs (.slice (some ⟨b, off + 1, none⟩) 2 (cap - 1)) x := ⟨_, rfl, fun W h => num2_any h 1 (cap - 1) (by omega) (by omega) (by unfold maxLen; omega)⟩
  obtain ⟨x2, H2, G2⟩ : ∃ x : Int, Hid (x = g2 zs 3) ∧ Nums b off zs (.slice (some ⟨b, off + 3, none⟩) 2 (cap - 3)) x := ⟨_, rfl, fun W h => num2_any h 3 (cap - 3) (by omega) (by omega) (by unfold maxLen; omega)⟩
  obtain ⟨x9, H9, G9⟩ : ∃ x : Int, Hid (x = zs.getD 5 0) ∧ Nums b off zs (.slice (some ⟨b, off + 5, none⟩) 1 (cap - 5)) x := ⟨_, rfl, fun W h => num1_any h 5 (cap - 5) (by omega) (by omega) (by unfold maxLen; omega)⟩
  rw [← H0.out, ← H1.out, ← H2.out, ← H9.out]
  clear hr hz
  go_enter Tryd.func39, Tryd.ntmps39
  go_upto_region 7 with fail
  obtain ⟨W1, hW1⟩ : ∃ W1, w.alloc (.cells #[.int .i64 0, .int .i64 0, .int .i64 0, .int .i64 0, .int .i64 0, .int .i64 0, .slice none 0 0] 29) = W1 := ⟨_, rfl⟩
  rw [hW1] at hS ⊢
  clear hW1
  obtain ⟨p1, bv1, hp1⟩ := id hS.2.1
  obtain ⟨c0, c1, c2, c3, c4, c5, c6⟩ := hp1.cells
  have f0 := hp1.free 0
  have f1 := hp1.free 1
  have f2 := hp1.free 2
  have f3 := hp1.free 3
  have f4 := hp1.free 4
  have f5 := hp1.free 5
  have f6 := hp1.free 6
  have m0 : True := trivial
  go_region_held3 (fun w' => SdS w b off zs w') (with_reducible first | assumption | exact SdS.drew (by assumption) | exact SdS.drew (SdS.stored (by assumption) hblk _ _ _ _ _ _ _) | exact SdS.stored (by assumption) hblk _ _ _ _ _ _ _) (first
    | (go_at_call 38; have m1 : True := m0; clear m0; refine (G0 _ (by assumption : SdS w b off zs _).1).mono ?_; rintro e w' ⟨rfl, rfl⟩)
    | (go_at_call 38; have m2 : True := m1; clear m1; refine (G1 _ (by assumption : SdS w b off zs _).1).mono ?_; rintro e w' ⟨rfl, rfl⟩)
    | (go_at_call 38; have m3 : True := m2; clear m2; refine (G2 _ (by assumption : SdS w b off zs _).1).mono ?_; rintro e w' ⟨rfl, rfl⟩))
  have hS2 := hS
  obtain ⟨w3', hw3, hp3, ho3⟩ := hp1.store { frm := x0, too := x1, seq := x2, ack := 0, win := 0, flg := 0, body := [] } (.slice none 0 0)
  simp only at hw3
  rw [hw3]
  replace hp3 : SgAt w3'.drew _ _ _ := hp3
  replace ho3 := ho3.drewN 1
  obtain ⟨w3, hd3⟩ : ∃ w3, w3'.drew = w3 := ⟨_, rfl⟩
  rw [hd3] at hp3 ⊢
  replace ho3 : Only w.heap.size W1 w3 := hd3 ▸ ho3
  have bw3 : Below w.heap.size w w3 := ho3.below (Nat.le_refl _) hS2.2.2
  have hr3 : Row w3 b off zs := ⟨fun j hj => by rw [ho3.cell (p := ⟨b, off + j, none⟩) (by simp; omega)]; exact hS2.1.1 j hj, hS2.1.2⟩
  clear hw3 hd3 c0 c1 c2 c3 c4 c5 c6 f0 f1 f2 f3 f4 f5 f6 hp1 hS2 ho3 hS
  obtain ⟨c0, c1, c2, c3, c4, c5, c6⟩ := hp3.cells
  have f0 := hp3.free 0
  have f1 := hp3.free 1
  have f2 := hp3.free 2
  have f3 := hp3.free 3
  have f4 := hp3.free 4
  have f5 := hp3.free 5
  have f6 := hp3.free 6
  simp only at c0 c1 c2 c3 c4 c5 c6
  go_wp2_with (go_at_call 38; refine (G9 _ hr3).mono ?_; rintro e w' ⟨rfl, rfl⟩)
  obtain ⟨w4, hw4, hp4, ho4⟩ := hp3.store { frm := x0, too := x1, seq := x2, ack := 0, win := 0, flg := 0, body := [] } (.slice none 0 0)
  simp only at hw4
  rw [hw4]
  have bw4 : Below w.heap.size w w4 := ho4.below (Nat.le_refl _) bw3
  clear hw4 c0 c1 c2 c3 c4 c5 c6 f0 f1 f2 f3 f4 f5 f6 hp3 ho4
  obtain ⟨c0, c1, c2, c3, c4, c5, c6⟩ := hp4.cells
  simp only at c0 c1 c2 c3 c4 c5 c6
  exact bodyPost_ret (v := .tuple #[.agg #[.int .i64 x0, .int .i64 x1, .int .i64 x2, .int .i64 0, .int .i64 0, .int .i64 0, .slice none 0 0], .int .i64 x9]) (by simp [results, Tryd.results39, go_sem, c0, c1, c2, c3, c4, c5, c6]) rfl ⟨rfl, bw4⟩
end Go.Proofs.YteijbohfakokfacDoor
