/- What the reference's ReadSeg returns of bytes that are to be a Stream (package portref1). -/
import Derived.Test.YteijbohfakokfacDoorRefRs0
namespace Go.Proofs.YteijbohfakokfacDoor
open Go.RowKit
set_option linter.unusedVariables false

set_option maxRecDepth 100000 in
set_option maxHeartbeats 8000000 in
theorem refRead1_sum (src dst : Int) (b off len cap : Nat) (zs : List Int) (w : World) (hs : upB src 4294967295 = true) (hd : upB dst 4294967295 = true) (hl : len ≤ cap) (hm : cap ≤ maxLen) (hz : zs.length = len) (hr : Row w b off zs) (h0 : 17 ≤ len) (h4 : len ≤ 4000) (hx : ¬ g2 zs 15 = psum 1 (zs.take 15) (zs.drop 17) src dst) :
    Calls Tryd.prog 6 #[.int .i64 1, .slice (some ⟨b, off, none⟩) len cap, .int .i64 src, .int .i64 dst] w fun e w' => e = .returned (.tuple #[segV zeroS (.slice none 0 0), .int .i64 9]) ∧ Below w.heap.size w w' := by
  have hblk := hr.lt (by omega)
  have hS := SdS.start hr hblk
  have hm' := hm
  unfold maxLen at hm'
  have n1 : ¬ cap = 15 := by omega
  have i1 : (15 : Int) ≤ (cap : Int) := by omega
  have i2 : (17 : Int) ≤ (cap : Int) := by omega
  have i3 : (17 : Int) ≤ (len : Int) := by omega
  have i4 : (len : Int) ≤ 4000 := by omega
  have i5 : (len : Int) ≤ (cap : Int) := by omega
  obtain ⟨ad, had⟩ : ∃ ad, (if cap = 17 then some (⟨b, off, none⟩ : Addr) else some ⟨b, off + 17, none⟩) = ad := ⟨_, rfl⟩
  obtain ⟨NS, HN, GN⟩ : ∃ x : Int, Hid (x = g2 zs 15) ∧ RNums b off zs (.slice (some ⟨b, off + 15, none⟩) 2 (cap - 15)) x := ⟨_, rfl, fun W h => refN2 h 15 (cap - 15) (by omega) (by omega) (by unfold maxLen; omega)⟩
  obtain ⟨PS, HS, GS⟩ : ∃ x : Int, Hid (x = psum 1 (zs.take 15) (zs.drop 17) src dst) ∧ RSums 1 src dst b off zs (.slice (some ⟨b, off, none⟩) 15 cap) (.slice ad (len - 17) (cap - 17)) x := ⟨_, rfl, fun W h => refSegSum_any 1 src dst _ _ _ _ W (init_bytes 15 h hl hm hz (by omega) h4) (tail_bytes 17 h hl hm hz h0 h4 had) (by simp; omega) (by simp; omega) rfl hs hd⟩
  rw [← HN.out, ← HS.out] at hx
  have hne : (PS != NS) = true := by simpa using fun h => hx h.symm
  have ew : IntKind.i64.wrap (17 - 2) = 15 := by decide
  have ew' : IntKind.i64.wrap 15 = 15 := by decide
  have HR : Hid (Row w b off zs) := hr
  have HZ : Hid (zs.length = len) := hz
  clear hr hx hz
  go_enter Tryd.func6, Tryd.ntmps6
  go_upto_region 10 with (first
    | (go_at_call 19; refine (refAddr_up _ _).mono ?_; rintro e w' ⟨rfl, rfl⟩)
    | (go_at_call 20; refine (size1 _).mono ?_; rintro e w' ⟨rfl, rfl⟩))
  have hz1 := SgAt.zero w
  obtain ⟨W1, hW1⟩ : ∃ W1, w.alloc (.cells #[.int .i64 0, .int .i64 0, .int .i64 0, .int .i64 0, .int .i64 0, .int .i64 0, .slice none 0 0] 29) = W1 := ⟨_, rfl⟩
  rw [hW1] at hS hz1 ⊢
  clear hW1
  go_region_held3 (fun w' => SdS w b off zs w') (with_reducible first | assumption | exact SdS.drew (by assumption)) (first
    | (go_at_call 22; refine (GN _ (by assumption : SdS w b off zs _).1).mono ?_; rintro e W2 ⟨rfl, rfl⟩)
    | (go_at_call 21; refine (GS _ (by assumption : SdS w b off zs _).1).mono ?_; rintro e w2 ⟨rfl, bel2⟩; have hS2 := SdS.step (by assumption : SdS w b off zs _) hblk bel2; replace hz1 := SgAt.below (w := W1.drew) hz1 hz1.lt bel2))
  clear hS bel2 GN GS
  obtain ⟨c0, c1, c2, c3, c4, c5, c6⟩ := zero_results hz1
  have f0 := hz1.free 0
  have f1 := hz1.free 1
  have f2 := hz1.free 2
  have f3 := hz1.free 3
  have f4 := hz1.free 4
  have f5 := hz1.free 5
  have f6 := hz1.free 6
  go_wp2_with fail
  obtain ⟨w3, hw3, hp3, ho3⟩ := hz1.wipe
  rw [hw3]
  have bw3 : Below w.heap.size w w3 := ho3.below (Nat.le_refl _) hS2.2.2
  clear c0 c1 c2 c3 c4 c5 c6 f0 f1 f2 f3 f4 f5 f6 hw3
  obtain ⟨c0, c1, c2, c3, c4, c5, c6⟩ := zero_results hp3
  exact bodyPost_ret (v := .tuple #[segV zeroS (.slice none 0 0), .int .i64 9]) (by simp [results, Tryd.results6, go_sem, segV, zeroS, c0, c1, c2, c3, c4, c5, c6]) rfl ⟨rfl, bw3⟩
set_option maxRecDepth 100000 in
set_option maxHeartbeats 8000000 in
theorem refRead1_bad (src dst : Int) (b off len cap : Nat) (zs : List Int) (w : World) (hs : upB src 4294967295 = true) (hd : upB dst 4294967295 = true) (hl : len ≤ cap) (hm : cap ≤ maxLen) (hz : zs.length = len) (hr : Row w b off zs) (h0 : 17 ≤ len) (h4 : len ≤ 4000) (hx : g2 zs 15 = psum 1 (zs.take 15) (zs.drop 17) src dst) (hy : 15 < zs.getD 12 0) :
    Calls Tryd.prog 6 #[.int .i64 1, .slice (some ⟨b, off, none⟩) len cap, .int .i64 src, .int .i64 dst] w fun e w' => e = .returned (.tuple #[segV zeroS (.slice none 0 0), .int .i64 1]) ∧ Below w.heap.size w w' := by
  have hblk := hr.lt (by omega)
  have hS := SdS.start hr hblk
  have hm' := hm
  unfold maxLen at hm'
  have n1 : ¬ cap = 15 := by omega
  have i1 : (15 : Int) ≤ (cap : Int) := by omega
  have i2 : (17 : Int) ≤ (cap : Int) := by omega
  have i3 : (17 : Int) ≤ (len : Int) := by omega
  have i4 : (len : Int) ≤ 4000 := by omega
  have i5 : (len : Int) ≤ (cap : Int) := by omega
  obtain ⟨ad, had⟩ : ∃ ad, (if cap = 17 then some (⟨b, off, none⟩ : Addr) else some ⟨b, off + 17, none⟩) = ad := ⟨_, rfl⟩
  obtain ⟨NS, HN, GN⟩ : ∃ x : Int, Hid (x = g2 zs 15) ∧ RNums b off zs (.slice (some ⟨b, off + 15, none⟩) 2 (cap - 15)) x := ⟨_, rfl, fun W h => refN2 h 15 (cap - 15) (by omega) (by omega) (by unfold maxLen; omega)⟩
  obtain ⟨PS, HS, GS⟩ : ∃ x : Int, Hid (x = psum 1 (zs.take 15) (zs.drop 17) src dst) ∧ RSums 1 src dst b off zs (.slice (some ⟨b, off, none⟩) 15 cap) (.slice ad (len - 17) (cap - 17)) x := ⟨_, rfl, fun W h => refSegSum_any 1 src dst _ _ _ _ W (init_bytes 15 h hl hm hz (by omega) h4) (tail_bytes 17 h hl hm hz h0 h4 had) (by simp; omega) (by simp; omega) rfl hs hd⟩
  rw [← HN.out, ← HS.out] at hx
  have hne : (PS != NS) = false := by simp [hx]
  have ew : IntKind.i64.wrap (17 - 2) = 15 := by decide
  have ew' : IntKind.i64.wrap 15 = 15 := by decide
  have HR : Hid (Row w b off zs) := hr
  have HZ : Hid (zs.length = len) := hz
  obtain ⟨x_frm, E_frm, G_frm⟩ : ∃ x : Int, Hid (x = g2 zs 0) ∧ RNums b off zs (.slice (some ⟨b, off, none⟩) 2 cap) x := ⟨_, rfl, fun W h => refN2 h 0 cap (by omega) (by omega) (by unfold maxLen; omega)⟩
  have ii_frm : (2 : Int) ≤ (cap : Int) := by omega
  obtain ⟨x_too, E_too, G_too⟩ : ∃ x : Int, Hid (x = g2 zs 2) ∧ RNums b off zs (.slice (some ⟨b, off + 2, none⟩) 2 (cap - 2)) x := ⟨_, rfl, fun W h => refN2 h 2 (cap - 2) (by omega) (by omega) (by unfold maxLen; omega)⟩
  have nn_too : ¬ cap = 2 := by omega
  have ii_too : (4 : Int) ≤ (cap : Int) := by omega
  obtain ⟨x_seq, E_seq, G_seq⟩ : ∃ x : Int, Hid (x = g4 zs 4) ∧ RNums b off zs (.slice (some ⟨b, off + 4, none⟩) 4 (cap - 4)) x := ⟨_, rfl, fun W h => refN4 h 4 (cap - 4) (by omega) (by omega) (by unfold maxLen; omega)⟩
  have nn_seq : ¬ cap = 4 := by omega
  have ii_seq : (8 : Int) ≤ (cap : Int) := by omega
  obtain ⟨x_ack, E_ack, G_ack⟩ : ∃ x : Int, Hid (x = g4 zs 8) ∧ RNums b off zs (.slice (some ⟨b, off + 8, none⟩) 4 (cap - 8)) x := ⟨_, rfl, fun W h => refN4 h 8 (cap - 8) (by omega) (by omega) (by unfold maxLen; omega)⟩
  have nn_ack : ¬ cap = 8 := by omega
  have ii_ack : (12 : Int) ≤ (cap : Int) := by omega
  obtain ⟨x_flg, E_flg, G_flg⟩ : ∃ x : Int, Hid (x = zs.getD 12 0) ∧ RNums b off zs (.slice (some ⟨b, off + 12, none⟩) 1 (cap - 12)) x := ⟨_, rfl, fun W h => refN1 h 12 (cap - 12) (by omega) (by omega) (by unfold maxLen; omega)⟩
  have nn_flg : ¬ cap = 12 := by omega
  have ii_flg : (13 : Int) ≤ (cap : Int) := by omega
  obtain ⟨x_win, E_win, G_win⟩ : ∃ x : Int, Hid (x = g2 zs 13) ∧ RNums b off zs (.slice (some ⟨b, off + 13, none⟩) 2 (cap - 13)) x := ⟨_, rfl, fun W h => refN2 h 13 (cap - 13) (by omega) (by omega) (by unfold maxLen; omega)⟩
  have nn_win : ¬ cap = 13 := by omega
  have ii_win : (15 : Int) ≤ (cap : Int) := by omega
  rw [← E_flg.out] at hy
  clear hr hx hz
  go_enter Tryd.func6, Tryd.ntmps6
  go_upto_region 10 with (first
    | (go_at_call 19; refine (refAddr_up _ _).mono ?_; rintro e w' ⟨rfl, rfl⟩)
    | (go_at_call 20; refine (size1 _).mono ?_; rintro e w' ⟨rfl, rfl⟩))
  have hz1 := SgAt.zero w
  obtain ⟨W1, hW1⟩ : ∃ W1, w.alloc (.cells #[.int .i64 0, .int .i64 0, .int .i64 0, .int .i64 0, .int .i64 0, .int .i64 0, .slice none 0 0] 29) = W1 := ⟨_, rfl⟩
  rw [hW1] at hS hz1 ⊢
  clear hW1
  go_region_held3 (fun w' => SdS w b off zs w') (with_reducible first | assumption | exact SdS.drew (by assumption)) (first
    | (go_at_call 22; refine (GN _ (by assumption : SdS w b off zs _).1).mono ?_; rintro e W2 ⟨rfl, rfl⟩)
    | (go_at_call 21; refine (GS _ (by assumption : SdS w b off zs _).1).mono ?_; rintro e w2 ⟨rfl, bel2⟩; have hS2 := SdS.step (by assumption : SdS w b off zs _) hblk bel2; replace hz1 := SgAt.below (w := W1.drew) hz1 hz1.lt bel2))
  clear hS bel2 GN GS
  have hRA : ∀ o1, Row (W2.alloc o1) b off zs := fun o1 => hS2.1.alloc' (Nat.lt_of_lt_of_le hblk hS2.2.2.size) o1
  have m0 : True := trivial
  go_upto_region 30 with (first
    | (go_at_call 22; have m1 : True := m0; clear m0; refine (G_frm _ (hRA _)).mono ?_; rintro e wa ⟨rfl, rfl⟩)
    | (go_at_call 22; have m2 : True := m1; clear m1; refine (G_too _ (hRA _)).mono ?_; rintro e wa ⟨rfl, rfl⟩)
    | (go_at_call 22; have m3 : True := m2; clear m2; refine (G_seq _ (hRA _)).mono ?_; rintro e wa ⟨rfl, rfl⟩)
    | (go_at_call 22; have m4 : True := m3; clear m3; refine (G_ack _ (hRA _)).mono ?_; rintro e wa ⟨rfl, rfl⟩)
    | (go_at_call 22; have m5 : True := m4; clear m4; refine (G_flg _ (hRA _)).mono ?_; rintro e wa ⟨rfl, rfl⟩)
    | (go_at_call 22; have m6 : True := m5; clear m5; refine (G_win _ (hRA _)).mono ?_; rintro e wa ⟨rfl, rfl⟩))
  have hq4 := SgAt.new W2 { frm := x_frm, too := x_too, seq := x_seq, ack := x_ack, win := x_win, flg := x_flg, body := [] } (.slice ad (len - 17) (cap - 17))
  have hz4 := hz1.alloc (.cells #[.int .i64 x_frm, .int .i64 x_too, .int .i64 x_seq, .int .i64 x_ack, .int .i64 x_win, .int .i64 x_flg, .slice ad (len - 17) (cap - 17)] 29)
  have b4 : Below w.heap.size w (W2.alloc (.cells #[.int .i64 x_frm, .int .i64 x_too, .int .i64 x_seq, .int .i64 x_ack, .int .i64 x_win, .int .i64 x_flg, .slice ad (len - 17) (cap - 17)] 29)) := hS2.2.2.alloc hS2.2.2.size _
  have hr4 := hRA (.cells #[.int .i64 x_frm, .int .i64 x_too, .int .i64 x_seq, .int .i64 x_ack, .int .i64 x_win, .int .i64 x_flg, .slice ad (len - 17) (cap - 17)] 29)
  obtain ⟨W4, hW4⟩ : ∃ W4, W2.alloc (.cells #[.int .i64 x_frm, .int .i64 x_too, .int .i64 x_seq, .int .i64 x_ack, .int .i64 x_win, .int .i64 x_flg, .slice ad (len - 17) (cap - 17)] 29) = W4 := ⟨_, rfl⟩
  simp only at hq4
  rw [hW4] at hq4 hz4 b4 hr4 ⊢
  clear hW4 hRA hz1 hS2 G_frm G_too G_seq G_ack G_flg G_win
  obtain ⟨c0, c1, c2, c3, c4, c5, c6⟩ := hq4.cells
  simp only at c0 c1 c2 c3 c4 c5 c6
  obtain ⟨q0, q1, q2, q3, q4, q5, q6⟩ := zero_results hz4
  have f0 := hz4.free 0
  have f1 := hz4.free 1
  have f2 := hz4.free 2
  have f3 := hz4.free 3
  have f4 := hz4.free 4
  have f5 := hz4.free 5
  have f6 := hz4.free 6
  go_wp2_with fail
  obtain ⟨w5, hw5, hp5, ho5⟩ := hz4.wipe
  rw [hw5]
  have bw5 : Below w.heap.size w w5 := ho5.below (Nat.le_refl _) b4
  clear c0 c1 c2 c3 c4 c5 c6 q0 q1 q2 q3 q4 q5 q6 f0 f1 f2 f3 f4 f5 f6 hw5
  obtain ⟨c0, c1, c2, c3, c4, c5, c6⟩ := zero_results hp5
  exact bodyPost_ret (v := .tuple #[segV zeroS (.slice none 0 0), .int .i64 1]) (by simp [results, Tryd.results6, go_sem, segV, zeroS, c0, c1, c2, c3, c4, c5, c6]) rfl ⟨rfl, bw5⟩
set_option maxRecDepth 100000 in
set_option maxHeartbeats 8000000 in
theorem refRead1_ok (src dst : Int) (b off len cap : Nat) (zs : List Int) (w : World) (hs : upB src 4294967295 = true) (hd : upB dst 4294967295 = true) (hl : len ≤ cap) (hm : cap ≤ maxLen) (hz : zs.length = len) (hr : Row w b off zs) (h0 : 17 ≤ len) (h4 : len ≤ 4000) (hx : g2 zs 15 = psum 1 (zs.take 15) (zs.drop 17) src dst) (hy : ¬ 15 < zs.getD 12 0) :
    Calls Tryd.prog 6 #[.int .i64 1, .slice (some ⟨b, off, none⟩) len cap, .int .i64 src, .int .i64 dst] w fun e w' => ∃ bv, e = .returned (.tuple #[segV (fldS 1 zs) bv, .int .i64 0]) ∧ Bytes w' bv (zs.drop 17) ∧ Below w.heap.size w w' := by
  have hblk := hr.lt (by omega)
  have hS := SdS.start hr hblk
  have hm' := hm
  unfold maxLen at hm'
  have n1 : ¬ cap = 15 := by omega
  have i1 : (15 : Int) ≤ (cap : Int) := by omega
  have i2 : (17 : Int) ≤ (cap : Int) := by omega
  have i3 : (17 : Int) ≤ (len : Int) := by omega
  have i4 : (len : Int) ≤ 4000 := by omega
  have i5 : (len : Int) ≤ (cap : Int) := by omega
  obtain ⟨ad, had⟩ : ∃ ad, (if cap = 17 then some (⟨b, off, none⟩ : Addr) else some ⟨b, off + 17, none⟩) = ad := ⟨_, rfl⟩
  obtain ⟨NS, HN, GN⟩ : ∃ x : Int, Hid (x = g2 zs 15) ∧ RNums b off zs (.slice (some ⟨b, off + 15, none⟩) 2 (cap - 15)) x := ⟨_, rfl, fun W h => refN2 h 15 (cap - 15) (by omega) (by omega) (by unfold maxLen; omega)⟩
  obtain ⟨PS, HS, GS⟩ : ∃ x : Int, Hid (x = psum 1 (zs.take 15) (zs.drop 17) src dst) ∧ RSums 1 src dst b off zs (.slice (some ⟨b, off, none⟩) 15 cap) (.slice ad (len - 17) (cap - 17)) x := ⟨_, rfl, fun W h => refSegSum_any 1 src dst _ _ _ _ W (init_bytes 15 h hl hm hz (by omega) h4) (tail_bytes 17 h hl hm hz h0 h4 had) (by simp; omega) (by simp; omega) rfl hs hd⟩
  rw [← HN.out, ← HS.out] at hx
  have hne : (PS != NS) = false := by simp [hx]
  have ew : IntKind.i64.wrap (17 - 2) = 15 := by decide
  have ew' : IntKind.i64.wrap 15 = 15 := by decide
  have HR : Hid (Row w b off zs) := hr
  have HZ : Hid (zs.length = len) := hz
  obtain ⟨x_frm, E_frm, G_frm⟩ : ∃ x : Int, Hid (x = g2 zs 0) ∧ RNums b off zs (.slice (some ⟨b, off, none⟩) 2 cap) x := ⟨_, rfl, fun W h => refN2 h 0 cap (by omega) (by omega) (by unfold maxLen; omega)⟩
  have ii_frm : (2 : Int) ≤ (cap : Int) := by omega
  obtain ⟨x_too, E_too, G_too⟩ : ∃ x : Int, Hid (x = g2 zs 2) ∧ RNums b off zs (.slice (some ⟨b, off + 2, none⟩) 2 (cap - 2)) x := ⟨_, rfl, fun W h => refN2 h 2 (cap - 2) (by omega) (by omega) (by unfold maxLen; omega)⟩
  have nn_too : ¬ cap = 2 := by omega
  have ii_too : (4 : Int) ≤ (cap : Int) := by omega
  obtain ⟨x_seq, E_seq, G_seq⟩ : ∃ x : Int, Hid (x = g4 zs 4) ∧ RNums b off zs (.slice (some ⟨b, off + 4, none⟩) 4 (cap - 4)) x := ⟨_, rfl, fun W h => refN4 h 4 (cap - 4) (by omega) (by omega) (by unfold maxLen; omega)⟩
  have nn_seq : ¬ cap = 4 := by omega
  have ii_seq : (8 : Int) ≤ (cap : Int) := by omega
  obtain ⟨x_ack, E_ack, G_ack⟩ : ∃ x : Int, Hid (x = g4 zs 8) ∧ RNums b off zs (.slice (some ⟨b, off + 8, none⟩) 4 (cap - 8)) x := ⟨_, rfl, fun W h => refN4 h 8 (cap - 8) (by omega) (by omega) (by unfold maxLen; omega)⟩
  have nn_ack : ¬ cap = 8 := by omega
  have ii_ack : (12 : Int) ≤ (cap : Int) := by omega
  obtain ⟨x_flg, E_flg, G_flg⟩ : ∃ x : Int, Hid (x = zs.getD 12 0) ∧ RNums b off zs (.slice (some ⟨b, off + 12, none⟩) 1 (cap - 12)) x := ⟨_, rfl, fun W h => refN1 h 12 (cap - 12) (by omega) (by omega) (by unfold maxLen; omega)⟩
  have nn_flg : ¬ cap = 12 := by omega
  have ii_flg : (13 : Int) ≤ (cap : Int) := by omega
  obtain ⟨x_win, E_win, G_win⟩ : ∃ x : Int, Hid (x = g2 zs 13) ∧ RNums b off zs (.slice (some ⟨b, off + 13, none⟩) 2 (cap - 13)) x := ⟨_, rfl, fun W h => refN2 h 13 (cap - 13) (by omega) (by omega) (by unfold maxLen; omega)⟩
  have nn_win : ¬ cap = 13 := by omega
  have ii_win : (15 : Int) ≤ (cap : Int) := by omega
  rw [← E_flg.out] at hy
  clear hr hx hz
  go_enter Tryd.func6, Tryd.ntmps6
  go_upto_region 10 with (first
    | (go_at_call 19; refine (refAddr_up _ _).mono ?_; rintro e w' ⟨rfl, rfl⟩)
    | (go_at_call 20; refine (size1 _).mono ?_; rintro e w' ⟨rfl, rfl⟩))
  have hz1 := SgAt.zero w
  obtain ⟨W1, hW1⟩ : ∃ W1, w.alloc (.cells #[.int .i64 0, .int .i64 0, .int .i64 0, .int .i64 0, .int .i64 0, .int .i64 0, .slice none 0 0] 29) = W1 := ⟨_, rfl⟩
  rw [hW1] at hS hz1 ⊢
  clear hW1
  go_region_held3 (fun w' => SdS w b off zs w') (with_reducible first | assumption | exact SdS.drew (by assumption)) (first
    | (go_at_call 22; refine (GN _ (by assumption : SdS w b off zs _).1).mono ?_; rintro e W2 ⟨rfl, rfl⟩)
    | (go_at_call 21; refine (GS _ (by assumption : SdS w b off zs _).1).mono ?_; rintro e w2 ⟨rfl, bel2⟩; have hS2 := SdS.step (by assumption : SdS w b off zs _) hblk bel2; replace hz1 := SgAt.below (w := W1.drew) hz1 hz1.lt bel2))
  clear hS bel2 GN GS
  have hRA : ∀ o1, Row (W2.alloc o1) b off zs := fun o1 => hS2.1.alloc' (Nat.lt_of_lt_of_le hblk hS2.2.2.size) o1
  have m0 : True := trivial
  go_upto_region 30 with (first
    | (go_at_call 22; have m1 : True := m0; clear m0; refine (G_frm _ (hRA _)).mono ?_; rintro e wa ⟨rfl, rfl⟩)
    | (go_at_call 22; have m2 : True := m1; clear m1; refine (G_too _ (hRA _)).mono ?_; rintro e wa ⟨rfl, rfl⟩)
    | (go_at_call 22; have m3 : True := m2; clear m2; refine (G_seq _ (hRA _)).mono ?_; rintro e wa ⟨rfl, rfl⟩)
    | (go_at_call 22; have m4 : True := m3; clear m3; refine (G_ack _ (hRA _)).mono ?_; rintro e wa ⟨rfl, rfl⟩)
    | (go_at_call 22; have m5 : True := m4; clear m4; refine (G_flg _ (hRA _)).mono ?_; rintro e wa ⟨rfl, rfl⟩)
    | (go_at_call 22; have m6 : True := m5; clear m5; refine (G_win _ (hRA _)).mono ?_; rintro e wa ⟨rfl, rfl⟩))
  have hq4 := SgAt.new W2 { frm := x_frm, too := x_too, seq := x_seq, ack := x_ack, win := x_win, flg := x_flg, body := [] } (.slice ad (len - 17) (cap - 17))
  have hz4 := hz1.alloc (.cells #[.int .i64 x_frm, .int .i64 x_too, .int .i64 x_seq, .int .i64 x_ack, .int .i64 x_win, .int .i64 x_flg, .slice ad (len - 17) (cap - 17)] 29)
  have b4 : Below w.heap.size w (W2.alloc (.cells #[.int .i64 x_frm, .int .i64 x_too, .int .i64 x_seq, .int .i64 x_ack, .int .i64 x_win, .int .i64 x_flg, .slice ad (len - 17) (cap - 17)] 29)) := hS2.2.2.alloc hS2.2.2.size _
  have hr4 := hRA (.cells #[.int .i64 x_frm, .int .i64 x_too, .int .i64 x_seq, .int .i64 x_ack, .int .i64 x_win, .int .i64 x_flg, .slice ad (len - 17) (cap - 17)] 29)
  obtain ⟨W4, hW4⟩ : ∃ W4, W2.alloc (.cells #[.int .i64 x_frm, .int .i64 x_too, .int .i64 x_seq, .int .i64 x_ack, .int .i64 x_win, .int .i64 x_flg, .slice ad (len - 17) (cap - 17)] 29) = W4 := ⟨_, rfl⟩
  simp only at hq4
  rw [hW4] at hq4 hz4 b4 hr4 ⊢
  clear hW4 hRA hz1 hS2 G_frm G_too G_seq G_ack G_flg G_win
  obtain ⟨c0, c1, c2, c3, c4, c5, c6⟩ := hq4.cells
  simp only at c0 c1 c2 c3 c4 c5 c6
  obtain ⟨q0, q1, q2, q3, q4, q5, q6⟩ := zero_results hz4
  have f0 := hz4.free 0
  have f1 := hz4.free 1
  have f2 := hz4.free 2
  have f3 := hz4.free 3
  have f4 := hz4.free 4
  have f5 := hz4.free 5
  have f6 := hz4.free 6
  go_wp2_with fail
  obtain ⟨w7, hw7, hp7, ho7⟩ := hz4.store { frm := x_frm, too := x_too, seq := x_seq, ack := x_ack, win := x_win, flg := x_flg, body := [] } (.slice ad (len - 17) (cap - 17))
  simp only at hw7
  rw [hw7]
  have b7 : Below w.heap.size w w7 := ho7.below (Nat.le_refl _) b4
  have hr7 : Row w7 b off zs := ⟨fun j hj => by rw [ho7.cell (p := ⟨b, off + j, none⟩) (by simp; omega)]; exact hr4.1 j hj, hr4.2⟩
  clear hw7 c0 c1 c2 c3 c4 c5 c6 q0 q1 q2 q3 q4 q5 q6 f0 f1 f2 f3 f4 f5 f6 ho7
  obtain ⟨c0, c1, c2, c3, c4, c5, c6⟩ := hp7.cells
  simp only at c0 c1 c2 c3 c4 c5 c6
  refine bodyPost_ret (v := .tuple #[.agg #[.int .i64 x_frm, .int .i64 x_too, .int .i64 x_seq, .int .i64 x_ack, .int .i64 x_win, .int .i64 x_flg, .slice ad (len - 17) (cap - 17)], .int .i64 0]) (by simp [results, Tryd.results6, go_sem, c0, c1, c2, c3, c4, c5, c6]) rfl ⟨.slice ad (len - 17) (cap - 17), ?_, tail_bytes 17 hr7 hl hm HZ.out h0 h4 had, b7⟩
  rw [E_frm.out, E_too.out, E_seq.out, E_ack.out, E_win.out, E_flg.out]
  rfl
end Go.Proofs.YteijbohfakokfacDoor
