/- What Read of package seg returns of bytes that are to be a Stream: the segment, or why they are none. -/
import Derived.Test.YteijbohfakokfacDoorSegRd0
namespace Go.Proofs.YteijbohfakokfacDoor
open Go.RowKit
set_option linter.unusedVariables false

set_option maxRecDepth 100000 in
set_option maxHeartbeats 8000000 in
theorem sgRead1_sum (src dst : Int) (b off len cap : Nat) (zs : List Int) (w : World) (hs : upB src 4294967295 = true) (hd : upB dst 4294967295 = true) (hl : len ≤ cap) (hm : cap ≤ maxLen) (hz : zs.length = len) (hr : Row w b off zs) (h0 : 17 ≤ len) (h4 : len ≤ 4000) (hx : ¬ g2 zs 15 = psum 1 (zs.take 15) (zs.drop 17) src dst) :
    Calls Tryd.prog 18 #[.int .i64 1, .slice (some ⟨b, off, none⟩) len cap, .int .i64 src, .int .i64 dst] w fun e w' => e = .returned (.tuple #[segV zeroS (.slice none 0 0), .iface 52 (.int .i64 9)]) ∧ Below w.heap.size w w' := by
  have hblk := hr.lt (by omega)
  have hS := SdS.start hr hblk
  have hm' := hm
  unfold maxLen at hm'
  have n1 : ¬ cap = 15 := by omega
  have i1 : (15 : Int) ≤ (cap : Int) := by omega
  have i2 : (17 : Int) ≤ (cap : Int) := by omega
  have i3 : (17 : Int) ≤ (len : Int) := by omega
  have i4 : (len : Int) ≤ 4000 := by omega
  have i5 : (len : Int) ≤ (cap : Int) := by omega
  obtain ⟨ad, had⟩ : ∃ ad, (if cap = 17 then some (⟨b, off, none⟩ : Addr) else some ⟨b, off + 17, none⟩) = ad := ⟨_, rfl⟩
  obtain ⟨NS, HN, GN⟩ : ∃ x : Int, Hid (x = g2 zs 15) ∧ Nums b off zs (.slice (some ⟨b, off + 15, none⟩) 2 (cap - 15)) x := ⟨_, rfl, fun W h => num2_any h 15 (cap - 15) (by omega) (by omega) (by unfold maxLen; omega)⟩
  obtain ⟨PS, HS, GS⟩ : ∃ x : Int, Hid (x = psum 1 (zs.take 15) (zs.drop 17) src dst) ∧ Sums 1 src dst b off zs (.slice (some ⟨b, off, none⟩) 15 cap) (.slice ad (len - 17) (cap - 17)) x := ⟨_, rfl, fun W h => sumOf_any 1 src dst _ _ _ _ W (init_bytes 15 h hl hm hz (by omega) h4) (tail_bytes 17 h hl hm hz h0 h4 had) (by simp; omega) (by simp; omega)⟩
  rw [← HN.out, ← HS.out] at hx
  have hne : (NS != PS) = true := by simpa using hx
  have k1 : isK 1 = true := rfl
  have ew : IntKind.i64.wrap (17 - 2) = 15 := by decide
  have ew' : IntKind.i64.wrap 15 = 15 := by decide
  have HR : Hid (Row w b off zs) := hr
  have HZ : Hid (zs.length = len) := hz
  clear hr hx hz
  go_enter Tryd.func18, Tryd.ntmps18
  go_upto_region 8 with (first
    | (go_at_call 35; refine (isKind_any _ _).mono ?_; rintro e w' ⟨rfl, rfl⟩)
    | (go_at_call 36; refine (sgAddr_any _ _).mono ?_; rintro e w' ⟨rfl, rfl⟩)
    | (go_at_call 37; refine (head1 _).mono ?_; rintro e w' ⟨rfl, rfl⟩))
  have hz1 := SgAt.zero w
  obtain ⟨W1, hW1⟩ : ∃ W1, w.alloc (.cells #[.int .i64 0, .int .i64 0, .int .i64 0, .int .i64 0, .int .i64 0, .int .i64 0, .slice none 0 0] 29) = W1 := ⟨_, rfl⟩
  rw [hW1] at hS hz1 ⊢
  clear hW1
  go_region_held3 (fun w' => SdS w b off zs w') (with_reducible first | assumption | exact SdS.drew (by assumption)) (first
    | (go_at_call 38; refine (GN _ (by assumption : SdS w b off zs _).1).mono ?_; rintro e w' ⟨rfl, rfl⟩)
    | (go_at_call 33; refine (GS _ (by assumption : SdS w b off zs _).1).mono ?_; rintro e w2 ⟨rfl, bel2⟩; have hS2 := SdS.step (by assumption : SdS w b off zs _) hblk bel2; replace hz1 := SgAt.below (w := W1.drew) hz1 hz1.lt bel2))
  clear hS bel2 GN GS
  obtain ⟨c0, c1, c2, c3, c4, c5, c6⟩ := zero_results hz1
  have f0 := hz1.free 0
  have f1 := hz1.free 1
  have f2 := hz1.free 2
  have f3 := hz1.free 3
  have f4 := hz1.free 4
  have f5 := hz1.free 5
  have f6 := hz1.free 6
  go_wp2_with fail
  obtain ⟨w3, hw3, hp3, ho3⟩ := hz1.wipe
  rw [hw3]
  have bw3 : Below w.heap.size w w3 := ho3.below (Nat.le_refl _) hS2.2.2
  clear c0 c1 c2 c3 c4 c5 c6 f0 f1 f2 f3 f4 f5 f6 hw3
  obtain ⟨c0, c1, c2, c3, c4, c5, c6⟩ := zero_results hp3
  exact bodyPost_ret (v := .tuple #[segV zeroS (.slice none 0 0), .iface 52 (.int .i64 9)]) (by simp [results, Tryd.results18, go_sem, segV, zeroS, c0, c1, c2, c3, c4, c5, c6]) rfl ⟨rfl, bw3⟩
set_option maxRecDepth 100000 in
set_option maxHeartbeats 8000000 in
theorem sgRead1_from (src dst : Int) (b off len cap : Nat) (zs : List Int) (w : World) (hs : upB src 4294967295 = true) (hd : upB dst 4294967295 = true) (hl : len ≤ cap) (hm : cap ≤ maxLen) (hz : zs.length = len) (hr : Row w b off zs) (h0 : 17 ≤ len) (h4 : len ≤ 4000) (hx : g2 zs 15 = psum 1 (zs.take 15) (zs.drop 17) src dst) (hy : 15 < zs.getD 12 0) :
    Calls Tryd.prog 18 #[.int .i64 1, .slice (some ⟨b, off, none⟩) len cap, .int .i64 src, .int .i64 dst] w fun e w' => e = .returned (.tuple #[segV zeroS (.slice none 0 0), .iface 52 (.int .i64 1)]) ∧ Below w.heap.size w w' := by
  have hblk := hr.lt (by omega)
  have hS := SdS.start hr hblk
  have hm' := hm
  unfold maxLen at hm'
  have n1 : ¬ cap = 15 := by omega
  have i1 : (15 : Int) ≤ (cap : Int) := by omega
  have i2 : (17 : Int) ≤ (cap : Int) := by omega
  have i3 : (17 : Int) ≤ (len : Int) := by omega
  have i4 : (len : Int) ≤ 4000 := by omega
  have i5 : (len : Int) ≤ (cap : Int) := by omega
  obtain ⟨ad, had⟩ : ∃ ad, (if cap = 17 then some (⟨b, off, none⟩ : Addr) else some ⟨b, off + 17, none⟩) = ad := ⟨_, rfl⟩
  obtain ⟨NS, HN, GN⟩ : ∃ x : Int, Hid (x = g2 zs 15) ∧ Nums b off zs (.slice (some ⟨b, off + 15, none⟩) 2 (cap - 15)) x := ⟨_, rfl, fun W h => num2_any h 15 (cap - 15) (by omega) (by omega) (by unfold maxLen; omega)⟩
  obtain ⟨PS, HS, GS⟩ : ∃ x : Int, Hid (x = psum 1 (zs.take 15) (zs.drop 17) src dst) ∧ Sums 1 src dst b off zs (.slice (some ⟨b, off, none⟩) 15 cap) (.slice ad (len - 17) (cap - 17)) x := ⟨_, rfl, fun W h => sumOf_any 1 src dst _ _ _ _ W (init_bytes 15 h hl hm hz (by omega) h4) (tail_bytes 17 h hl hm hz h0 h4 had) (by simp; omega) (by simp; omega)⟩
  rw [← HN.out, ← HS.out] at hx
  have hne : (NS != PS) = false := by simp [hx]
  have k1 : isK 1 = true := rfl
  have ew : IntKind.i64.wrap (17 - 2) = 15 := by decide
  have ew' : IntKind.i64.wrap 15 = 15 := by decide
  have HR : Hid (Row w b off zs) := hr
  have HZ : Hid (zs.length = len) := hz
  obtain ⟨x_frm, E_frm⟩ : ∃ x : Int, Hid (x = g2 zs 0) := ⟨_, rfl⟩
  obtain ⟨x_too, E_too⟩ : ∃ x : Int, Hid (x = g2 zs 2) := ⟨_, rfl⟩
  obtain ⟨x_seq, E_seq⟩ : ∃ x : Int, Hid (x = g4 zs 4) := ⟨_, rfl⟩
  obtain ⟨x_ack, E_ack⟩ : ∃ x : Int, Hid (x = g4 zs 8) := ⟨_, rfl⟩
  obtain ⟨x_win, E_win⟩ : ∃ x : Int, Hid (x = g2 zs 13) := ⟨_, rfl⟩
  obtain ⟨x_flg, E_flg⟩ : ∃ x : Int, Hid (x = zs.getD 12 0) := ⟨_, rfl⟩
  have FF : ∀ W : World, Row W b off zs → Calls Tryd.prog 39 #[.int .i64 1, .slice (some ⟨b, off, none⟩) len cap] W fun e w' => e = .returned (.tuple #[.agg #[.int .i64 x_frm, .int .i64 x_too, .int .i64 x_seq, .int .i64 x_ack, .int .i64 x_win, .int .i64 x_flg, .slice none 0 0], .int .i64 0]) ∧ Below W.heap.size W w' := by
    intro W h
    rw [E_frm.out, E_too.out, E_seq.out, E_ack.out, E_win.out, E_flg.out]
    exact fields1 b off len cap zs W hl hm hz h0 h
  rw [← E_flg.out] at hy
  have r0 : frmB 1 x_frm = true := by
    have a0 := getD_byte (by omega : 0 < zs.length) hr.2
    have a1 := getD_byte (by omega : 0 + 1 < zs.length) hr.2
    show upB x_frm 65535 = true
    rw [E_frm.out]; unfold g2; exact upB_yes (by omega) (by omega)
  clear hr hx hz
  go_enter Tryd.func18, Tryd.ntmps18
  go_upto_region 8 with (first
    | (go_at_call 35; refine (isKind_any _ _).mono ?_; rintro e w' ⟨rfl, rfl⟩)
    | (go_at_call 36; refine (sgAddr_any _ _).mono ?_; rintro e w' ⟨rfl, rfl⟩)
    | (go_at_call 37; refine (head1 _).mono ?_; rintro e w' ⟨rfl, rfl⟩))
  have hz1 := SgAt.zero w
  obtain ⟨W1, hW1⟩ : ∃ W1, w.alloc (.cells #[.int .i64 0, .int .i64 0, .int .i64 0, .int .i64 0, .int .i64 0, .int .i64 0, .slice none 0 0] 29) = W1 := ⟨_, rfl⟩
  rw [hW1] at hS hz1 ⊢
  clear hW1
  go_region_held3 (fun w' => SdS w b off zs w') (with_reducible first | assumption | exact SdS.drew (by assumption)) (first
    | (go_at_call 38; refine (GN _ (by assumption : SdS w b off zs _).1).mono ?_; rintro e w' ⟨rfl, rfl⟩)
    | (go_at_call 33; refine (GS _ (by assumption : SdS w b off zs _).1).mono ?_; rintro e w2 ⟨rfl, bel2⟩; have hS2 := SdS.step (by assumption : SdS w b off zs _) hblk bel2; replace hz1 := SgAt.below (w := W1.drew) hz1 hz1.lt bel2))
  clear hS bel2 GN GS
  have hF := FF w2 hS2.1
  clear FF
  go_upto_region 11 with (go_at_call 39; refine hF.mono ?_; rintro e w3 ⟨rfl, bel3⟩)
  have hz3 := hz1.below hz1.lt bel3
  have hS3 := SdS.step hS2 hblk bel3
  have hlt3 := hz3.lt
  have hz4 := hz3.alloc (.cells #[.int .i64 x_frm, .int .i64 x_too, .int .i64 x_seq, .int .i64 x_ack, .int .i64 x_win, .int .i64 x_flg, .slice none 0 0] 29)
  have hr4 := hS3.1.alloc' (Nat.lt_of_lt_of_le hblk hS3.2.2.size) (.cells #[.int .i64 x_frm, .int .i64 x_too, .int .i64 x_seq, .int .i64 x_ack, .int .i64 x_win, .int .i64 x_flg, .slice none 0 0] 29)
  have b4 : Below w.heap.size w (w3.alloc (.cells #[.int .i64 x_frm, .int .i64 x_too, .int .i64 x_seq, .int .i64 x_ack, .int .i64 x_win, .int .i64 x_flg, .slice none 0 0] 29)) := hS3.2.2.alloc hS3.2.2.size _
  have hq4 := SgAt.new w3 { frm := x_frm, too := x_too, seq := x_seq, ack := x_ack, win := x_win, flg := x_flg, body := [] } (.slice none 0 0)
  obtain ⟨W4, hW4⟩ : ∃ W4, w3.alloc (.cells #[.int .i64 x_frm, .int .i64 x_too, .int .i64 x_seq, .int .i64 x_ack, .int .i64 x_win, .int .i64 x_flg, .slice none 0 0] 29) = W4 := ⟨_, rfl⟩
  simp only at hq4
  rw [hW4] at hz4 hr4 b4 hq4 ⊢
  obtain ⟨G, hG⟩ : ∃ G, G = w3.heap.size := ⟨_, rfl⟩
  rw [← hG] at hq4 hlt3 ⊢
  clear hW4 hG hz3 hS3 hz1 hS2 bel3 hF
  have hltG := hq4.lt
  obtain ⟨c0, c1, c2, c3, c4, c5, c6⟩ := hq4.cells
  simp only at c0 c1 c2 c3 c4 c5 c6
  obtain ⟨q0, q1, q2, q3, q4, q5, q6⟩ := zero_results hz4
  have f0 := hz4.free 0
  have f1 := hz4.free 1
  have f2 := hz4.free 2
  have f3 := hz4.free 3
  have f4 := hz4.free 4
  have f5 := hz4.free 5
  have f6 := hz4.free 6
  go_wp2_with (go_at_call 40; refine (fromFits_any _ _ _).mono ?_; rintro e W4 ⟨rfl, rfl⟩)
  obtain ⟨w5, hw5, hp5, ho5⟩ := hz4.wipe
  rw [hw5]
  have bw5 : Below w.heap.size w w5 := ho5.below (Nat.le_refl _) b4
  clear c0 c1 c2 c3 c4 c5 c6 q0 q1 q2 q3 q4 q5 q6 f0 f1 f2 f3 f4 f5 f6 hw5
  obtain ⟨c0, c1, c2, c3, c4, c5, c6⟩ := zero_results hp5
  exact bodyPost_ret (v := .tuple #[segV zeroS (.slice none 0 0), .iface 52 (.int .i64 1)]) (by simp [results, Tryd.results18, go_sem, segV, zeroS, c0, c1, c2, c3, c4, c5, c6]) rfl ⟨rfl, bw5⟩
set_option maxRecDepth 100000 in
set_option maxHeartbeats 8000000 in
theorem sgRead1_ok (src dst : Int) (b off len cap : Nat) (zs : List Int) (w : World) (hs : upB src 4294967295 = true) (hd : upB dst 4294967295 = true) (hl : len ≤ cap) (hm : cap ≤ maxLen) (hz : zs.length = len) (hr : Row w b off zs) (h0 : 17 ≤ len) (h4 : len ≤ 4000) (hx : g2 zs 15 = psum 1 (zs.take 15) (zs.drop 17) src dst) (hy : ¬ 15 < zs.getD 12 0) :
    Calls Tryd.prog 18 #[.int .i64 1, .slice (some ⟨b, off, none⟩) len cap, .int .i64 src, .int .i64 dst] w fun e w' => ∃ bv, e = .returned (.tuple #[segV (fldS 1 zs) bv, .nilIface]) ∧ Bytes w' bv (zs.drop 17) ∧ Below w.heap.size w w' := by
  have hblk := hr.lt (by omega)
  have hS := SdS.start hr hblk
  have hm' := hm
  unfold maxLen at hm'
  have n1 : ¬ cap = 15 := by omega
  have i1 : (15 : Int) ≤ (cap : Int) := by omega
  have i2 : (17 : Int) ≤ (cap : Int) := by omega
  have i3 : (17 : Int) ≤ (len : Int) := by omega
  have i4 : (len : Int) ≤ 4000 := by omega
  have i5 : (len : Int) ≤ (cap : Int) := by omega
  obtain ⟨ad, had⟩ : ∃ ad, (if cap = 17 then some (⟨b, off, none⟩ : Addr) else some ⟨b, off + 17, none⟩) = ad := ⟨_, rfl⟩
  obtain ⟨NS, HN, GN⟩ : ∃ x : Int, Hid (x = g2 zs 15) ∧ Nums b off zs (.slice (some ⟨b, off + 15, none⟩) 2 (cap - 15)) x := ⟨_, rfl, fun W h => num2_any h 15 (cap - 15) (by omega) (by omega) (by unfold maxLen; omega)⟩
  obtain ⟨PS, HS, GS⟩ : ∃ x : Int, Hid (x = psum 1 (zs.take 15) (zs.drop 17) src dst) ∧ Sums 1 src dst b off zs (.slice (some ⟨b, off, none⟩) 15 cap) (.slice ad (len - 17) (cap - 17)) x := ⟨_, rfl, fun W h => sumOf_any 1 src dst _ _ _ _ W (init_bytes 15 h hl hm hz (by omega) h4) (tail_bytes 17 h hl hm hz h0 h4 had) (by simp; omega) (by simp; omega)⟩
  rw [← HN.out, ← HS.out] at hx
  have hne : (NS != PS) = false := by simp [hx]
  have k1 : isK 1 = true := rfl
  have ew : IntKind.i64.wrap (17 - 2) = 15 := by decide
  have ew' : IntKind.i64.wrap 15 = 15 := by decide
  have HR : Hid (Row w b off zs) := hr
  have HZ : Hid (zs.length = len) := hz
  obtain ⟨x_frm, E_frm⟩ : ∃ x : Int, Hid (x = g2 zs 0) := ⟨_, rfl⟩
  obtain ⟨x_too, E_too⟩ : ∃ x : Int, Hid (x = g2 zs 2) := ⟨_, rfl⟩
  obtain ⟨x_seq, E_seq⟩ : ∃ x : Int, Hid (x = g4 zs 4) := ⟨_, rfl⟩
  obtain ⟨x_ack, E_ack⟩ : ∃ x : Int, Hid (x = g4 zs 8) := ⟨_, rfl⟩
  obtain ⟨x_win, E_win⟩ : ∃ x : Int, Hid (x = g2 zs 13) := ⟨_, rfl⟩
  obtain ⟨x_flg, E_flg⟩ : ∃ x : Int, Hid (x = zs.getD 12 0) := ⟨_, rfl⟩
  have FF : ∀ W : World, Row W b off zs → Calls Tryd.prog 39 #[.int .i64 1, .slice (some ⟨b, off, none⟩) len cap] W fun e w' => e = .returned (.tuple #[.agg #[.int .i64 x_frm, .int .i64 x_too, .int .i64 x_seq, .int .i64 x_ack, .int .i64 x_win, .int .i64 x_flg, .slice none 0 0], .int .i64 0]) ∧ Below W.heap.size W w' := by
    intro W h
    rw [E_frm.out, E_too.out, E_seq.out, E_ack.out, E_win.out, E_flg.out]
    exact fields1 b off len cap zs W hl hm hz h0 h
  rw [← E_flg.out] at hy
  have r0 : frmB 1 x_frm = true := by
    have a0 := getD_byte (by omega : 0 < zs.length) hr.2
    have a1 := getD_byte (by omega : 0 + 1 < zs.length) hr.2
    show upB x_frm 65535 = true
    rw [E_frm.out]; unfold g2; exact upB_yes (by omega) (by omega)
  clear hr hx hz
  go_enter Tryd.func18, Tryd.ntmps18
  go_upto_region 8 with (first
    | (go_at_call 35; refine (isKind_any _ _).mono ?_; rintro e w' ⟨rfl, rfl⟩)
    | (go_at_call 36; refine (sgAddr_any _ _).mono ?_; rintro e w' ⟨rfl, rfl⟩)
    | (go_at_call 37; refine (head1 _).mono ?_; rintro e w' ⟨rfl, rfl⟩))
  have hz1 := SgAt.zero w
  obtain ⟨W1, hW1⟩ : ∃ W1, w.alloc (.cells #[.int .i64 0, .int .i64 0, .int .i64 0, .int .i64 0, .int .i64 0, .int .i64 0, .slice none 0 0] 29) = W1 := ⟨_, rfl⟩
  rw [hW1] at hS hz1 ⊢
  clear hW1
  go_region_held3 (fun w' => SdS w b off zs w') (with_reducible first | assumption | exact SdS.drew (by assumption)) (first
    | (go_at_call 38; refine (GN _ (by assumption : SdS w b off zs _).1).mono ?_; rintro e w' ⟨rfl, rfl⟩)
    | (go_at_call 33; refine (GS _ (by assumption : SdS w b off zs _).1).mono ?_; rintro e w2 ⟨rfl, bel2⟩; have hS2 := SdS.step (by assumption : SdS w b off zs _) hblk bel2; replace hz1 := SgAt.below (w := W1.drew) hz1 hz1.lt bel2))
  clear hS bel2 GN GS
  have hF := FF w2 hS2.1
  clear FF
  go_upto_region 11 with (go_at_call 39; refine hF.mono ?_; rintro e w3 ⟨rfl, bel3⟩)
  have hz3 := hz1.below hz1.lt bel3
  have hS3 := SdS.step hS2 hblk bel3
  have hlt3 := hz3.lt
  have hz4 := hz3.alloc (.cells #[.int .i64 x_frm, .int .i64 x_too, .int .i64 x_seq, .int .i64 x_ack, .int .i64 x_win, .int .i64 x_flg, .slice none 0 0] 29)
  have hr4 := hS3.1.alloc' (Nat.lt_of_lt_of_le hblk hS3.2.2.size) (.cells #[.int .i64 x_frm, .int .i64 x_too, .int .i64 x_seq, .int .i64 x_ack, .int .i64 x_win, .int .i64 x_flg, .slice none 0 0] 29)
  have b4 : Below w.heap.size w (w3.alloc (.cells #[.int .i64 x_frm, .int .i64 x_too, .int .i64 x_seq, .int .i64 x_ack, .int .i64 x_win, .int .i64 x_flg, .slice none 0 0] 29)) := hS3.2.2.alloc hS3.2.2.size _
  have hq4 := SgAt.new w3 { frm := x_frm, too := x_too, seq := x_seq, ack := x_ack, win := x_win, flg := x_flg, body := [] } (.slice none 0 0)
  obtain ⟨W4, hW4⟩ : ∃ W4, w3.alloc (.cells #[.int .i64 x_frm, .int .i64 x_too, .int .i64 x_seq, .int .i64 x_ack, .int .i64 x_win, .int .i64 x_flg, .slice none 0 0] 29) = W4 := ⟨_, rfl⟩
  simp only at hq4
  rw [hW4] at hz4 hr4 b4 hq4 ⊢
  obtain ⟨G, hG⟩ : ∃ G, G = w3.heap.size := ⟨_, rfl⟩
  rw [← hG] at hq4 hlt3 ⊢
  clear hW4 hG hz3 hS3 hz1 hS2 bel3 hF
  have hltG := hq4.lt
  obtain ⟨c0, c1, c2, c3, c4, c5, c6⟩ := hq4.cells
  simp only at c0 c1 c2 c3 c4 c5 c6
  go_upto_region 15 with (go_at_call 40; refine (fromFits_any _ _ _).mono ?_; rintro e W4 ⟨rfl, rfl⟩)
  clear c0 c1 c2 c3 c4 c5 c6
  have htl := tail_bytes 17 hr4 hl hm HZ.out h0 h4 had
  have hll : (zs.drop 17).length ≤ 4000 := by rw [List.length_drop, HZ.out]; omega
  go_upto_region 16 with (at_builtin; refine wpList_append_bytes rfl (.const (.slice none 0 0)) (.tmp 85) rfl W4.heap.size _ [] rfl (OwnB.nil _ _) _ (zs.drop 17) rfl htl (by simp only [List.length_nil]; omega) (Nat.le_refl _) ?_; intro v5 w5 o5 g5; have bg5 : Below W4.heap.size W4 w5 := (Below.refl _ _).grown g5 (Nat.le_refl _) (fun k hk => by cases hk); have hq5 := hq4.below hltG bg5; obtain ⟨a5, l5, k5, rfl⟩ := o5.slice; have c6 := hq5.cells.2.2.2.2.2.2; have f6 := hq5.free 6)
  obtain ⟨w6, hw6, hq6, ho6⟩ := hq5.storeB (.slice a5 l5 k5)
  rw [hw6]
  have hz6 := (hz4.below hz4.lt bg5).only (by omega) ho6
  have b6 : Below w.heap.size w w6 := ho6.below (by omega) (b4.trans (bg5.mono b4.size))
  have o6 := o5.only hltG ho6
  clear hw6 c6 f6 hq5 ho6 bg5 o5 g5 htl
  obtain ⟨c0, c1, c2, c3, c4, c5, c6⟩ := hq6.cells
  simp only at c0 c1 c2 c3 c4 c5 c6
  obtain ⟨q0, q1, q2, q3, q4, q5, q6⟩ := zero_results hz6
  have f0 := hz6.free 0
  have f1 := hz6.free 1
  have f2 := hz6.free 2
  have f3 := hz6.free 3
  have f4 := hz6.free 4
  have f5 := hz6.free 5
  have f6 := hz6.free 6
  go_wp2_with fail
  obtain ⟨w7, hw7, hp7, ho7⟩ := hz6.store { frm := x_frm, too := x_too, seq := x_seq, ack := x_ack, win := x_win, flg := x_flg, body := [] } (.slice a5 l5 k5)
  simp only at hw7
  rw [hw7]
  have b7 : Below w.heap.size w w7 := ho7.below (Nat.le_refl _) b6
  have o7 := o6.only (by omega) ho7
  clear hw7 c0 c1 c2 c3 c4 c5 c6 q0 q1 q2 q3 q4 q5 q6 f0 f1 f2 f3 f4 f5 f6 hq6 hz6 ho7
  obtain ⟨c0, c1, c2, c3, c4, c5, c6⟩ := hp7.cells
  simp only at c0 c1 c2 c3 c4 c5 c6
  refine bodyPost_ret (v := .tuple #[.agg #[.int .i64 x_frm, .int .i64 x_too, .int .i64 x_seq, .int .i64 x_ack, .int .i64 x_win, .int .i64 x_flg, .slice a5 l5 k5], .nilIface]) (by simp [results, Tryd.results18, go_sem, c0, c1, c2, c3, c4, c5, c6]) rfl ⟨.slice a5 l5 k5, ?_, by rw [List.nil_append] at o7; exact o7.bytes (by omega), b7⟩
  rw [E_frm.out, E_too.out, E_seq.out, E_ack.out, E_win.out, E_flg.out]
  rfl
end Go.Proofs.YteijbohfakokfacDoor
