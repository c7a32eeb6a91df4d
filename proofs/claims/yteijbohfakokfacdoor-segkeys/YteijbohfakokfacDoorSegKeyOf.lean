/- What KeyOf of package seg returns, for every packet: the key, the segment, or why it has none. -/
import Derived.Test.YteijbohfakokfacDoorSegKo
namespace Go.Proofs.YteijbohfakokfacDoor
open Go.RowKit
set_option linter.unusedVariables false

set_option maxRecDepth 100000 in
set_option maxHeartbeats 8000000 in
theorem keyOf_check (p : Pk) (a : Option Addr) (l c : Nat) (w : World) (hb : Bytes w (.slice a l c) p.body) (he : ¬ pkErr p = 0) :
    Calls Tryd.prog 7 #[pkV p (.slice a l c)] w fun e w' => e = .returned (.tuple #[keyV zeroY, segV zeroS (.slice none 0 0), .iface 52 (.int .i64 (pkErr p))]) ∧ Below w.heap.size w w' := by
  have h0 := Ko.start w p (.slice a l c)
  have hc := check_any p _ _ (hb.below (Nat.le_refl _) h0.below)
  rw [errV_no he] at hc
  generalize pkErr p = e0 at hc ⊢
  unfold pkV at *
  clear he hb
  go_enter Tryd.func7, Tryd.ntmps7
  go_upto_region 3 with (go_at_call 23; refine hc.mono ?_; rintro e w1 ⟨rfl, bw1⟩)
  have h1 := h0.step bw1
  clear h0 bw1 hc
  obtain ⟨q0, q1, q2, q3, q4⟩ := zero_keys h1.ky
  have f0 := h1.ky.free 0
  have f1 := h1.ky.free 1
  have f2 := h1.ky.free 2
  have f3 := h1.ky.free 3
  have f4 := h1.ky.free 4
  obtain ⟨s0, s1, s2, s3, s4, s5, s6⟩ := zero_results h1.sg
  have g0 := h1.sg.free 0
  have g1 := h1.sg.free 1
  have g2 := h1.sg.free 2
  have g3 := h1.sg.free 3
  have g4 := h1.sg.free 4
  have g5 := h1.sg.free 5
  have g6 := h1.sg.free 6
  go_wp2_with fail
  obtain ⟨w2, hw2, k2, o2⟩ := h1.ky.wipe
  rw [hw2]
  have z2 := h1.sg.only (by omega) o2
  obtain ⟨w3, hw3, z3, o3⟩ := z2.wipe
  rw [hw3]
  have k3 := k2.only (by omega) o3
  have b3 : Below w.heap.size w w3 := o3.below (by omega) (o2.below (by omega) h1.below)
  clear q0 q1 q2 q3 q4 f0 f1 f2 f3 f4 s0 s1 s2 s3 s4 s5 s6 g0 g1 g2 g3 g4 g5 g6 hw2 hw3
  obtain ⟨q0, q1, q2, q3, q4⟩ := zero_keys k3
  obtain ⟨s0, s1, s2, s3, s4, s5, s6⟩ := zero_results z3
  exact bodyPost_ret (v := .tuple #[keyV zeroY, segV zeroS (.slice none 0 0), .iface 52 (.int .i64 e0)]) (by simp [results, Tryd.results7, go_sem, keyV, segV, zeroS, zeroY, q0, q1, q2, q3, q4, s0, s1, s2, s3, s4, s5, s6]) rfl ⟨rfl, b3⟩
set_option maxRecDepth 100000 in
set_option maxHeartbeats 8000000 in
theorem keyOf_piece (p : Pk) (a : Option Addr) (l c : Nat) (w : World) (hb : Bytes w (.slice a l c) p.body) (he : pkErr p = 0) (hq : ¬ p.pos = 0 ∨ p.more = true) :
    Calls Tryd.prog 7 #[pkV p (.slice a l c)] w fun e w' => e = .returned (.tuple #[keyV zeroY, segV zeroS (.slice none 0 0), .iface 52 (.int .i64 3)]) ∧ Below w.heap.size w w' := by
  have h0 := Ko.start w p (.slice a l c)
  have hc := check_any p _ _ (hb.below (Nat.le_refl _) h0.below)
  rw [he, errV_ok] at hc
  have hq' : (p.pos != 0) = true ∨ ((p.pos != 0) = false ∧ p.more = true) := by
    rcases hp : (p.pos != 0) with _ | _
    · refine .inr ⟨rfl, ?_⟩
      rcases hq with h | h
      · simp at hp; omega
      · exact h
    · exact .inl rfl
  unfold pkV at *
  clear he hb hq
  have HQ : Hid ((p.pos != 0) = true ∨ ((p.pos != 0) = false ∧ p.more = true)) := hq'
  clear hq'
  go_enter Tryd.func7, Tryd.ntmps7
  go_upto_region 4 with (go_at_call 23; refine hc.mono ?_; rintro e w1 ⟨rfl, bw1⟩)
  have h1 := h0.step bw1
  clear h0 bw1 hc
  rcases HQ.out with hn | ⟨hn, hm⟩
  all_goals
    obtain ⟨p0, p1, p2, p3, p4, p5, p6, p7⟩ := h1.pk.cells
    obtain ⟨q0, q1, q2, q3, q4⟩ := zero_keys h1.ky
    have f0 := h1.ky.free 0
    have f1 := h1.ky.free 1
    have f2 := h1.ky.free 2
    have f3 := h1.ky.free 3
    have f4 := h1.ky.free 4
    obtain ⟨s0, s1, s2, s3, s4, s5, s6⟩ := zero_results h1.sg
    have g0 := h1.sg.free 0
    have g1 := h1.sg.free 1
    have g2 := h1.sg.free 2
    have g3 := h1.sg.free 3
    have g4 := h1.sg.free 4
    have g5 := h1.sg.free 5
    have g6 := h1.sg.free 6
    go_wp2_with fail
    obtain ⟨w2, hw2, k2, o2⟩ := h1.ky.wipe
    rw [hw2]
    have z2 := h1.sg.only (by omega) o2
    obtain ⟨w3, hw3, z3, o3⟩ := z2.wipe
    rw [hw3]
    have k3 := k2.only (by omega) o3
    have b3 : Below w.heap.size w w3 := o3.below (by omega) (o2.below (by omega) h1.below)
    clear p0 p1 p2 p3 p4 p5 p6 p7 q0 q1 q2 q3 q4 f0 f1 f2 f3 f4 s0 s1 s2 s3 s4 s5 s6 g0 g1 g2 g3 g4 g5 g6 hw2 hw3
    obtain ⟨q0, q1, q2, q3, q4⟩ := zero_keys k3
    obtain ⟨s0, s1, s2, s3, s4, s5, s6⟩ := zero_results z3
    exact bodyPost_ret (v := .tuple #[keyV zeroY, segV zeroS (.slice none 0 0), .iface 52 (.int .i64 3)]) (by simp [results, Tryd.results7, go_sem, keyV, segV, zeroS, zeroY, q0, q1, q2, q3, q4, s0, s1, s2, s3, s4, s5, s6]) rfl ⟨rfl, b3⟩
set_option maxRecDepth 100000 in
set_option maxHeartbeats 8000000 in
theorem keyOf_read (p : Pk) (a : Option Addr) (l c : Nat) (w : World) (hb : Bytes w (.slice a l c) p.body) (he : pkErr p = 0) (hq : p.pos = 0) (hm : p.more = false) (hx : ¬ rdErr p.kind p.body p.src p.dst = 0) :
    Calls Tryd.prog 7 #[pkV p (.slice a l c)] w fun e w' => e = .returned (.tuple #[keyV zeroY, segV zeroS (.slice none 0 0), .iface 52 (.int .i64 (rdErr p.kind p.body p.src p.dst))]) ∧ Below w.heap.size w w' := by
  have h0 := Ko.start w p (.slice a l c)
  have hc := check_any p _ _ (hb.below (Nat.le_refl _) h0.below)
  rw [he, errV_ok] at hc
  have hn : (p.pos != 0) = false := by simp [hq]
  have HM : Hid (p.more = false) := hm
  have HN : Hid ((p.pos != 0) = false) := hn
  clear hm hn
  have HB : Hid (Bytes w (.slice a l c) p.body) := hb
  have HX : Hid (¬ rdErr p.kind p.body p.src p.dst = 0) := hx
  obtain ⟨e0, HE⟩ : ∃ e0, Hid (e0 = rdErr p.kind p.body p.src p.dst) := ⟨_, rfl⟩
  rw [← HE.out]
  unfold pkV at *
  clear he hb hq hx
  go_enter Tryd.func7, Tryd.ntmps7
  go_upto_region 4 with (go_at_call 23; refine hc.mono ?_; rintro e w1 ⟨rfl, bw1⟩)
  have h1 := h0.step bw1
  clear h0 bw1 hc
  have hm := HM.out
  have hn := HN.out
  obtain ⟨p0, p1, p2, p3, p4, p5, p6, p7⟩ := h1.pk.cells
  have hr := sgRead_any p.kind p.src p.dst (.slice a l c) p.body w1 (HB.out.below (Nat.le_refl _) h1.below)
  have hr' : Calls Tryd.prog 18 #[.int .i64 p.kind, .slice a l c, .int .i64 p.src, .int .i64 p.dst] w1 fun e w' => ∃ a c, e = .returned (.tuple #[.agg #[.int .i64 0, .int .i64 0, .int .i64 0, .int .i64 0, .int .i64 0, .int .i64 0, .slice a 0 c], .iface 52 (.int .i64 e0)]) ∧ Below w1.heap.size w1 w' := by
    rw [HE.out]
    exact hr.mono fun e w' h => reads_err h HX.out
  clear hr HX
  go_upto_region 8 with (go_at_call 18; refine hr'.mono ?_; rintro e w2 ⟨a2, c2, rfl, bw2⟩)
  have h2 := (h1.step bw2).alloc (.cells #[.int .i64 0, .int .i64 0, .int .i64 0, .int .i64 0, .int .i64 0, .int .i64 0, .slice a2 0 c2] 29)
  obtain ⟨W2, hW2⟩ : ∃ W2, w2.alloc (.cells #[.int .i64 0, .int .i64 0, .int .i64 0, .int .i64 0, .int .i64 0, .int .i64 0, .slice a2 0 c2] 29) = W2 := ⟨_, rfl⟩
  rw [hW2] at h2 ⊢
  clear hW2 h1 bw2 hr' p0 p1 p2 p3 p4 p5 p6 p7
  obtain ⟨q0, q1, q2, q3, q4⟩ := zero_keys h2.ky
  have f0 := h2.ky.free 0
  have f1 := h2.ky.free 1
  have f2 := h2.ky.free 2
  have f3 := h2.ky.free 3
  have f4 := h2.ky.free 4
  obtain ⟨s0, s1, s2, s3, s4, s5, s6⟩ := zero_results h2.sg
  have g0 := h2.sg.free 0
  have g1 := h2.sg.free 1
  have g2 := h2.sg.free 2
  have g3 := h2.sg.free 3
  have g4 := h2.sg.free 4
  have g5 := h2.sg.free 5
  have g6 := h2.sg.free 6
  go_wp2_with fail
  obtain ⟨w3, hw3, k3, o3⟩ := h2.ky.wipe
  rw [hw3]
  have z3 := h2.sg.only (by omega) o3
  obtain ⟨w4, hw4, z4, o4⟩ := z3.wipe
  rw [hw4]
  have k4 := k3.only (by omega) o4
  have b4 : Below w.heap.size w w4 := o4.below (by omega) (o3.below (by omega) h2.below)
  clear q0 q1 q2 q3 q4 f0 f1 f2 f3 f4 s0 s1 s2 s3 s4 s5 s6 g0 g1 g2 g3 g4 g5 g6 hw3 hw4
  obtain ⟨q0, q1, q2, q3, q4⟩ := zero_keys k4
  obtain ⟨s0, s1, s2, s3, s4, s5, s6⟩ := zero_results z4
  exact bodyPost_ret (v := .tuple #[keyV zeroY, segV zeroS (.slice none 0 0), .iface 52 (.int .i64 e0)]) (by simp [results, Tryd.results7, go_sem, keyV, segV, zeroS, zeroY, q0, q1, q2, q3, q4, s0, s1, s2, s3, s4, s5, s6]) rfl ⟨rfl, b4⟩
set_option maxRecDepth 100000 in
set_option maxHeartbeats 8000000 in
theorem keyOf_ok (p : Pk) (a : Option Addr) (l c : Nat) (w : World) (hb : Bytes w (.slice a l c) p.body) (he : pkErr p = 0) (hq : p.pos = 0) (hm : p.more = false) (hx : rdErr p.kind p.body p.src p.dst = 0) :
    Calls Tryd.prog 7 #[pkV p (.slice a l c)] w fun e w' => ∃ bs, e = .returned (.tuple #[keyV (mkY p (fldS p.kind p.body)), segV (fldS p.kind p.body) bs, .nilIface]) ∧ Bytes w' bs (fldS p.kind p.body).body ∧ Below w.heap.size w w' := by
  have h0 := Ko.start w p (.slice a l c)
  have hc := check_any p _ _ (hb.below (Nat.le_refl _) h0.below)
  rw [he, errV_ok] at hc
  have hn : (p.pos != 0) = false := by simp [hq]
  have HM : Hid (p.more = false) := hm
  have HN : Hid ((p.pos != 0) = false) := hn
  clear hm hn
  have HB : Hid (Bytes w (.slice a l c) p.body) := hb
  have HX : Hid (rdErr p.kind p.body p.src p.dst = 0) := hx
  obtain ⟨s, HS⟩ : ∃ s, Hid (s = fldS p.kind p.body) := ⟨_, rfl⟩
  rw [← HS.out]
  have HP : Hid (p.kind = 3 ∨ ¬ p.kind = 3) := Decidable.em _
  unfold pkV at *
  clear he hb hq hx
  go_enter Tryd.func7, Tryd.ntmps7
  go_upto_region 4 with (go_at_call 23; refine hc.mono ?_; rintro e w1 ⟨rfl, bw1⟩)
  have h1 := h0.step bw1
  clear h0 bw1 hc
  have hm := HM.out
  have hn := HN.out
  obtain ⟨p0, p1, p2, p3, p4, p5, p6, p7⟩ := h1.pk.cells
  have hr := sgRead_any p.kind p.src p.dst (.slice a l c) p.body w1 (HB.out.below (Nat.le_refl _) h1.below)
  have hr' : Calls Tryd.prog 18 #[.int .i64 p.kind, .slice a l c, .int .i64 p.src, .int .i64 p.dst] w1 fun e w' => ∃ a n c, e = .returned (.tuple #[.agg #[.int .i64 s.frm, .int .i64 s.too, .int .i64 s.seq, .int .i64 s.ack, .int .i64 s.win, .int .i64 s.flg, .slice a n c], .nilIface]) ∧ Bytes w' (.slice a n c) s.body ∧ Below w1.heap.size w1 w' := by
    refine hr.mono fun e w' h => ?_
    rw [HS.out]; exact reads_good h HX.out
  clear hr HX
  go_upto_region 9 with (go_at_call 18; refine hr'.mono ?_; rintro e w2 ⟨a2, n2, c2, rfl, hb2, bw2⟩)
  have h2 := (h1.step bw2).alloc (.cells #[.int .i64 s.frm, .int .i64 s.too, .int .i64 s.seq, .int .i64 s.ack, .int .i64 s.win, .int .i64 s.flg, .slice a2 n2 c2] 29)
  have x2 := SgAt.new w2 s (.slice a2 n2 c2)
  have hb3 : Below w2.heap.size w2 _ := (Below.refl w2.heap.size w2).alloc (Nat.le_refl _) (.cells #[.int .i64 s.frm, .int .i64 s.too, .int .i64 s.seq, .int .i64 s.ack, .int .i64 s.win, .int .i64 s.flg, .slice a2 n2 c2] 29)
  obtain ⟨W2, hW2⟩ : ∃ W2, w2.alloc (.cells #[.int .i64 s.frm, .int .i64 s.too, .int .i64 s.seq, .int .i64 s.ack, .int .i64 s.win, .int .i64 s.flg, .slice a2 n2 c2] 29) = W2 := ⟨_, rfl⟩
  rw [hW2] at h2 x2 hb3 ⊢
  have hlt2 : w.heap.size + 2 < w2.heap.size := (h1.step bw2).sg.lt
  obtain ⟨G, hG⟩ : ∃ G, G = w2.heap.size := ⟨_, rfl⟩
  rw [← hG] at x2 hlt2 ⊢
  have HG : Hid (G = w2.heap.size) := hG
  have HB2 : Hid (Bytes w2 (.slice a2 n2 c2) s.body) := hb2
  clear hW2 h1 bw2 hr' p0 p1 p2 p3 p4 p5 p6 p7 hb2 hG
  obtain ⟨p0, p1, p2, p3, p4, p5, p6, p7⟩ := h2.pk.cells
  obtain ⟨s0, s1, s2, s3, s4, s5, s6⟩ := x2.cells
  go_upto_region 10 with fail
  have h3 := h2.alloc (.cells #[.int .i64 p.kind, .int .i64 p.src, .int .i64 s.frm, .int .i64 p.dst, .int .i64 s.too] 26)
  have x3 := x2.alloc (.cells #[.int .i64 p.kind, .int .i64 p.src, .int .i64 s.frm, .int .i64 p.dst, .int .i64 s.too] 26)
  have y3 := KyAt.new W2 { kind := p.kind, src := p.src, frm := s.frm, dst := p.dst, too := s.too }
  have hb4 : Below w2.heap.size w2 _ := hb3.alloc hb3.size (.cells #[.int .i64 p.kind, .int .i64 p.src, .int .i64 s.frm, .int .i64 p.dst, .int .i64 s.too] 26)
  obtain ⟨W3, hW3⟩ : ∃ W3, W2.alloc (.cells #[.int .i64 p.kind, .int .i64 p.src, .int .i64 s.frm, .int .i64 p.dst, .int .i64 s.too] 26) = W3 := ⟨_, rfl⟩
  simp only at y3
  have hlt3 := x2.lt
  rw [hW3] at h3 x3 y3 hb4 ⊢
  obtain ⟨K, hK⟩ : ∃ K, K = W2.heap.size := ⟨_, rfl⟩
  rw [← hK] at y3 hlt3 ⊢
  clear hW3 hK h2 x2 hb3 p0 p1 p2 p3 p4 p5 p6 p7 s0 s1 s2 s3 s4 s5 s6
  obtain ⟨p0, p1, p2, p3, p4, p5, p6, p7⟩ := h3.pk.cells
  obtain ⟨s0, s1, s2, s3, s4, s5, s6⟩ := x3.cells
  have yc := y3.cells.2.2.1
  have yf := y3.free 2
  simp only at yc
  go_upto_if 56 with fail
  go_cut [56] (fun t ww => KyAt ww K (mkY p s) ∧ SgAt ww G s (.slice a2 n2 c2) ∧ Ko w p (.slice a l c) ww ∧ Below w2.heap.size w2 ww)
  case first =>
    rcases HP.out with h | h
    · have HK3 : Hid (p.kind = 3) := h
      have e3 : (p.kind == 3) = true := by simpa using h
      clear h
      go_wp2_with fail
      obtain ⟨w4, hw4, y4, o4⟩ := y3.store_frm s.too
      rw [hw4]
      have hE : KyAt w4 K (mkY p s) := by unfold mkY; rw [if_pos HK3.out]; exact y4
      have hx4 := x3.only (by omega) o4
      have h4 : Ko w p (.slice a l c) w4 := ⟨h3.pk.only (by omega) o4, h3.ky.only (by omega) o4, h3.sg.only (by omega) o4, o4.below (by have := h3.pk.lt; omega) h3.below⟩
      have b4 : Below w2.heap.size w2 w4 := o4.below (by have := HG.out; omega) hb4
      go_meet
      case rel => exact ⟨hE, hx4, h4, b4⟩
    · have e3 : (p.kind == 3) = false := by simpa using h
      have HK3 : Hid (¬ p.kind = 3) := h
      clear h
      go_wp2_with fail
      go_meet
      case rel => exact ⟨by unfold mkY; rw [if_neg HK3.out]; exact y3, x3, h3, hb4⟩
  case rest =>
    obtain ⟨y5, x5, h5, b5⟩ := hcut
    clear y3 x3 h3 hb4 p0 p1 p2 p3 p4 p5 p6 p7 s0 s1 s2 s3 s4 s5 s6 yc yf
    obtain ⟨m, HM5⟩ : ∃ m, Hid (m = mkY p s) := ⟨_, rfl⟩
    rw [← HM5.out] at y5
    obtain ⟨k0, k1, k2, k3, k4⟩ := y5.cells
    obtain ⟨s0, s1, s2, s3, s4, s5, s6⟩ := x5.cells
    obtain ⟨q0, q1, q2, q3, q4⟩ := zero_keys h5.ky
    obtain ⟨z0, z1, z2, z3, z4, z5, z6⟩ := zero_results h5.sg
    have f0 := h5.ky.free 0
    have f1 := h5.ky.free 1
    have f2 := h5.ky.free 2
    have f3 := h5.ky.free 3
    have f4 := h5.ky.free 4
    have g0 := h5.sg.free 0
    have g1 := h5.sg.free 1
    have g2 := h5.sg.free 2
    have g3 := h5.sg.free 3
    have g4 := h5.sg.free 4
    have g5 := h5.sg.free 5
    have g6 := h5.sg.free 6
    have hGK : w.heap.size + 2 < G := hlt2
    have n1 : ¬ G = w.heap.size + 1 := by omega
    have n2' : ¬ G = w.heap.size + 2 := by omega
    have n3 : ¬ K = w.heap.size + 1 := by omega
    have n4 : ¬ K = w.heap.size + 2 := by omega
    go_upto_region 12 with fail
    go_region
    obtain ⟨w6, hw6, y6, o6⟩ := h5.ky.store m
    rw [hw6]
    have z6' : SgAt w6 (w.heap.size + 1 + 1) zeroS (.slice none 0 0) := h5.sg.only (by omega) o6
    obtain ⟨w7, hw7, x7, o7⟩ := z6'.store s (.slice a2 n2 c2)
    rw [hw7]
    have y7 := y6.only (by omega) o7
    have b7 : Below w.heap.size w w7 := o7.below (by omega) (o6.below (by omega) h5.below)
    have hb5 := HB2.out.below (Nat.le_refl _) b5
    have hb6 := hb5.off o6 h5.ky.nobyte
    have hb7 := hb6.off o7 (z6'.nobyte (fun u h => by cases h))
    clear k0 k1 k2 k3 k4 s0 s1 s2 s3 s4 s5 s6 q0 q1 q2 q3 q4 z0 z1 z2 z3 z4 z5 z6 f0 f1 f2 f3 f4 g0 g1 g2 g3 g4 g5 g6 hw6 hw7
    obtain ⟨k0, k1, k2, k3, k4⟩ := y7.cells
    obtain ⟨s0, s1, s2, s3, s4, s5, s6⟩ := x7.cells
    go_wp2_with fail
    refine bodyPost_ret (v := .tuple #[keyV m, segV s (.slice a2 n2 c2), .nilIface]) (by simp [results, Tryd.results7, go_sem, keyV, segV, k0, k1, k2, k3, k4, s0, s1, s2, s3, s4, s5, s6]) rfl ⟨.slice a2 n2 c2, by rw [HM5.out], hb7.drewN 1, b7.drew⟩
theorem keyOf_any (p : Pk) (bv : Value) (w : World) (hb : Bytes w bv p.body) :
    Calls Tryd.prog 7 #[pkV p bv] w fun e w' => Keys p w e w' := by
  obtain ⟨a, c, rfl⟩ := len_body hb
  by_cases he : pkErr p = 0
  · by_cases hq : ¬ p.pos = 0 ∨ p.more = true
    · refine (keyOf_piece p a _ c w hb he hq).mono ?_
      rintro e w' ⟨rfl, hw⟩
      exact keys_no (by decide) (by unfold kyE; rw [if_neg (by rw [Decidable.not_not]; exact he), if_pos hq]) hw
    · have hE : kyE p = rdErr p.kind p.body p.src p.dst := by unfold kyE; rw [if_neg (by rw [Decidable.not_not]; exact he), if_neg hq]
      have h1 : p.pos = 0 := Decidable.not_not.1 (fun h => hq (.inl h))
      have h2 : p.more = false := by
        rcases hm : p.more with _ | _
        · rfl
        · exact absurd (.inr hm) hq
      by_cases hx : rdErr p.kind p.body p.src p.dst = 0
      · refine (keyOf_ok p a _ c w hb he h1 h2 hx).mono ?_
        rintro e w' ⟨bs, rfl, hbs, hw⟩
        have h0 : kyE p = 0 := by rw [hE]; exact hx
        have e1 : kyK p = mkY p (fldS p.kind p.body) := by unfold kyK; rw [if_pos h0]
        have e2 : kyS p = fldS p.kind p.body := by unfold kyS; rw [if_pos h0]
        exact ⟨bs, by rw [e1, e2, h0, errV_ok], by rw [e2]; exact hbs, hw⟩
      · refine (keyOf_read p a _ c w hb he h1 h2 hx).mono ?_
        rintro e w' ⟨rfl, hw⟩
        exact keys_no hx hE hw
  · refine (keyOf_check p a _ c w hb he).mono ?_
    rintro e w' ⟨rfl, hw⟩
    exact keys_no he (by unfold kyE; rw [if_pos he]) hw
end Go.Proofs.YteijbohfakokfacDoor
