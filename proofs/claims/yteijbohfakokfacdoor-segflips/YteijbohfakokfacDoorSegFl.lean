/- The law SegFlips of package portlaw4 returns true, for every kind, segment, source, destination, place and byte, where errors.errorType holds the handle of the type error; the walk of its text. -/
import Derived.Test.YteijbohfakokfacDoorSegKo
import Derived.Test.YteijbohfakokfacDoorSegSame
import Derived.Test.YteijbohfakokfacDoorRefSeg
import Derived.Test.YteijbohfakokfacDoorTold
import Derived.Test.YteijbohfakokfacDoorOpenB
namespace Go.Proofs.YteijbohfakokfacDoor
open Go.RowKit
set_option linter.unusedVariables false

theorem errV_val (e : Int) : ErrVal (errV e) e := by
  unfold errV
  split
  · exact .inl ⟨rfl, by assumption⟩
  · exact .inr rfl
/-- The segment that came in lies there still. -/
structure Fl (w : World) (s : Sg) (bv : Value) (w' : World) : Prop where
  sg : SgAt w' w.heap.size s bv
  below : Below w.heap.size w w'
theorem Fl.step {w : World} {s : Sg} {bv : Value} {w' w'' : World} (h : Fl w s bv w') (hb : Below w'.heap.size w' w'') : Fl w s bv w'' := ⟨h.sg.below h.sg.lt hb, h.below.trans (hb.mono h.below.size)⟩
theorem Fl.alloc {w : World} {s : Sg} {bv : Value} {w' : World} (h : Fl w s bv w') (o : Obj) : Fl w s bv (w'.alloc o) := h.step ((Below.refl _ _).alloc (Nat.le_refl _) _)
theorem Fl.start (w : World) (s : Sg) (bv : Value) : Fl w s bv (w.alloc (.cells #[.int .i64 s.frm, .int .i64 s.too, .int .i64 s.seq, .int .i64 s.ack, .int .i64 s.win, .int .i64 s.flg, bv] 29)) :=
  ⟨SgAt.new w s bv, (Below.refl _ _).alloc (Nat.le_refl _) _⟩
theorem isK_out {k : Int} {s : Sg} {src dst : Int} (h : sgErr k s src dst = 0) : ¬ k < 1 ∧ ¬ 3 < k := by
  have := (sgErr_ok h).1
  have : 1 ≤ k ∧ k ≤ 3 := by simpa [isK] using this
  omega

set_option maxRecDepth 100000 in
set_option maxHeartbeats 40000000 in
theorem flips_any (kind src dst : Int) (s : Sg) (a : Option Addr) (l c : Nat) (pos to_ : Int) (w : World) (hb : Bytes w (.slice a l c) s.body) (hto : 0 ≤ to_ ∧ to_ ≤ 255) (hE : ErrLaid w) :
    Calls Tryd.prog 4 #[.int .i64 kind, segV s (.slice a l c), .int .i64 src, .int .i64 dst, .int .i64 pos, .int .u8 to_] w fun e w' => e = .returned (.bool true) ∧ Below w.heap.size w w' := by
  have h0 := Fl.start w s (.slice a l c)
  have HB : Hid (Bytes w (.slice a l c) s.body) := hb
  have HE : Hid (ErrLaid w) := hE
  have hEn := sgEncode_any kind s src dst (.slice a l c) _ (hb.below (Nat.le_refl _) h0.below)
  unfold segV at *
  clear hb hE
  by_cases hx : sgErr kind s src dst = 0
  rotate_left
  · as_aux_lemma =>
      have HX : Hid (¬ sgErr kind s src dst = 0) := hx
      rw [errV_no hx] at hEn
      obtain ⟨e0, HE0⟩ : ∃ e0, Hid (e0 = sgErr kind s src dst) := ⟨_, rfl⟩
      rw [← HE0.out] at hEn hx
      have y0 : (e0 != 0) = true := by simpa using hx
      clear hx
      go_enter Tryd.func4, Tryd.ntmps4
      go_upto_region 3 with (go_at_call 16; refine hEn.mono ?_; rintro e w1 ⟨v1, rfl, o1, b1⟩)
      have h1 := h0.step b1
      have hR := refSegment_any kind s src dst (.slice a l c) w1 (HB.out.below (Nat.le_refl _) h1.below)
      unfold segV at hR
      rw [← HE0.out] at hR
      clear hEn h0 o1 b1
      obtain ⟨s0, s1, s2, s3, s4, s5, s6⟩ := h1.sg.cells
      by_cases k1 : kind < 1
      · go_wp2_with fail
        go_ret
        exact ⟨rfl, h1.below⟩
      by_cases k2 : 3 < kind
      · go_wp2_with fail
        go_ret
        exact ⟨rfl, h1.below⟩
      · go_wp2_with (go_at_call 17; refine hR.mono ?_; rintro e w2 ⟨rfl, b2⟩)
        go_ret
        exact ⟨rfl, (h1.step b2).below⟩
  have hby := HB.out.byte
  have e1 : segW kind s src dst = segL kind s src dst := by unfold segW; rw [if_pos hx]
  obtain ⟨hk, hsr, hds, _, _, h4⟩ := sgErr_ok hx
  have hlen0 := segL_length s src dst hk
  have hd6 := hdN_ge hk
  have hE' : Calls Tryd.prog 16 #[.int .i64 kind, .agg #[.int .i64 s.frm, .int .i64 s.too, .int .i64 s.seq, .int .i64 s.ack, .int .i64 s.win, .int .i64 s.flg, .slice a l c], .int .i64 src, .int .i64 dst] (w.alloc (.cells #[.int .i64 s.frm, .int .i64 s.too, .int .i64 s.seq, .int .i64 s.ack, .int .i64 s.win, .int .i64 s.flg, .slice a l c] 29)) fun e w' => ∃ g cq, e = .returned (.tuple #[.slice (some ⟨g, 0, none⟩) (segL kind s src dst).length cq, .nilIface]) ∧ OwnB w' (w.heap.size + 1) (.slice (some ⟨g, 0, none⟩) (segL kind s src dst).length cq) (segL kind s src dst) ∧ (segL kind s src dst).length ≤ cq ∧ cq ≤ maxLen ∧ Below (w.alloc (.cells #[.int .i64 s.frm, .int .i64 s.too, .int .i64 s.seq, .int .i64 s.ack, .int .i64 s.win, .int .i64 s.flg, .slice a l c] 29)).heap.size (w.alloc (.cells #[.int .i64 s.frm, .int .i64 s.too, .int .i64 s.seq, .int .i64 s.ack, .int .i64 s.win, .int .i64 s.flg, .slice a l c] 29)) w' := by
    refine hEn.mono ?_
    rintro e w' ⟨v, rfl, ho, hw⟩
    rw [e1] at ho
    obtain ⟨g, cp, rfl, _, _, q1, q2⟩ := ho.shape (by omega)
    refine ⟨g, cp, by rw [hx, errV_ok], ?_, q1, q2, hw⟩
    have : (w.alloc (.cells #[.int .i64 s.frm, .int .i64 s.too, .int .i64 s.seq, .int .i64 s.ack, .int .i64 s.win, .int .i64 s.flg, .slice a l c] 29)).heap.size = w.heap.size + 1 := by simp
    rw [this] at ho
    exact ho
  obtain ⟨Z, HZ⟩ : ∃ Z, Hid (Z = segL kind s src dst) := ⟨_, rfl⟩
  rw [← HZ.out] at hE' hlen0
  obtain ⟨N, hN⟩ : ∃ N, N = Z.length := ⟨_, rfl⟩
  rw [← hN] at hE' hlen0
  have HN : Hid (N = Z.length) := hN
  have hN1 : N ≤ 4000 := by omega
  have HX : Hid (sgErr kind s src dst = 0) := hx
  have HBY : Hid (∀ x ∈ s.body, 0 ≤ x ∧ x ≤ 255) := hby
  have hs' := of_upB hsr
  have hd' := of_upB hds
  clear hEn hx hby e1 hk h4 hN hlen0 hsr hds hd6
  go_enter Tryd.func4, Tryd.ntmps4
  go_upto_region 4 with (go_at_call 16; refine hE'.mono ?_; rintro e w1 ⟨g1, q1, rfl, o1, hq0, hq1, b1⟩)
  have h1 := h0.step b1
  have hz1 : Bytes w1 (.slice (some ⟨g1, 0, none⟩) N q1) Z := o1.bytes (by have := HN.out; omega)
  clear h0 b1 hE'
  have hR : Calls Tryd.prog 18 #[.int .i64 kind, .slice (some ⟨g1, 0, none⟩) N q1, .int .i64 src, .int .i64 dst] w1 fun e w' => ∃ a n c, e = .returned (.tuple #[.agg #[.int .i64 s.frm, .int .i64 s.too, .int .i64 s.seq, .int .i64 s.ack, .int .i64 s.win, .int .i64 s.flg, .slice a n c], .nilIface]) ∧ Bytes w' (.slice a n c) s.body ∧ Below w1.heap.size w1 w' := by
    refine (sgRead_any kind src dst _ Z w1 hz1).mono fun e w' h => ?_
    obtain ⟨r1, r2⟩ := rdErr_ok HX.out HBY.out
    rw [← HZ.out] at r1 r2
    have := reads_good h r1
    rw [r2] at this
    exact this
  go_upto_region 5 with (go_at_call 18; refine hR.mono ?_; rintro e w2 ⟨a2, n2, c2, rfl, hb2, b2⟩)
  have h2 := (h1.step b2).alloc (.cells #[.int .i64 s.frm, .int .i64 s.too, .int .i64 s.seq, .int .i64 s.ack, .int .i64 s.win, .int .i64 s.flg, .slice a2 n2 c2] 29)
  have x2 := SgAt.new w2 s (.slice a2 n2 c2)
  have al2 : Below w2.heap.size w2 (w2.alloc (.cells #[.int .i64 s.frm, .int .i64 s.too, .int .i64 s.seq, .int .i64 s.ack, .int .i64 s.win, .int .i64 s.flg, .slice a2 n2 c2] 29)) := (Below.refl _ _).alloc (Nat.le_refl _) _
  have bb2 := hb2.below (Nat.le_refl _) al2
  have oz2 := (o1.stay (Nat.le_refl _) b2).stay (Nat.le_refl _) al2
  obtain ⟨W2, hW2⟩ : ∃ W2, w2.alloc (.cells #[.int .i64 s.frm, .int .i64 s.too, .int .i64 s.seq, .int .i64 s.ack, .int .i64 s.win, .int .i64 s.flg, .slice a2 n2 c2] 29) = W2 := ⟨_, rfl⟩
  obtain ⟨G, hG⟩ : ∃ G, G = w2.heap.size := ⟨_, rfl⟩
  rw [hW2] at h2 x2 bb2 oz2 ⊢
  rw [← hG] at x2 ⊢
  clear hW2 hG h1 b2 hb2 hR al2 o1 hz1
  obtain ⟨s0, s1, s2, s3, s4, s5, s6⟩ := h2.sg.cells
  obtain ⟨x0, x1, x2', x3, x4, x5, x6⟩ := x2.cells
  have hM := sameSg s (.slice a2 n2 c2) (.slice a l c) W2 bb2 (HB.out.below (Nat.le_refl _) h2.below)
  unfold segV at hM
  go_upto_region 8 with (go_at_call 9; refine hM.mono ?_; rintro e w3 ⟨rfl, b3⟩)
  have h3 := h2.step b3
  have oz3 := oz2.stay (Nat.le_refl _) b3
  have hlow := oz3.lt.1
  clear h2 x2 bb2 b3 hM s0 s1 s2 s3 s4 s5 s6 x0 x1 x2' x3 x4 x5 x6 oz2
  by_cases p1 : 0 ≤ pos
  rotate_left
  · as_aux_lemma =>
      have p1' : pos < 0 := by omega
      clear p1
      by_cases hs1 : src < 4294967295
      rotate_left
      · go_wp2_with fail
        go_ret
        exact ⟨rfl, h3.below⟩
      by_cases hs2 : src % 65536 = 65535
      · have y1 : (src % 65536 != 65535) = false := by simp [hs2]
        clear hs2
        go_wp2_with fail
        go_ret
        exact ⟨rfl, h3.below⟩
      · have y1 : (src % 65536 != 65535) = true := by simpa using hs2
        have HS2 : Hid (¬ src % 65536 = 65535) := hs2
        clear hs2
        have hR9 : Calls Tryd.prog 18 #[.int .i64 kind, .slice (some ⟨g1, 0, none⟩) N q1, .int .i64 (src + 1), .int .i64 dst] w3 fun e w' => ∃ a c, e = .returned (.tuple #[.agg #[.int .i64 0, .int .i64 0, .int .i64 0, .int .i64 0, .int .i64 0, .int .i64 0, .slice a 0 c], .iface 52 (.int .i64 9)]) ∧ Below w3.heap.size w3 w' := by
          refine (sgRead_any kind (src + 1) dst _ Z w3 (oz3.bytes (by have := HN.out; omega))).mono fun e w' h => ?_
          have r1 := rdErr_src HX.out HBY.out hs1 HS2.out
          rw [← HZ.out] at r1
          have := reads_err h (by rw [r1]; decide)
          rw [r1] at this
          exact this
        go_upto_region 18 with (go_at_call 18; refine hR9.mono ?_; rintro e wr ⟨ar, cr, rfl, br⟩)
        have hr9 := (h3.step br).alloc (.cells #[.int .i64 0, .int .i64 0, .int .i64 0, .int .i64 0, .int .i64 0, .int .i64 0, .slice ar 0 cr] 29)
        have hEr := error_val (v := .iface 52 (.int .i64 9)) (k := 9) (.inr rfl) 9 _ (HE.out.below hr9.below)
        go_wp2_with (go_at_call 8; refine hEr.mono ?_; rintro e we ⟨rfl, be⟩)
        go_ret
        exact ⟨rfl, (hr9.step be).below⟩
  by_cases p2 : pos < (N : Int)
  rotate_left
  · as_aux_lemma =>
      have p2' : (N : Int) ≤ pos := by omega
      clear p2
      by_cases hs1 : src < 4294967295
      rotate_left
      · go_wp2_with fail
        go_ret
        exact ⟨rfl, h3.below⟩
      by_cases hs2 : src % 65536 = 65535
      · have y1 : (src % 65536 != 65535) = false := by simp [hs2]
        clear hs2
        go_wp2_with fail
        go_ret
        exact ⟨rfl, h3.below⟩
      · have y1 : (src % 65536 != 65535) = true := by simpa using hs2
        have HS2 : Hid (¬ src % 65536 = 65535) := hs2
        clear hs2
        have hR9 : Calls Tryd.prog 18 #[.int .i64 kind, .slice (some ⟨g1, 0, none⟩) N q1, .int .i64 (src + 1), .int .i64 dst] w3 fun e w' => ∃ a c, e = .returned (.tuple #[.agg #[.int .i64 0, .int .i64 0, .int .i64 0, .int .i64 0, .int .i64 0, .int .i64 0, .slice a 0 c], .iface 52 (.int .i64 9)]) ∧ Below w3.heap.size w3 w' := by
          refine (sgRead_any kind (src + 1) dst _ Z w3 (oz3.bytes (by have := HN.out; omega))).mono fun e w' h => ?_
          have r1 := rdErr_src HX.out HBY.out hs1 HS2.out
          rw [← HZ.out] at r1
          have := reads_err h (by rw [r1]; decide)
          rw [r1] at this
          exact this
        go_upto_region 18 with (go_at_call 18; refine hR9.mono ?_; rintro e wr ⟨ar, cr, rfl, br⟩)
        have hr9 := (h3.step br).alloc (.cells #[.int .i64 0, .int .i64 0, .int .i64 0, .int .i64 0, .int .i64 0, .int .i64 0, .slice ar 0 cr] 29)
        have hEr := error_val (v := .iface 52 (.int .i64 9)) (k := 9) (.inr rfl) 9 _ (HE.out.below hr9.below)
        go_wp2_with (go_at_call 8; refine hEr.mono ?_; rintro e we ⟨rfl, be⟩)
        go_ret
        exact ⟨rfl, (hr9.step be).below⟩
  obtain ⟨p, rfl⟩ := Int.eq_ofNat_of_zero_le p1
  have hpN : p < N := by omega
  have cz := oz3.cell HN.out p (by have := HN.out; omega)
  obtain ⟨zp, HZP⟩ : ∃ zp, Hid (zp = Z.getD p 0) := ⟨_, rfl⟩
  rw [← HZP.out] at cz
  have hzb : 0 ≤ zp ∧ zp ≤ 255 := by rw [HZP.out]; exact getD_byte (by have := HN.out; omega) oz3.2
  by_cases p3 : zp = to_
  · as_aux_lemma =>
      have y0 : (zp != to_) = false := by simp [p3]
      clear p3 hto hzb
      by_cases hs1 : src < 4294967295
      rotate_left
      · go_wp2_with fail
        go_ret
        exact ⟨rfl, h3.below⟩
      by_cases hs2 : src % 65536 = 65535
      · have y1 : (src % 65536 != 65535) = false := by simp [hs2]
        clear hs2
        go_wp2_with fail
        go_ret
        exact ⟨rfl, h3.below⟩
      · have y1 : (src % 65536 != 65535) = true := by simpa using hs2
        have HS2 : Hid (¬ src % 65536 = 65535) := hs2
        clear hs2
        have hR9 : Calls Tryd.prog 18 #[.int .i64 kind, .slice (some ⟨g1, 0, none⟩) N q1, .int .i64 (src + 1), .int .i64 dst] w3 fun e w' => ∃ a c, e = .returned (.tuple #[.agg #[.int .i64 0, .int .i64 0, .int .i64 0, .int .i64 0, .int .i64 0, .int .i64 0, .slice a 0 c], .iface 52 (.int .i64 9)]) ∧ Below w3.heap.size w3 w' := by
          refine (sgRead_any kind (src + 1) dst _ Z w3 (oz3.bytes (by have := HN.out; omega))).mono fun e w' h => ?_
          have r1 := rdErr_src HX.out HBY.out hs1 HS2.out
          rw [← HZ.out] at r1
          have := reads_err h (by rw [r1]; decide)
          rw [r1] at this
          exact this
        go_upto_region 18 with (go_at_call 18; refine hR9.mono ?_; rintro e wr ⟨ar, cr, rfl, br⟩)
        have hr9 := (h3.step br).alloc (.cells #[.int .i64 0, .int .i64 0, .int .i64 0, .int .i64 0, .int .i64 0, .int .i64 0, .slice ar 0 cr] 29)
        have hEr := error_val (v := .iface 52 (.int .i64 9)) (k := 9) (.inr rfl) 9 _ (HE.out.below hr9.below)
        go_wp2_with (go_at_call 8; refine hEr.mono ?_; rintro e we ⟨rfl, be⟩)
        go_ret
        exact ⟨rfl, (hr9.step be).below⟩
  as_aux_lemma =>
    have y0 : (zp != to_) = true := by simpa using p3
    have HP3 : Hid (¬ zp = to_) := p3
    have HTO : Hid (0 ≤ to_ ∧ to_ ≤ 255) := hto
    have hbz := oz3.bytes (by have := HN.out; omega)
    have hzl : Z.length ≤ 4000 := by have := HN.out; omega
    clear p3 hzb hto
    go_upto_region 11 with (at_builtin; refine wpList_append_bytes rfl (.tmp 82) (.tmp 83) rfl w3.heap.size _ [] rfl (OwnB.nil _ _) _ Z rfl hbz (by simp only [List.length_nil]; omega) (Nat.le_refl _) ?_; intro v5 w5 o5 g5)
    rw [List.nil_append] at o5
    have b5 : Below w3.heap.size w3 w5 := (Below.refl _ _).grown g5 (Nat.le_refl _) (fun k hk => by cases hk)
    have hz0 : 0 < Z.length := by have := HN.out; omega
    obtain ⟨g5', cp5, hv5, hg5, hg5', hl5, hm5⟩ := o5.shape hz0
    rw [← HN.out] at hv5 hl5
    subst hv5
    have c5 := o5.cell HN.out p (by have := HN.out; omega)
    have f5 := o5.free HN.out p
    rw [← HZP.out] at c5
    have hg1 := oz3.lt.2
    have oz5 := oz3.stay (Nat.le_refl _) b5
    have h5 := h3.step b5
    have o6 := o5.store HN.out p to_ HTO.out.1 HTO.out.2
    have oz6 := oz5.other (g' := g5') (off := p) (by omega) (.int .u8 to_)
    have b6 : Below w3.heap.size w3 (w5.setCell ⟨g5', p, none⟩ (.int .u8 to_)) := b5.setCell hg5 _
    have h6 := h3.step b6
    go_upto_region 12 with fail
    obtain ⟨W6, hW6⟩ : ∃ W6, w5.setCell ⟨g5', p, none⟩ (.int .u8 to_) = W6 := ⟨_, rfl⟩
    rw [hW6] at o6 oz6 h6 ⊢
    clear hW6 c5 f5 o5 g5 b5 b6 h5 oz5 cz hbz
    have hR8 : Calls Tryd.prog 18 #[.int .i64 kind, .slice (some ⟨g5', 0, none⟩) N cp5, .int .i64 src, .int .i64 dst] W6 fun e w' => ∃ a c, e = .returned (.tuple #[.agg #[.int .i64 0, .int .i64 0, .int .i64 0, .int .i64 0, .int .i64 0, .int .i64 0, .slice a 0 c], .iface 52 (.int .i64 9)]) ∧ Below W6.heap.size W6 w' := by
      refine (sgRead_any kind src dst _ (Z.set p to_) W6 (o6.bytes (by rw [List.length_set]; omega))).mono fun e w' h => ?_
      have r1 := rdErr_flip HX.out HBY.out p to_ (by rw [← HZ.out]; have := HN.out; omega) HTO.out.1 HTO.out.2 (by rw [← HZ.out, ← HZP.out]; exact HP3.out)
      rw [← HZ.out] at r1
      have := reads_err h (by rw [r1]; decide)
      rw [r1] at this
      exact this
    go_upto_region 13 with (go_at_call 18; refine hR8.mono ?_; rintro e w7 ⟨a7, c7, rfl, b7⟩)
    have al7 : Below w7.heap.size w7 (w7.alloc (.cells #[.int .i64 0, .int .i64 0, .int .i64 0, .int .i64 0, .int .i64 0, .int .i64 0, .slice a7 0 c7] 29)) := (Below.refl _ _).alloc (Nat.le_refl _) _
    have h7 := (h6.step b7).step al7
    have oz7 := (oz6.stay (Nat.le_refl _) b7).stay (Nat.le_refl _) al7
    obtain ⟨W7, hW7⟩ : ∃ W7, w7.alloc (.cells #[.int .i64 0, .int .i64 0, .int .i64 0, .int .i64 0, .int .i64 0, .int .i64 0, .slice a7 0 c7] 29) = W7 := ⟨_, rfl⟩
    rw [hW7] at h7 oz7 ⊢
    clear hW7 hR8 h6 b7 al7 oz6 o6
    have hEr := error_val (v := .iface 52 (.int .i64 9)) (k := 9) (.inr rfl) 9 _ (HE.out.below h7.below)
    go_upto_region 16 with (go_at_call 8; refine hEr.mono ?_; rintro e w8 ⟨rfl, b8⟩)
    have h8 := h7.step b8
    have oz8 := oz7.stay (Nat.le_refl _) b8
    clear h7 oz7 b8 hEr
    by_cases hs1 : src < 4294967295
    rotate_left
    · go_wp2_with fail
      go_ret
      exact ⟨rfl, h8.below⟩
    by_cases hs2 : src % 65536 = 65535
    · have y1 : (src % 65536 != 65535) = false := by simp [hs2]
      clear hs2
      go_wp2_with fail
      go_ret
      exact ⟨rfl, h8.below⟩
    · have y1 : (src % 65536 != 65535) = true := by simpa using hs2
      have HS2 : Hid (¬ src % 65536 = 65535) := hs2
      clear hs2
      have hR9 : Calls Tryd.prog 18 #[.int .i64 kind, .slice (some ⟨g1, 0, none⟩) N q1, .int .i64 (src + 1), .int .i64 dst] w8 fun e w' => ∃ a c, e = .returned (.tuple #[.agg #[.int .i64 0, .int .i64 0, .int .i64 0, .int .i64 0, .int .i64 0, .int .i64 0, .slice a 0 c], .iface 52 (.int .i64 9)]) ∧ Below w8.heap.size w8 w' := by
        refine (sgRead_any kind (src + 1) dst _ Z w8 (oz8.bytes (by have := HN.out; omega))).mono fun e w' h => ?_
        have r1 := rdErr_src HX.out HBY.out hs1 HS2.out
        rw [← HZ.out] at r1
        have := reads_err h (by rw [r1]; decide)
        rw [r1] at this
        exact this
      go_upto_region 18 with (go_at_call 18; refine hR9.mono ?_; rintro e wr ⟨ar, cr, rfl, br⟩)
      have hr9 := (h8.step br).alloc (.cells #[.int .i64 0, .int .i64 0, .int .i64 0, .int .i64 0, .int .i64 0, .int .i64 0, .slice ar 0 cr] 29)
      have hEr := error_val (v := .iface 52 (.int .i64 9)) (k := 9) (.inr rfl) 9 _ (HE.out.below hr9.below)
      go_wp2_with (go_at_call 8; refine hEr.mono ?_; rintro e we ⟨rfl, be⟩)
      go_ret
      exact ⟨rfl, (hr9.step be).below⟩
theorem flips_walk (kind : Int) (s : Sg) (bv : Value) (src dst pos to_ : Int) (w : World) {p q r t : Prop} (_ : p) (hb : Bytes w bv s.body) (_ : q) (_ : r) (_ : t) (ht : (Lit.int .u8 to_).wf = true) (hE : ErrLaid w) :
    Calls Tryd.prog 4 #[.int .i64 kind, segV s bv, .int .i64 src, .int .i64 dst, .int .i64 pos, .int .u8 to_] w fun e w' => e = .returned (.bool true) ∧ Below w.heap.size w w' := by
  obtain ⟨a, c, rfl⟩ := len_body hb
  exact flips_any kind src dst s a _ c pos to_ w hb (u8_wf ht) hE
end Go.Proofs.YteijbohfakokfacDoor
