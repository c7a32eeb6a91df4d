/- What the reference's SegBytes returns of a segment that is right (package portref1): its bytes, in a row of the call's own. -/
import Derived.Test.YteijbohfakokfabDoorRefSum
import Derived.Test.YteijbohfakokfabDoorSegEnc
namespace Go.Proofs.YteijbohfakokfabDoor
open Go.RowKit
set_option linter.unusedVariables false

set_option maxRecDepth 100000 in
set_option maxHeartbeats 20000000 in
theorem refSegBytes_raw (k f t q a n g src dst : Int) (B : List Int) (ad : Option Addr) (l c : Nat) (w : World) (hb : Bytes w (.slice ad l c) B) (hB : B.length ≤ 4000) (hk : isK k = true) (hs : upB src 4294967295 = true) (hd : upB dst 4294967295 = true)
    (hf : 0 ≤ f ∧ f ≤ 65535) (ht : 0 ≤ t ∧ t ≤ 65535) (hq : 0 ≤ q ∧ q ≤ 4294967295) (ha : 0 ≤ a ∧ a ≤ 4294967295) (hn : 0 ≤ n ∧ n ≤ 65535) (hg : 0 ≤ g ∧ g ≤ 15) :
    Calls Tryd.prog 31 #[.int .i64 k, .agg #[.int .i64 f, .int .i64 t, .int .i64 q, .int .i64 a, .int .i64 n, .int .i64 g, .slice ad l c], .int .i64 src, .int .i64 dst] w fun e w' =>
      ∃ v, e = .returned v ∧ OwnB w' w.heap.size v (segL k { frm := f, too := t, seq := q, ack := a, win := n, flg := g, body := B } src dst) ∧ Below w.heap.size w w' := by
  have hp := SgAt.new w { frm := f, too := t, seq := q, ack := a, win := n, flg := g, body := [] } (.slice ad l c)
  have b1 : Below w.heap.size w (w.alloc (.cells #[.int .i64 f, .int .i64 t, .int .i64 q, .int .i64 a, .int .i64 n, .int .i64 g, .slice ad l c] 65)) := (Below.refl _ _).alloc (Nat.le_refl _) _
  obtain ⟨w1, hw1⟩ : ∃ w1, w.alloc (.cells #[.int .i64 f, .int .i64 t, .int .i64 q, .int .i64 a, .int .i64 n, .int .i64 g, .slice ad l c] 65) = w1 := ⟨_, rfl⟩
  have s0 := Grows.nil w1 w1.heap.size (Nat.le_refl _)
  rw [hw1] at hp b1
  have hlt := hp.lt
  have fin : ∀ {wi : World} {v : Value} {L : List Int}, Grows w1 w1.heap.size wi v L → OwnB wi w.heap.size v L ∧ Below w.heap.size w wi := by
    intro wi v L h
    refine ⟨⟨⟨h.1.1.1, ?_⟩, h.1.2⟩, b1.trans (h.2.1.mono b1.size)⟩
    rcases h.1.1.2 with h0 | ⟨k, cp, cur, h1, h2, h3⟩
    · exact .inl h0
    · exact .inr ⟨k, cp, cur, h1, by omega, h3⟩
  have cs : ∀ {wi : World} {v : Value} {L : List Int}, Grows w1 w1.heap.size wi v L → SgAt wi w.heap.size { frm := f, too := t, seq := q, ack := a, win := n, flg := g, body := [] } (.slice ad l c) := fun h => hp.below hlt h.2.1
  have FIN : Hid (∀ {wi : World} {v : Value} {L : List Int}, Grows w1 w1.heap.size wi v L → OwnB wi w.heap.size v L ∧ Below w.heap.size w wi) := fin
  have CS : Hid (∀ {wi : World} {v : Value} {L : List Int}, Grows w1 w1.heap.size wi v L → SgAt wi w.heap.size { frm := f, too := t, seq := q, ack := a, win := n, flg := g, body := [] } (.slice ad l c)) := cs
  have HB : Hid (Bytes w (.slice ad l c) B) := hb
  have HS : Hid (upB src 4294967295 = true) := hs
  have HD : Hid (upB dst 4294967295 = true) := hd
  have HK : Hid (isK k = true) := hk
  have SUM : Hid (∀ {wi : World} {v : Value} {L : List Int}, Grows w1 w1.heap.size wi v L → L.length ≤ 17 → Calls Tryd.prog 57 #[.int .i64 k, v, .slice ad l c, .int .i64 src, .int .i64 dst] wi fun e w' => e = .returned (.int .i64 (psum k L B src dst)) ∧ Below wi.heap.size wi w') := by
    intro wi v L h hl
    exact refSegSum_any k src dst v _ L B wi (h.1.bytes (by omega)) (HB.out.below (Nat.le_refl _) (fin h).2) (by omega) (by omega) HK.out HS.out HD.out
  clear fin cs b1 hb hs hd hk
  rcases isK_of HK.out with rfl | rfl | rfl
  · as_aux_lemma =>
      go_enter Tryd.func31, Tryd.ntmps31
      go_upto_region 4 with fail
      try rw [hw1]
      clear hw1
      obtain ⟨c0, c1, c2, c3, c4, c5, c6⟩ := hp.cells
      have h0 := s0.ref2 f (by omega) (by omega) (Nat.le_of_ble_eq_true rfl)
      go_wp2_with fail
      refine h0.mono ?_
      rintro e w2 ⟨v2, rfl, s2⟩
      clear h0 s0 c0 c1 c2 c3 c4 c5 c6
      obtain ⟨c0, c1, c2, c3, c4, c5, c6⟩ := (CS.out s2).cells
      have h1 := s2.ref2 t (by omega) (by omega) (Nat.le_of_ble_eq_true rfl)
      go_wp2_with fail
      refine h1.mono ?_
      rintro e w3 ⟨v3, rfl, s3⟩
      clear h1 s2 c0 c1 c2 c3 c4 c5 c6
      obtain ⟨c0, c1, c2, c3, c4, c5, c6⟩ := (CS.out s3).cells
      have h2 := s3.ref4 q (by omega) (by omega) (Nat.le_of_ble_eq_true rfl)
      go_wp2_with fail
      refine h2.mono ?_
      rintro e w4 ⟨v4, rfl, s4⟩
      clear h2 s3 c0 c1 c2 c3 c4 c5 c6
      obtain ⟨c0, c1, c2, c3, c4, c5, c6⟩ := (CS.out s4).cells
      have h3 := s4.ref4 a (by omega) (by omega) (Nat.le_of_ble_eq_true rfl)
      go_wp2_with fail
      refine h3.mono ?_
      rintro e w5 ⟨v5, rfl, s5⟩
      clear h3 s4 c0 c1 c2 c3 c4 c5 c6
      obtain ⟨c0, c1, c2, c3, c4, c5, c6⟩ := (CS.out s5).cells
      have h4 := s5.ref1 g (by omega) (by omega) (Nat.le_of_ble_eq_true rfl)
      go_wp2_with fail
      refine h4.mono ?_
      rintro e w6 ⟨v6, rfl, s6⟩
      clear h4 s5 c0 c1 c2 c3 c4 c5 c6
      obtain ⟨c0, c1, c2, c3, c4, c5, c6⟩ := (CS.out s6).cells
      have h5 := s6.ref2 n (by omega) (by omega) (Nat.le_of_ble_eq_true rfl)
      go_wp2_with fail
      refine h5.mono ?_
      rintro e w7 ⟨v7, rfl, s7⟩
      clear h5 s6 c0 c1 c2 c3 c4 c5 c6
      obtain ⟨c0, c1, c2, c3, c4, c5, c6⟩ := (CS.out s7).cells
      have hS := SUM.out s7 (Nat.le_of_ble_eq_true rfl)
      have eL : [] ++ b2L f ++ b2L t ++ b4L q ++ b4L a ++ b1L g ++ b2L n = front1 { frm := f, too := t, seq := q, ack := a, win := n, flg := g, body := B } := rfl
      rw [eL] at hS s7
      have hLl : (front1 { frm := f, too := t, seq := q, ack := a, win := n, flg := g, body := B }).length ≤ 17 := Nat.le_of_ble_eq_true rfl
      have hLb : ∀ x ∈ front1 { frm := f, too := t, seq := q, ack := a, win := n, flg := g, body := B }, 0 ≤ x ∧ x ≤ 255 := s7.1.2
      have hpr := psum_range (k := 1) (src := src) (dst := dst) hLb HB.out.byte
      have HZ : Hid (front1 { frm := f, too := t, seq := q, ack := a, win := n, flg := g, body := B } ++ b2L (psum 1 (front1 { frm := f, too := t, seq := q, ack := a, win := n, flg := g, body := B }) B src dst) ++ B = segL 1 { frm := f, too := t, seq := q, ack := a, win := n, flg := g, body := B } src dst) := rfl
      obtain ⟨P, HP⟩ : ∃ P, Hid (P = psum 1 (front1 { frm := f, too := t, seq := q, ack := a, win := n, flg := g, body := B }) B src dst) := ⟨_, rfl⟩
      rw [← HP.out] at hS hpr
      generalize front1 { frm := f, too := t, seq := q, ack := a, win := n, flg := g, body := B } = F at *
      clear eL hLb
      go_wp2_with fail
      refine hS.mono ?_
      rintro e x1 ⟨rfl, y1⟩
      have t1 : Grows w1 w1.heap.size x1 v7 F := ⟨s7.1.stay (Nat.le_refl _) y1, s7.2.1.trans (y1.mono s7.2.2), Nat.le_trans s7.2.2 y1.size⟩
      have hW := t1.ref2 P (by omega) (by omega) (by omega)
      clear hS y1 s7 c0 c1 c2 c3 c4 c5 c6
      go_wp2_with fail
      refine hW.mono ?_
      rintro e x2 ⟨u2, rfl, t2⟩
      clear hW t1
      have c6 := (CS.out t2).cells.2.2.2.2.2.2
      have hbb := HB.out.below (Nat.le_refl _) (FIN.out t2).2
      have hlb : (F ++ b2L P).length + B.length ≤ 140737488355328 := by rw [List.length_append]; simp only [b2L, List.length_cons, List.length_nil]; omega
      obtain ⟨X, HX⟩ : ∃ X, Hid (X = F ++ b2L P) := ⟨_, rfl⟩
      rw [← HX.out] at t2 hlb
      go_wp2_with (at_builtin; refine wpList_append_bytes rfl (.tmp 74) (.tmp 76) rfl w1.heap.size _ X rfl t2.1 _ B rfl hbb hlb t2.2.2 ?_; intro v9 w9 o9 g9)
      go_ret
      have t3 := t2.app o9 g9
      have hfin := FIN.out t3
      have eX : X ++ B = segL 1 { frm := f, too := t, seq := q, ack := a, win := n, flg := g, body := B } src dst := by rw [HX.out, HP.out]; exact HZ.out
      rw [eX] at hfin
      exact ⟨_, rfl, hfin.1, hfin.2⟩
  · as_aux_lemma =>
      go_enter Tryd.func31, Tryd.ntmps31
      go_upto_region 11 with fail
      try rw [hw1]
      clear hw1
      obtain ⟨c0, c1, c2, c3, c4, c5, c6⟩ := hp.cells
      have h0 := s0.ref2 f (by omega) (by omega) (Nat.le_of_ble_eq_true rfl)
      go_wp2_with fail
      refine h0.mono ?_
      rintro e w2 ⟨v2, rfl, s2⟩
      clear h0 s0 c0 c1 c2 c3 c4 c5 c6
      obtain ⟨c0, c1, c2, c3, c4, c5, c6⟩ := (CS.out s2).cells
      have h1 := s2.ref2 t (by omega) (by omega) (Nat.le_of_ble_eq_true rfl)
      go_wp2_with fail
      refine h1.mono ?_
      rintro e w3 ⟨v3, rfl, s3⟩
      clear h1 s2 c0 c1 c2 c3 c4 c5 c6
      obtain ⟨c0, c1, c2, c3, c4, c5, c6⟩ := (CS.out s3).cells
      have hS := SUM.out s3 (Nat.le_of_ble_eq_true rfl)
      have eL : [] ++ b2L f ++ b2L t = front2 { frm := f, too := t, seq := q, ack := a, win := n, flg := g, body := B } := rfl
      rw [eL] at hS s3
      have hLl : (front2 { frm := f, too := t, seq := q, ack := a, win := n, flg := g, body := B }).length ≤ 17 := Nat.le_of_ble_eq_true rfl
      have hLb : ∀ x ∈ front2 { frm := f, too := t, seq := q, ack := a, win := n, flg := g, body := B }, 0 ≤ x ∧ x ≤ 255 := s3.1.2
      have hpr := psum_range (k := 2) (src := src) (dst := dst) hLb HB.out.byte
      have HZ : Hid (front2 { frm := f, too := t, seq := q, ack := a, win := n, flg := g, body := B } ++ b2L (psum 2 (front2 { frm := f, too := t, seq := q, ack := a, win := n, flg := g, body := B }) B src dst) ++ B = segL 2 { frm := f, too := t, seq := q, ack := a, win := n, flg := g, body := B } src dst) := rfl
      obtain ⟨P, HP⟩ : ∃ P, Hid (P = psum 2 (front2 { frm := f, too := t, seq := q, ack := a, win := n, flg := g, body := B }) B src dst) := ⟨_, rfl⟩
      rw [← HP.out] at hS hpr
      generalize front2 { frm := f, too := t, seq := q, ack := a, win := n, flg := g, body := B } = F at *
      clear eL hLb
      go_wp2_with fail
      refine hS.mono ?_
      rintro e x1 ⟨rfl, y1⟩
      have t1 : Grows w1 w1.heap.size x1 v3 F := ⟨s3.1.stay (Nat.le_refl _) y1, s3.2.1.trans (y1.mono s3.2.2), Nat.le_trans s3.2.2 y1.size⟩
      have hW := t1.ref2 P (by omega) (by omega) (by omega)
      clear hS y1 s3 c0 c1 c2 c3 c4 c5 c6
      go_wp2_with fail
      refine hW.mono ?_
      rintro e x2 ⟨u2, rfl, t2⟩
      clear hW t1
      have c6 := (CS.out t2).cells.2.2.2.2.2.2
      have hbb := HB.out.below (Nat.le_refl _) (FIN.out t2).2
      have hlb : (F ++ b2L P).length + B.length ≤ 140737488355328 := by rw [List.length_append]; simp only [b2L, List.length_cons, List.length_nil]; omega
      obtain ⟨X, HX⟩ : ∃ X, Hid (X = F ++ b2L P) := ⟨_, rfl⟩
      rw [← HX.out] at t2 hlb
      go_wp2_with (at_builtin; refine wpList_append_bytes rfl (.tmp 74) (.tmp 76) rfl w1.heap.size _ X rfl t2.1 _ B rfl hbb hlb t2.2.2 ?_; intro v9 w9 o9 g9)
      go_ret
      have t3 := t2.app o9 g9
      have hfin := FIN.out t3
      have eX : X ++ B = segL 2 { frm := f, too := t, seq := q, ack := a, win := n, flg := g, body := B } src dst := by rw [HX.out, HP.out]; exact HZ.out
      rw [eX] at hfin
      exact ⟨_, rfl, hfin.1, hfin.2⟩
  · as_aux_lemma =>
      go_enter Tryd.func31, Tryd.ntmps31
      go_upto_region 14 with fail
      try rw [hw1]
      clear hw1
      obtain ⟨c0, c1, c2, c3, c4, c5, c6⟩ := hp.cells
      have h0 := s0.ref1 f (by omega) (by omega) (Nat.le_of_ble_eq_true rfl)
      go_wp2_with fail
      refine h0.mono ?_
      rintro e w2 ⟨v2, rfl, s2⟩
      clear h0 s0 c0 c1 c2 c3 c4 c5 c6
      obtain ⟨c0, c1, c2, c3, c4, c5, c6⟩ := (CS.out s2).cells
      have h1 := s2.ref2 t (by omega) (by omega) (Nat.le_of_ble_eq_true rfl)
      go_wp2_with fail
      refine h1.mono ?_
      rintro e w3 ⟨v3, rfl, s3⟩
      clear h1 s2 c0 c1 c2 c3 c4 c5 c6
      obtain ⟨c0, c1, c2, c3, c4, c5, c6⟩ := (CS.out s3).cells
      have h2 := s3.ref2 q (by omega) (by omega) (Nat.le_of_ble_eq_true rfl)
      go_wp2_with fail
      refine h2.mono ?_
      rintro e w4 ⟨v4, rfl, s4⟩
      clear h2 s3 c0 c1 c2 c3 c4 c5 c6
      obtain ⟨c0, c1, c2, c3, c4, c5, c6⟩ := (CS.out s4).cells
      have h3 := s4.ref1 0 (by omega) (by omega) (Nat.le_of_ble_eq_true rfl)
      go_wp2_with fail
      refine h3.mono ?_
      rintro e w5 ⟨v5, rfl, s5⟩
      clear h3 s4 c0 c1 c2 c3 c4 c5 c6
      obtain ⟨c0, c1, c2, c3, c4, c5, c6⟩ := (CS.out s5).cells
      have hS := SUM.out s5 (Nat.le_of_ble_eq_true rfl)
      have eL : [] ++ b1L f ++ b2L t ++ b2L q ++ b1L 0 = front3 { frm := f, too := t, seq := q, ack := a, win := n, flg := g, body := B } := rfl
      rw [eL] at hS s5
      have hLl : (front3 { frm := f, too := t, seq := q, ack := a, win := n, flg := g, body := B }).length ≤ 17 := Nat.le_of_ble_eq_true rfl
      have hLb : ∀ x ∈ front3 { frm := f, too := t, seq := q, ack := a, win := n, flg := g, body := B }, 0 ≤ x ∧ x ≤ 255 := s5.1.2
      have hpr := psum_range (k := 3) (src := src) (dst := dst) hLb HB.out.byte
      have HZ : Hid (front3 { frm := f, too := t, seq := q, ack := a, win := n, flg := g, body := B } ++ b2L (psum 3 (front3 { frm := f, too := t, seq := q, ack := a, win := n, flg := g, body := B }) B src dst) ++ B = segL 3 { frm := f, too := t, seq := q, ack := a, win := n, flg := g, body := B } src dst) := rfl
      obtain ⟨P, HP⟩ : ∃ P, Hid (P = psum 3 (front3 { frm := f, too := t, seq := q, ack := a, win := n, flg := g, body := B }) B src dst) := ⟨_, rfl⟩
      rw [← HP.out] at hS hpr
      generalize front3 { frm := f, too := t, seq := q, ack := a, win := n, flg := g, body := B } = F at *
      clear eL hLb
      go_wp2_with fail
      refine hS.mono ?_
      rintro e x1 ⟨rfl, y1⟩
      have t1 : Grows w1 w1.heap.size x1 v5 F := ⟨s5.1.stay (Nat.le_refl _) y1, s5.2.1.trans (y1.mono s5.2.2), Nat.le_trans s5.2.2 y1.size⟩
      have hW := t1.ref2 P (by omega) (by omega) (by omega)
      clear hS y1 s5 c0 c1 c2 c3 c4 c5 c6
      go_wp2_with fail
      refine hW.mono ?_
      rintro e x2 ⟨u2, rfl, t2⟩
      clear hW t1
      have c6 := (CS.out t2).cells.2.2.2.2.2.2
      have hbb := HB.out.below (Nat.le_refl _) (FIN.out t2).2
      have hlb : (F ++ b2L P).length + B.length ≤ 140737488355328 := by rw [List.length_append]; simp only [b2L, List.length_cons, List.length_nil]; omega
      obtain ⟨X, HX⟩ : ∃ X, Hid (X = F ++ b2L P) := ⟨_, rfl⟩
      rw [← HX.out] at t2 hlb
      go_wp2_with (at_builtin; refine wpList_append_bytes rfl (.tmp 74) (.tmp 76) rfl w1.heap.size _ X rfl t2.1 _ B rfl hbb hlb t2.2.2 ?_; intro v9 w9 o9 g9)
      go_ret
      have t3 := t2.app o9 g9
      have hfin := FIN.out t3
      have eX : X ++ B = segL 3 { frm := f, too := t, seq := q, ack := a, win := n, flg := g, body := B } src dst := by rw [HX.out, HP.out]; exact HZ.out
      rw [eX] at hfin
      exact ⟨_, rfl, hfin.1, hfin.2⟩
theorem refSegBytes_any (k : Int) (s : Sg) (src dst : Int) (bv : Value) (w : World) (hb : Bytes w bv s.body) (he : sgErr k s src dst = 0) :
    Calls Tryd.prog 31 #[.int .i64 k, segV s bv, .int .i64 src, .int .i64 dst] w fun e w' => ∃ v, e = .returned v ∧ OwnB w' w.heap.size v (segL k s src dst) ∧ Below w.heap.size w w' := by
  obtain ⟨ad, c, rfl⟩ := len_body hb
  obtain ⟨hk, hs, hd, hf, _, h4⟩ := sgErr_ok he
  obtain ⟨f1, f2, f3, f4, f5, f6⟩ := fitB_of hf
  have f1' := frmB_of f1
  have hm := (seqM_le k).1
  exact refSegBytes_raw k s.frm s.too s.seq s.ack s.win s.flg src dst s.body ad _ c w hb (by omega) hk hs hd ⟨f1'.1, f1'.2.1⟩ f2 ⟨f4.1, by omega⟩ f5 f3 f6
end Go.Proofs.YteijbohfakokfabDoor
