/- What check of package seg returns, for every kind, segment, source and destination: its error. -/
import Derived.Test.YtiigoeecklelpaaDoorSegFit
namespace Go.Proofs.YtiigoeecklelpaaDoor
open Go.RowKit
set_option linter.unusedVariables false

theorem fits_any (k : Int) (f t q a n g : Int) (ad : Option Addr) (l c : Nat) (w : World) :
    Calls Tryd.prog 58 #[.int .i64 k, .agg #[.int .i64 f, .int .i64 t, .int .i64 q, .int .i64 a, .int .i64 n, .int .i64 g, .slice ad l c]] w fun e w' => e = .returned (.bool (fitB k { frm := f, too := t, seq := q, ack := a, win := n, flg := g, body := [] })) ∧ Below w.heap.size w w' := fits_raw k f t q a n g ad l c w
set_option maxRecDepth 100000 in
set_option maxHeartbeats 20000000 in
theorem sgCheck_raw (k f t q a n g src dst : Int) (ad : Option Addr) (l c : Nat) (w : World) (hl : l ≤ 9223372036854775807) :
    Calls Tryd.prog 43 #[.int .i64 k, .agg #[.int .i64 f, .int .i64 t, .int .i64 q, .int .i64 a, .int .i64 n, .int .i64 g, .slice ad l c], .int .i64 src, .int .i64 dst] w fun e w' =>
      e = .returned (if (isK k && upB src 4294967295 && upB dst 4294967295 && fitB k { frm := f, too := t, seq := q, ack := a, win := n, flg := g, body := [] }) = false then .iface 55 (.int .i64 1) else if lackB k { frm := f, too := t, seq := q, ack := a, win := n, flg := g, body := [] } = true then .iface 55 (.int .i64 3) else if 4000 < l + hdN k then .iface 55 (.int .i64 4) else .nilIface) ∧ Below w.heap.size w w' := by
  have b1 : Below w.heap.size w (w.alloc (.cells #[.int .i64 f, .int .i64 t, .int .i64 q, .int .i64 a, .int .i64 n, .int .i64 g, .slice ad l c] 26)) := (Below.refl _ _).alloc (Nat.le_refl _) _
  have hf := fits_any k f t q a n g ad l c (w.alloc (.cells #[.int .i64 f, .int .i64 t, .int .i64 q, .int .i64 a, .int .i64 n, .int .i64 g, .slice ad l c] 26))
  have hp := SgAt.new w { frm := f, too := t, seq := q, ack := a, win := n, flg := g, body := [] } (.slice ad l c)
  obtain ⟨FB, hFB⟩ : ∃ b, b = fitB k { frm := f, too := t, seq := q, ack := a, win := n, flg := g, body := [] } := ⟨_, rfl⟩
  rw [← hFB] at hf ⊢
  have HB : Hid _ := b1
  clear b1 hFB
  rcases h0 : isK k with _ | _
  · rw [show (false && upB src 4294967295 && upB dst 4294967295 && FB) = false by simp, if_pos rfl]
    clear hf hp
    go_enter Tryd.func43, Tryd.ntmps43
    go_wp2_with (first
    | (go_at_call 56; refine (isKind_any _ _).mono ?_; rintro e w' ⟨rfl, rfl⟩)
    | (go_at_call 57; refine (sgAddr_any _ _).mono ?_; rintro e w' ⟨rfl, rfl⟩)
    | (go_at_call 58; refine hf.mono ?_; rintro e w2 ⟨rfl, bw2⟩))
    go_ret
    exact ⟨rfl, HB.out⟩
  rcases h1 : upB src 4294967295 with _ | _
  · rw [show (true && false && upB dst 4294967295 && FB) = false by simp, if_pos rfl]
    clear hf hp
    go_enter Tryd.func43, Tryd.ntmps43
    go_wp2_with (first
    | (go_at_call 56; refine (isKind_any _ _).mono ?_; rintro e w' ⟨rfl, rfl⟩)
    | (go_at_call 57; refine (sgAddr_any _ _).mono ?_; rintro e w' ⟨rfl, rfl⟩)
    | (go_at_call 58; refine hf.mono ?_; rintro e w2 ⟨rfl, bw2⟩))
    go_ret
    exact ⟨rfl, HB.out⟩
  rcases h2 : upB dst 4294967295 with _ | _
  · rw [show (true && true && false && FB) = false by simp, if_pos rfl]
    clear hf hp
    go_enter Tryd.func43, Tryd.ntmps43
    go_wp2_with (first
    | (go_at_call 56; refine (isKind_any _ _).mono ?_; rintro e w' ⟨rfl, rfl⟩)
    | (go_at_call 57; refine (sgAddr_any _ _).mono ?_; rintro e w' ⟨rfl, rfl⟩)
    | (go_at_call 58; refine hf.mono ?_; rintro e w2 ⟨rfl, bw2⟩))
    go_ret
    exact ⟨rfl, HB.out⟩
  rcases FB with _ | _
  · rw [show (true && true && true && false) = false by simp, if_pos rfl]
    clear hp
    go_enter Tryd.func43, Tryd.ntmps43
    go_wp2_with (first
    | (go_at_call 56; refine (isKind_any _ _).mono ?_; rintro e w' ⟨rfl, rfl⟩)
    | (go_at_call 57; refine (sgAddr_any _ _).mono ?_; rintro e w' ⟨rfl, rfl⟩)
    | (go_at_call 58; refine hf.mono ?_; rintro e w2 ⟨rfl, bw2⟩))
    go_ret
    exact ⟨rfl, HB.out.trans (bw2.mono HB.out.size)⟩
  rw [show (true && true && true && true) = true by simp, if_neg (by simp)]
  rcases isK_of h0 with rfl | rfl | rfl
  · rw [show lackB 1 { frm := f, too := t, seq := q, ack := a, win := n, flg := g, body := [] } = false by simp [lackB], if_neg (by simp)]
    by_cases h4 : 4000 < l + 17
    · rw [show hdN 1 = 17 from rfl, if_pos h4]
      go_enter Tryd.func43, Tryd.ntmps43
      go_upto_region 3 with (first
    | (go_at_call 56; refine (isKind_any _ _).mono ?_; rintro e w' ⟨rfl, rfl⟩)
    | (go_at_call 57; refine (sgAddr_any _ _).mono ?_; rintro e w' ⟨rfl, rfl⟩)
    | (go_at_call 58; refine hf.mono ?_; rintro e w2 ⟨rfl, bw2⟩))
      have bw := HB.out.trans (bw2.mono HB.out.size)
      obtain ⟨c0, c1, c2, c3, c4, c5, c6⟩ := (hp.below hp.lt bw2).cells
      simp only at c0 c1 c2 c3 c4 c5 c6
      have BW : Hid _ := bw
      clear bw bw2 HB hp hf
      go_upto_region 6 with fail
      go_quiet ((go_at_call 59; refine (head1 _).mono ?_; rintro e w' ⟨rfl, rfl⟩; exact ⟨rfl, _, rfl⟩))
      go_wp2
      go_ret
      exact ⟨rfl, below_drewN BW.out _⟩
    · rw [show hdN 1 = 17 from rfl, if_neg h4]
      go_enter Tryd.func43, Tryd.ntmps43
      go_upto_region 3 with (first
    | (go_at_call 56; refine (isKind_any _ _).mono ?_; rintro e w' ⟨rfl, rfl⟩)
    | (go_at_call 57; refine (sgAddr_any _ _).mono ?_; rintro e w' ⟨rfl, rfl⟩)
    | (go_at_call 58; refine hf.mono ?_; rintro e w2 ⟨rfl, bw2⟩))
      have bw := HB.out.trans (bw2.mono HB.out.size)
      obtain ⟨c0, c1, c2, c3, c4, c5, c6⟩ := (hp.below hp.lt bw2).cells
      simp only at c0 c1 c2 c3 c4 c5 c6
      have BW : Hid _ := bw
      clear bw bw2 HB hp hf
      go_upto_region 6 with fail
      go_quiet ((go_at_call 59; refine (head1 _).mono ?_; rintro e w' ⟨rfl, rfl⟩; exact ⟨rfl, _, rfl⟩))
      go_wp2
      go_ret
      exact ⟨rfl, below_drewN BW.out _⟩
  · by_cases xq : q = 0
    rotate_left
    · rw [if_pos (show lackB 2 { frm := f, too := t, seq := q, ack := a, win := n, flg := g, body := [] } = true by simp [lackB, xq])]
      have yq : (q != 0) = true := by simpa using xq
      clear xq
      go_enter Tryd.func43, Tryd.ntmps43
      go_upto_region 3 with (first
    | (go_at_call 56; refine (isKind_any _ _).mono ?_; rintro e w' ⟨rfl, rfl⟩)
    | (go_at_call 57; refine (sgAddr_any _ _).mono ?_; rintro e w' ⟨rfl, rfl⟩)
    | (go_at_call 58; refine hf.mono ?_; rintro e w2 ⟨rfl, bw2⟩))
      have bw := HB.out.trans (bw2.mono HB.out.size)
      obtain ⟨c0, c1, c2, c3, c4, c5, c6⟩ := (hp.below hp.lt bw2).cells
      simp only at c0 c1 c2 c3 c4 c5 c6
      have BW : Hid _ := bw
      clear bw bw2 HB hp hf
      go_wp2
      go_ret
      exact ⟨rfl, BW.out⟩
    have yq : (q != 0) = false := by simp [xq]
    by_cases xa : a = 0
    rotate_left
    · rw [if_pos (show lackB 2 { frm := f, too := t, seq := q, ack := a, win := n, flg := g, body := [] } = true by simp [lackB, xa])]
      have ya : (a != 0) = true := by simpa using xa
      clear xq xa
      go_enter Tryd.func43, Tryd.ntmps43
      go_upto_region 3 with (first
    | (go_at_call 56; refine (isKind_any _ _).mono ?_; rintro e w' ⟨rfl, rfl⟩)
    | (go_at_call 57; refine (sgAddr_any _ _).mono ?_; rintro e w' ⟨rfl, rfl⟩)
    | (go_at_call 58; refine hf.mono ?_; rintro e w2 ⟨rfl, bw2⟩))
      have bw := HB.out.trans (bw2.mono HB.out.size)
      obtain ⟨c0, c1, c2, c3, c4, c5, c6⟩ := (hp.below hp.lt bw2).cells
      simp only at c0 c1 c2 c3 c4 c5 c6
      have BW : Hid _ := bw
      clear bw bw2 HB hp hf
      go_wp2
      go_ret
      exact ⟨rfl, BW.out⟩
    have ya : (a != 0) = false := by simp [xa]
    by_cases xn : n = 0
    rotate_left
    · rw [if_pos (show lackB 2 { frm := f, too := t, seq := q, ack := a, win := n, flg := g, body := [] } = true by simp [lackB, xn])]
      have yn : (n != 0) = true := by simpa using xn
      clear xq xa xn
      go_enter Tryd.func43, Tryd.ntmps43
      go_upto_region 3 with (first
    | (go_at_call 56; refine (isKind_any _ _).mono ?_; rintro e w' ⟨rfl, rfl⟩)
    | (go_at_call 57; refine (sgAddr_any _ _).mono ?_; rintro e w' ⟨rfl, rfl⟩)
    | (go_at_call 58; refine hf.mono ?_; rintro e w2 ⟨rfl, bw2⟩))
      have bw := HB.out.trans (bw2.mono HB.out.size)
      obtain ⟨c0, c1, c2, c3, c4, c5, c6⟩ := (hp.below hp.lt bw2).cells
      simp only at c0 c1 c2 c3 c4 c5 c6
      have BW : Hid _ := bw
      clear bw bw2 HB hp hf
      go_wp2
      go_ret
      exact ⟨rfl, BW.out⟩
    have yn : (n != 0) = false := by simp [xn]
    by_cases xg : g = 0
    rotate_left
    · rw [if_pos (show lackB 2 { frm := f, too := t, seq := q, ack := a, win := n, flg := g, body := [] } = true by simp [lackB, xg])]
      have yg : (g != 0) = true := by simpa using xg
      clear xq xa xn xg
      go_enter Tryd.func43, Tryd.ntmps43
      go_upto_region 3 with (first
    | (go_at_call 56; refine (isKind_any _ _).mono ?_; rintro e w' ⟨rfl, rfl⟩)
    | (go_at_call 57; refine (sgAddr_any _ _).mono ?_; rintro e w' ⟨rfl, rfl⟩)
    | (go_at_call 58; refine hf.mono ?_; rintro e w2 ⟨rfl, bw2⟩))
      have bw := HB.out.trans (bw2.mono HB.out.size)
      obtain ⟨c0, c1, c2, c3, c4, c5, c6⟩ := (hp.below hp.lt bw2).cells
      simp only at c0 c1 c2 c3 c4 c5 c6
      have BW : Hid _ := bw
      clear bw bw2 HB hp hf
      go_wp2
      go_ret
      exact ⟨rfl, BW.out⟩
    have yg : (g != 0) = false := by simp [xg]
    rw [show lackB 2 { frm := f, too := t, seq := q, ack := a, win := n, flg := g, body := [] } = false by simp [lackB, xq, xa, xn, xg], if_neg (by simp)]
    by_cases h4 : 4000 < l + 6
    · rw [show hdN 2 = 6 from rfl, if_pos h4]
      clear xq xa xn xg
      go_enter Tryd.func43, Tryd.ntmps43
      go_upto_region 3 with (first
    | (go_at_call 56; refine (isKind_any _ _).mono ?_; rintro e w' ⟨rfl, rfl⟩)
    | (go_at_call 57; refine (sgAddr_any _ _).mono ?_; rintro e w' ⟨rfl, rfl⟩)
    | (go_at_call 58; refine hf.mono ?_; rintro e w2 ⟨rfl, bw2⟩))
      have bw := HB.out.trans (bw2.mono HB.out.size)
      obtain ⟨c0, c1, c2, c3, c4, c5, c6⟩ := (hp.below hp.lt bw2).cells
      simp only at c0 c1 c2 c3 c4 c5 c6
      have BW : Hid _ := bw
      clear bw bw2 HB hp hf
      go_upto_region 6 with fail
      go_quiet ((go_at_call 59; refine (head2 _).mono ?_; rintro e w' ⟨rfl, rfl⟩; exact ⟨rfl, _, rfl⟩))
      go_wp2
      go_ret
      exact ⟨rfl, below_drewN BW.out _⟩
    · rw [show hdN 2 = 6 from rfl, if_neg h4]
      clear xq xa xn xg
      go_enter Tryd.func43, Tryd.ntmps43
      go_upto_region 3 with (first
    | (go_at_call 56; refine (isKind_any _ _).mono ?_; rintro e w' ⟨rfl, rfl⟩)
    | (go_at_call 57; refine (sgAddr_any _ _).mono ?_; rintro e w' ⟨rfl, rfl⟩)
    | (go_at_call 58; refine hf.mono ?_; rintro e w2 ⟨rfl, bw2⟩))
      have bw := HB.out.trans (bw2.mono HB.out.size)
      obtain ⟨c0, c1, c2, c3, c4, c5, c6⟩ := (hp.below hp.lt bw2).cells
      simp only at c0 c1 c2 c3 c4 c5 c6
      have BW : Hid _ := bw
      clear bw bw2 HB hp hf
      go_upto_region 6 with fail
      go_quiet ((go_at_call 59; refine (head2 _).mono ?_; rintro e w' ⟨rfl, rfl⟩; exact ⟨rfl, _, rfl⟩))
      go_wp2
      go_ret
      exact ⟨rfl, below_drewN BW.out _⟩
  · by_cases xa : a = 0
    rotate_left
    · rw [if_pos (show lackB 3 { frm := f, too := t, seq := q, ack := a, win := n, flg := g, body := [] } = true by simp [lackB, xa])]
      have ya : (a != 0) = true := by simpa using xa
      clear xa
      go_enter Tryd.func43, Tryd.ntmps43
      go_upto_region 3 with (first
    | (go_at_call 56; refine (isKind_any _ _).mono ?_; rintro e w' ⟨rfl, rfl⟩)
    | (go_at_call 57; refine (sgAddr_any _ _).mono ?_; rintro e w' ⟨rfl, rfl⟩)
    | (go_at_call 58; refine hf.mono ?_; rintro e w2 ⟨rfl, bw2⟩))
      have bw := HB.out.trans (bw2.mono HB.out.size)
      obtain ⟨c0, c1, c2, c3, c4, c5, c6⟩ := (hp.below hp.lt bw2).cells
      simp only at c0 c1 c2 c3 c4 c5 c6
      have BW : Hid _ := bw
      clear bw bw2 HB hp hf
      go_wp2
      go_ret
      exact ⟨rfl, BW.out⟩
    have ya : (a != 0) = false := by simp [xa]
    by_cases xn : n = 0
    rotate_left
    · rw [if_pos (show lackB 3 { frm := f, too := t, seq := q, ack := a, win := n, flg := g, body := [] } = true by simp [lackB, xn])]
      have yn : (n != 0) = true := by simpa using xn
      clear xa xn
      go_enter Tryd.func43, Tryd.ntmps43
      go_upto_region 3 with (first
    | (go_at_call 56; refine (isKind_any _ _).mono ?_; rintro e w' ⟨rfl, rfl⟩)
    | (go_at_call 57; refine (sgAddr_any _ _).mono ?_; rintro e w' ⟨rfl, rfl⟩)
    | (go_at_call 58; refine hf.mono ?_; rintro e w2 ⟨rfl, bw2⟩))
      have bw := HB.out.trans (bw2.mono HB.out.size)
      obtain ⟨c0, c1, c2, c3, c4, c5, c6⟩ := (hp.below hp.lt bw2).cells
      simp only at c0 c1 c2 c3 c4 c5 c6
      have BW : Hid _ := bw
      clear bw bw2 HB hp hf
      go_wp2
      go_ret
      exact ⟨rfl, BW.out⟩
    have yn : (n != 0) = false := by simp [xn]
    by_cases xg : g = 0
    rotate_left
    · rw [if_pos (show lackB 3 { frm := f, too := t, seq := q, ack := a, win := n, flg := g, body := [] } = true by simp [lackB, xg])]
      have yg : (g != 0) = true := by simpa using xg
      clear xa xn xg
      go_enter Tryd.func43, Tryd.ntmps43
      go_upto_region 3 with (first
    | (go_at_call 56; refine (isKind_any _ _).mono ?_; rintro e w' ⟨rfl, rfl⟩)
    | (go_at_call 57; refine (sgAddr_any _ _).mono ?_; rintro e w' ⟨rfl, rfl⟩)
    | (go_at_call 58; refine hf.mono ?_; rintro e w2 ⟨rfl, bw2⟩))
      have bw := HB.out.trans (bw2.mono HB.out.size)
      obtain ⟨c0, c1, c2, c3, c4, c5, c6⟩ := (hp.below hp.lt bw2).cells
      simp only at c0 c1 c2 c3 c4 c5 c6
      have BW : Hid _ := bw
      clear bw bw2 HB hp hf
      go_wp2
      go_ret
      exact ⟨rfl, BW.out⟩
    have yg : (g != 0) = false := by simp [xg]
    rw [show lackB 3 { frm := f, too := t, seq := q, ack := a, win := n, flg := g, body := [] } = false by simp [lackB, xa, xn, xg], if_neg (by simp)]
    by_cases h4 : 4000 < l + 8
    · rw [show hdN 3 = 8 from rfl, if_pos h4]
      clear xa xn xg
      go_enter Tryd.func43, Tryd.ntmps43
      go_upto_region 3 with (first
    | (go_at_call 56; refine (isKind_any _ _).mono ?_; rintro e w' ⟨rfl, rfl⟩)
    | (go_at_call 57; refine (sgAddr_any _ _).mono ?_; rintro e w' ⟨rfl, rfl⟩)
    | (go_at_call 58; refine hf.mono ?_; rintro e w2 ⟨rfl, bw2⟩))
      have bw := HB.out.trans (bw2.mono HB.out.size)
      obtain ⟨c0, c1, c2, c3, c4, c5, c6⟩ := (hp.below hp.lt bw2).cells
      simp only at c0 c1 c2 c3 c4 c5 c6
      have BW : Hid _ := bw
      clear bw bw2 HB hp hf
      go_upto_region 6 with fail
      go_quiet ((go_at_call 59; refine (head3 _).mono ?_; rintro e w' ⟨rfl, rfl⟩; exact ⟨rfl, _, rfl⟩))
      go_wp2
      go_ret
      exact ⟨rfl, below_drewN BW.out _⟩
    · rw [show hdN 3 = 8 from rfl, if_neg h4]
      clear xa xn xg
      go_enter Tryd.func43, Tryd.ntmps43
      go_upto_region 3 with (first
    | (go_at_call 56; refine (isKind_any _ _).mono ?_; rintro e w' ⟨rfl, rfl⟩)
    | (go_at_call 57; refine (sgAddr_any _ _).mono ?_; rintro e w' ⟨rfl, rfl⟩)
    | (go_at_call 58; refine hf.mono ?_; rintro e w2 ⟨rfl, bw2⟩))
      have bw := HB.out.trans (bw2.mono HB.out.size)
      obtain ⟨c0, c1, c2, c3, c4, c5, c6⟩ := (hp.below hp.lt bw2).cells
      simp only at c0 c1 c2 c3 c4 c5 c6
      have BW : Hid _ := bw
      clear bw bw2 HB hp hf
      go_upto_region 6 with fail
      go_quiet ((go_at_call 59; refine (head3 _).mono ?_; rintro e w' ⟨rfl, rfl⟩; exact ⟨rfl, _, rfl⟩))
      go_wp2
      go_ret
      exact ⟨rfl, below_drewN BW.out _⟩
theorem sgCheck_any (k : Int) (s : Sg) (src dst : Int) (bv : Value) (w : World) (hb : Bytes w bv s.body) :
    Calls Tryd.prog 43 #[.int .i64 k, segV s bv, .int .i64 src, .int .i64 dst] w fun e w' => e = .returned (errV (sgErr k s src dst)) ∧ Below w.heap.size w w' := by
  have hl : s.body.length ≤ 9223372036854775807 := by
    rcases hb with ⟨h, _⟩ | ⟨b, off, len, cap, _, h1, h2, h3, h4, _⟩
    · rw [h]; simp
    · rw [h4]; omega
  obtain ⟨ad, c, rfl⟩ := len_body hb
  refine (sgCheck_raw k s.frm s.too s.seq s.ack s.win s.flg src dst ad s.body.length c w hl).mono ?_
  rintro e w' ⟨rfl, hw⟩
  refine ⟨?_, hw⟩
  show Ending.returned (if (isK k && upB src 4294967295 && upB dst 4294967295 && fitB k s) = false then .iface 55 (.int .i64 1) else if lackB k s = true then .iface 55 (.int .i64 3) else if 4000 < s.body.length + hdN k then .iface 55 (.int .i64 4) else .nilIface) = _
  unfold errV sgErr
  congr 1
  by_cases h : (isK k && upB src 4294967295 && upB dst 4294967295 && fitB k s) = false
  · rw [if_pos h, if_pos h, if_neg (by decide)]
  · rw [if_neg h, if_neg h]
    by_cases h2 : lackB k s = true
    · rw [if_pos h2, if_pos h2, if_neg (by decide)]
    · rw [if_neg h2, if_neg h2]
      by_cases h3 : 4000 < s.body.length + hdN k
      · rw [if_pos h3, if_pos h3, if_neg (by decide)]
      · rw [if_neg h3, if_neg h3, if_pos rfl]
end Go.Proofs.YtiigoeecklelpaaDoor
