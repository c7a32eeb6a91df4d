/- What the reference's Word, Size and Segment return (package portref1): the fault of a segment, for every kind, segment, source and destination. -/
import Derived.Test.YtdhjfjnjdkmhjaaDoorMgG
import Derived.Test.YtdhjfjnjdkmhjaaDoorMgD
namespace Go.Proofs.YtdhjfjnjdkmhjaaDoor
open Go.RowKit
set_option linter.unusedVariables false

theorem refWord_any (n : Int) (w : World) :
    Calls Tryd.prog 33 #[.int .i64 n] w fun e w' => e = .returned (.bool (upB n 65535)) ∧ w' = w := by
  by_cases h0 : 0 ≤ n
  · by_cases h1 : n ≤ 65535
    · rw [upB_yes h0 h1]
      go_enter Tryd.func33, Tryd.ntmps33
      go_wp2
      go_ret
      exact ⟨rfl, rfl⟩
    · rw [show upB n 65535 = false by simp [upB]; omega]
      go_enter Tryd.func33, Tryd.ntmps33
      go_wp2
      go_ret
      exact ⟨rfl, rfl⟩
  · rw [show upB n 65535 = false by simp [upB]; omega]
    go_enter Tryd.func33, Tryd.ntmps33
    go_wp2
    go_ret
    exact ⟨rfl, rfl⟩
theorem refAddr_up (n : Int) (w : World) :
    Calls Tryd.prog 32 #[.int .i64 n] w fun e w' => e = .returned (.bool (upB n 4294967295)) ∧ w' = w := refAddr_any n w
theorem size1 (w : World) : Calls Tryd.prog 39 #[.int .i64 1] w fun e w' => e = .returned (.int .i64 17) ∧ w' = w := by
  go_enter Tryd.func39, Tryd.ntmps39
  go_wp2
  go_ret
  exact ⟨rfl, rfl⟩
theorem size2 (w : World) : Calls Tryd.prog 39 #[.int .i64 2] w fun e w' => e = .returned (.int .i64 6) ∧ w' = w := by
  go_enter Tryd.func39, Tryd.ntmps39
  go_wp2
  go_ret
  exact ⟨rfl, rfl⟩
theorem size3 (w : World) : Calls Tryd.prog 39 #[.int .i64 3] w fun e w' => e = .returned (.int .i64 8) ∧ w' = w := by
  go_enter Tryd.func39, Tryd.ntmps39
  go_wp2
  go_ret
  exact ⟨rfl, rfl⟩
theorem upB_no {n m : Int} (h : upB n m = false) : ¬ (0 ≤ n ∧ n ≤ m) := by simpa [upB] using h
theorem frm_no {k n : Int} (h : upB n 65535 = false) : frmB k n = false := by
  have := upB_no h
  unfold frmB
  split
  · simp [upB]; omega
  · exact h
theorem seq_no {k n : Int} (h : upB n 4294967295 = false) : upB n (seqM k) = false := by
  have := upB_no h
  have := (seqM_le k).1
  simp [upB]; omega

set_option maxRecDepth 100000 in
set_option maxHeartbeats 20000000 in
theorem refSegment_raw (k f t q a n g src dst : Int) (ad : Option Addr) (l c : Nat) (w : World) (hl : l < 2 ^ 62) :
    Calls Tryd.prog 21 #[.int .i64 k, .agg #[.int .i64 f, .int .i64 t, .int .i64 q, .int .i64 a, .int .i64 n, .int .i64 g, .slice ad l c], .int .i64 src, .int .i64 dst] w fun e w' =>
      e = .returned (.int .i64 (if (isK k && upB src 4294967295 && upB dst 4294967295 && fitB k { frm := f, too := t, seq := q, ack := a, win := n, flg := g, body := [] }) = false then 1 else if lackB k { frm := f, too := t, seq := q, ack := a, win := n, flg := g, body := [] } = true then 3 else if 4000 < l + hdN k then 4 else 0)) ∧ Below w.heap.size w w' := by
  have b1 : Below w.heap.size w (w.alloc (.cells #[.int .i64 f, .int .i64 t, .int .i64 q, .int .i64 a, .int .i64 n, .int .i64 g, .slice ad l c] 26)) := (Below.refl _ _).alloc (Nat.le_refl _) _
  have HB : Hid _ := b1
  clear b1
  obtain ⟨e0, HE⟩ : ∃ e0 : Int, Hid (e0 = if (isK k && upB src 4294967295 && upB dst 4294967295 && fitB k { frm := f, too := t, seq := q, ack := a, win := n, flg := g, body := [] }) = false then 1 else if lackB k { frm := f, too := t, seq := q, ack := a, win := n, flg := g, body := [] } = true then 3 else if 4000 < l + hdN k then 4 else 0) := ⟨_, rfl⟩
  rw [← HE.out]
  by_cases x0 : k < 1
  · as_aux_lemma =>
      have E1 : Hid ((1 : Int) = e0) := by show (1 : Int) = e0; rw [HE.out, if_pos (show _ = false from by rw [show isK k = false by simp [isK]; omega]; simp)]
      clear HE
      go_enter Tryd.func21, Tryd.ntmps21
      go_wp2_with (first
        | (go_at_call 32; refine (refAddr_up _ _).mono ?_; rintro e w' ⟨rfl, rfl⟩)
        | (go_at_call 33; refine (refWord_any _ _).mono ?_; rintro e w' ⟨rfl, rfl⟩))
      go_ret
      exact ⟨ret_int E1.out, HB.out⟩
  by_cases x1 : 3 < k
  · as_aux_lemma =>
      have E1 : Hid ((1 : Int) = e0) := by show (1 : Int) = e0; rw [HE.out, if_pos (show _ = false from by rw [show isK k = false by simp [isK]; omega]; simp)]
      clear HE
      go_enter Tryd.func21, Tryd.ntmps21
      go_wp2_with (first
        | (go_at_call 32; refine (refAddr_up _ _).mono ?_; rintro e w' ⟨rfl, rfl⟩)
        | (go_at_call 33; refine (refWord_any _ _).mono ?_; rintro e w' ⟨rfl, rfl⟩))
      go_ret
      exact ⟨ret_int E1.out, HB.out⟩
  rcases xa : upB src 4294967295 with _ | _
  · as_aux_lemma =>
      have E1 : Hid ((1 : Int) = e0) := by show (1 : Int) = e0; rw [HE.out, if_pos (show _ = false from by simp [xa])]
      clear HE
      go_enter Tryd.func21, Tryd.ntmps21
      go_wp2_with (first
        | (go_at_call 32; refine (refAddr_up _ _).mono ?_; rintro e w' ⟨rfl, rfl⟩)
        | (go_at_call 33; refine (refWord_any _ _).mono ?_; rintro e w' ⟨rfl, rfl⟩))
      go_ret
      exact ⟨ret_int E1.out, HB.out⟩
  rcases xb : upB dst 4294967295 with _ | _
  · as_aux_lemma =>
      have E1 : Hid ((1 : Int) = e0) := by show (1 : Int) = e0; rw [HE.out, if_pos (show _ = false from by simp [xb])]
      clear HE
      go_enter Tryd.func21, Tryd.ntmps21
      go_wp2_with (first
        | (go_at_call 32; refine (refAddr_up _ _).mono ?_; rintro e w' ⟨rfl, rfl⟩)
        | (go_at_call 33; refine (refWord_any _ _).mono ?_; rintro e w' ⟨rfl, rfl⟩))
      go_ret
      exact ⟨ret_int E1.out, HB.out⟩
  rcases xc : upB f 65535 with _ | _
  · as_aux_lemma =>
      have E1 : Hid ((1 : Int) = e0) := by show (1 : Int) = e0; rw [HE.out, if_pos (show _ = false from by simp [fitB, frm_no xc])]
      clear HE
      go_enter Tryd.func21, Tryd.ntmps21
      go_wp2_with (first
        | (go_at_call 32; refine (refAddr_up _ _).mono ?_; rintro e w' ⟨rfl, rfl⟩)
        | (go_at_call 33; refine (refWord_any _ _).mono ?_; rintro e w' ⟨rfl, rfl⟩))
      go_ret
      exact ⟨ret_int E1.out, HB.out⟩
  rcases xd : upB t 65535 with _ | _
  · as_aux_lemma =>
      have E1 : Hid ((1 : Int) = e0) := by show (1 : Int) = e0; rw [HE.out, if_pos (show _ = false from by simp [fitB, xd])]
      clear HE
      go_enter Tryd.func21, Tryd.ntmps21
      go_wp2_with (first
        | (go_at_call 32; refine (refAddr_up _ _).mono ?_; rintro e w' ⟨rfl, rfl⟩)
        | (go_at_call 33; refine (refWord_any _ _).mono ?_; rintro e w' ⟨rfl, rfl⟩))
      go_ret
      exact ⟨ret_int E1.out, HB.out⟩
  rcases xe : upB n 65535 with _ | _
  · as_aux_lemma =>
      have E1 : Hid ((1 : Int) = e0) := by show (1 : Int) = e0; rw [HE.out, if_pos (show _ = false from by simp [fitB, xe])]
      clear HE
      go_enter Tryd.func21, Tryd.ntmps21
      go_wp2_with (first
        | (go_at_call 32; refine (refAddr_up _ _).mono ?_; rintro e w' ⟨rfl, rfl⟩)
        | (go_at_call 33; refine (refWord_any _ _).mono ?_; rintro e w' ⟨rfl, rfl⟩))
      go_ret
      exact ⟨ret_int E1.out, HB.out⟩
  rcases xf : upB q 4294967295 with _ | _
  · as_aux_lemma =>
      have E1 : Hid ((1 : Int) = e0) := by show (1 : Int) = e0; rw [HE.out, if_pos (show _ = false from by simp [fitB, seq_no xf])]
      clear HE
      go_enter Tryd.func21, Tryd.ntmps21
      go_wp2_with (first
        | (go_at_call 32; refine (refAddr_up _ _).mono ?_; rintro e w' ⟨rfl, rfl⟩)
        | (go_at_call 33; refine (refWord_any _ _).mono ?_; rintro e w' ⟨rfl, rfl⟩))
      go_ret
      exact ⟨ret_int E1.out, HB.out⟩
  rcases xg : upB a 4294967295 with _ | _
  · as_aux_lemma =>
      have E1 : Hid ((1 : Int) = e0) := by show (1 : Int) = e0; rw [HE.out, if_pos (show _ = false from by simp [fitB, xg])]
      clear HE
      go_enter Tryd.func21, Tryd.ntmps21
      go_wp2_with (first
        | (go_at_call 32; refine (refAddr_up _ _).mono ?_; rintro e w' ⟨rfl, rfl⟩)
        | (go_at_call 33; refine (refWord_any _ _).mono ?_; rintro e w' ⟨rfl, rfl⟩))
      go_ret
      exact ⟨ret_int E1.out, HB.out⟩
  by_cases x2 : g < 0
  · as_aux_lemma =>
      have E1 : Hid ((1 : Int) = e0) := by show (1 : Int) = e0; rw [HE.out, if_pos (show _ = false from by simp [fitB, show upB g 15 = false by simp [upB]; omega])]
      clear HE
      go_enter Tryd.func21, Tryd.ntmps21
      go_wp2_with (first
        | (go_at_call 32; refine (refAddr_up _ _).mono ?_; rintro e w' ⟨rfl, rfl⟩)
        | (go_at_call 33; refine (refWord_any _ _).mono ?_; rintro e w' ⟨rfl, rfl⟩))
      go_ret
      exact ⟨ret_int E1.out, HB.out⟩
  by_cases x3 : 15 < g
  · as_aux_lemma =>
      have E1 : Hid ((1 : Int) = e0) := by show (1 : Int) = e0; rw [HE.out, if_pos (show _ = false from by simp [fitB, show upB g 15 = false by simp [upB]; omega])]
      clear HE
      go_enter Tryd.func21, Tryd.ntmps21
      go_wp2_with (first
        | (go_at_call 32; refine (refAddr_up _ _).mono ?_; rintro e w' ⟨rfl, rfl⟩)
        | (go_at_call 33; refine (refWord_any _ _).mono ?_; rintro e w' ⟨rfl, rfl⟩))
      go_ret
      exact ⟨ret_int E1.out, HB.out⟩
  have hk3 : k = 1 ∨ k = 2 ∨ k = 3 := by omega
  have xh : upB g 15 = true := upB_yes (by omega) (by omega)
  rcases hk3 with rfl | rfl | rfl
  · have hfit : (isK 1 && upB src 4294967295 && upB dst 4294967295 && fitB 1 { frm := f, too := t, seq := q, ack := a, win := n, flg := g, body := [] }) = true := by simp [isK, xa, xb, fitB, frmB, seqM, xc, xd, xe, xf, xg, xh]
    by_cases h4 : 4000 < l + 17
    · as_aux_lemma =>
        have E1 : Hid ((4 : Int) = e0) := by show (4 : Int) = e0; rw [HE.out, hfit, if_neg (by simp), show lackB 1 { frm := f, too := t, seq := q, ack := a, win := n, flg := g, body := [] } = false by simp [lackB], if_neg (by simp), show hdN 1 = 17 from rfl, if_pos h4]
        clear HE hfit
        go_enter Tryd.func21, Tryd.ntmps21
        go_upto_region 13 with (first
          | (go_at_call 32; refine (refAddr_up _ _).mono ?_; rintro e w' ⟨rfl, rfl⟩)
          | (go_at_call 33; refine (refWord_any _ _).mono ?_; rintro e w' ⟨rfl, rfl⟩))
        go_quiet ((go_at_call 39; refine (size1 _).mono ?_; rintro e w' ⟨rfl, rfl⟩; exact ⟨rfl, _, rfl⟩))
        go_wp2
        go_ret
        exact ⟨ret_int E1.out, below_drewN HB.out _⟩
    · as_aux_lemma =>
        have E1 : Hid ((0 : Int) = e0) := by show (0 : Int) = e0; rw [HE.out, hfit, if_neg (by simp), show lackB 1 { frm := f, too := t, seq := q, ack := a, win := n, flg := g, body := [] } = false by simp [lackB], if_neg (by simp), show hdN 1 = 17 from rfl, if_neg h4]
        clear HE hfit
        go_enter Tryd.func21, Tryd.ntmps21
        go_upto_region 13 with (first
          | (go_at_call 32; refine (refAddr_up _ _).mono ?_; rintro e w' ⟨rfl, rfl⟩)
          | (go_at_call 33; refine (refWord_any _ _).mono ?_; rintro e w' ⟨rfl, rfl⟩))
        go_quiet ((go_at_call 39; refine (size1 _).mono ?_; rintro e w' ⟨rfl, rfl⟩; exact ⟨rfl, _, rfl⟩))
        go_wp2
        go_ret
        exact ⟨ret_int E1.out, below_drewN HB.out _⟩
  · have hfit : (isK 2 && upB src 4294967295 && upB dst 4294967295 && fitB 2 { frm := f, too := t, seq := q, ack := a, win := n, flg := g, body := [] }) = true := by simp [isK, xa, xb, fitB, frmB, seqM, xc, xd, xe, xf, xg, xh]
    by_cases za : a = 0
    rotate_left
    · as_aux_lemma =>
        have E1 : Hid ((3 : Int) = e0) := by show (3 : Int) = e0; rw [HE.out, hfit, if_neg (by simp), if_pos (show lackB 2 { frm := f, too := t, seq := q, ack := a, win := n, flg := g, body := [] } = true by simp [lackB, za])]
        have ya : (a != 0) = true := by simpa using za
        clear HE hfit za
        go_enter Tryd.func21, Tryd.ntmps21
        go_wp2_with (first
          | (go_at_call 32; refine (refAddr_up _ _).mono ?_; rintro e w' ⟨rfl, rfl⟩)
          | (go_at_call 33; refine (refWord_any _ _).mono ?_; rintro e w' ⟨rfl, rfl⟩))
        go_ret
        exact ⟨ret_int E1.out, HB.out⟩
    have ya : (a != 0) = false := by simp [za]
    by_cases zn : n = 0
    rotate_left
    · as_aux_lemma =>
        have E1 : Hid ((3 : Int) = e0) := by show (3 : Int) = e0; rw [HE.out, hfit, if_neg (by simp), if_pos (show lackB 2 { frm := f, too := t, seq := q, ack := a, win := n, flg := g, body := [] } = true by simp [lackB, zn])]
        have yn : (n != 0) = true := by simpa using zn
        clear HE hfit zn za
        go_enter Tryd.func21, Tryd.ntmps21
        go_wp2_with (first
          | (go_at_call 32; refine (refAddr_up _ _).mono ?_; rintro e w' ⟨rfl, rfl⟩)
          | (go_at_call 33; refine (refWord_any _ _).mono ?_; rintro e w' ⟨rfl, rfl⟩))
        go_ret
        exact ⟨ret_int E1.out, HB.out⟩
    have yn : (n != 0) = false := by simp [zn]
    by_cases zg : g = 0
    rotate_left
    · as_aux_lemma =>
        have E1 : Hid ((3 : Int) = e0) := by show (3 : Int) = e0; rw [HE.out, hfit, if_neg (by simp), if_pos (show lackB 2 { frm := f, too := t, seq := q, ack := a, win := n, flg := g, body := [] } = true by simp [lackB, zg])]
        have yg : (g != 0) = true := by simpa using zg
        clear HE hfit zg za zn
        go_enter Tryd.func21, Tryd.ntmps21
        go_wp2_with (first
          | (go_at_call 32; refine (refAddr_up _ _).mono ?_; rintro e w' ⟨rfl, rfl⟩)
          | (go_at_call 33; refine (refWord_any _ _).mono ?_; rintro e w' ⟨rfl, rfl⟩))
        go_ret
        exact ⟨ret_int E1.out, HB.out⟩
    have yg : (g != 0) = false := by simp [zg]
    by_cases zq : q = 0
    rotate_left
    · as_aux_lemma =>
        have E1 : Hid ((3 : Int) = e0) := by show (3 : Int) = e0; rw [HE.out, hfit, if_neg (by simp), if_pos (show lackB 2 { frm := f, too := t, seq := q, ack := a, win := n, flg := g, body := [] } = true by simp [lackB, zq])]
        have yq : (q != 0) = true := by simpa using zq
        clear HE hfit zq za zn zg
        go_enter Tryd.func21, Tryd.ntmps21
        go_wp2_with (first
          | (go_at_call 32; refine (refAddr_up _ _).mono ?_; rintro e w' ⟨rfl, rfl⟩)
          | (go_at_call 33; refine (refWord_any _ _).mono ?_; rintro e w' ⟨rfl, rfl⟩))
        go_ret
        exact ⟨ret_int E1.out, HB.out⟩
    have yq : (q != 0) = false := by simp [zq]
    by_cases h4 : 4000 < l + 6
    · as_aux_lemma =>
        have E1 : Hid ((4 : Int) = e0) := by show (4 : Int) = e0; rw [HE.out, hfit, if_neg (by simp), show lackB 2 { frm := f, too := t, seq := q, ack := a, win := n, flg := g, body := [] } = false by simp [lackB, za, zn, zg, zq], if_neg (by simp), show hdN 2 = 6 from rfl, if_pos h4]
        clear HE hfit za zn zg zq
        go_enter Tryd.func21, Tryd.ntmps21
        go_upto_region 13 with (first
          | (go_at_call 32; refine (refAddr_up _ _).mono ?_; rintro e w' ⟨rfl, rfl⟩)
          | (go_at_call 33; refine (refWord_any _ _).mono ?_; rintro e w' ⟨rfl, rfl⟩))
        go_quiet ((go_at_call 39; refine (size2 _).mono ?_; rintro e w' ⟨rfl, rfl⟩; exact ⟨rfl, _, rfl⟩))
        go_wp2
        go_ret
        exact ⟨ret_int E1.out, below_drewN HB.out _⟩
    · as_aux_lemma =>
        have E1 : Hid ((0 : Int) = e0) := by show (0 : Int) = e0; rw [HE.out, hfit, if_neg (by simp), show lackB 2 { frm := f, too := t, seq := q, ack := a, win := n, flg := g, body := [] } = false by simp [lackB, za, zn, zg, zq], if_neg (by simp), show hdN 2 = 6 from rfl, if_neg h4]
        clear HE hfit za zn zg zq
        go_enter Tryd.func21, Tryd.ntmps21
        go_upto_region 13 with (first
          | (go_at_call 32; refine (refAddr_up _ _).mono ?_; rintro e w' ⟨rfl, rfl⟩)
          | (go_at_call 33; refine (refWord_any _ _).mono ?_; rintro e w' ⟨rfl, rfl⟩))
        go_quiet ((go_at_call 39; refine (size2 _).mono ?_; rintro e w' ⟨rfl, rfl⟩; exact ⟨rfl, _, rfl⟩))
        go_wp2
        go_ret
        exact ⟨ret_int E1.out, below_drewN HB.out _⟩
  · by_cases x4 : 1 < f
    · as_aux_lemma =>
        have E1 : Hid ((1 : Int) = e0) := by show (1 : Int) = e0; rw [HE.out, if_pos (show _ = false from by simp [fitB, frmB, show upB f 1 = false by simp [upB]; omega])]
        clear HE
        go_enter Tryd.func21, Tryd.ntmps21
        go_wp2_with (first
          | (go_at_call 32; refine (refAddr_up _ _).mono ?_; rintro e w' ⟨rfl, rfl⟩)
          | (go_at_call 33; refine (refWord_any _ _).mono ?_; rintro e w' ⟨rfl, rfl⟩))
        go_ret
        exact ⟨ret_int E1.out, HB.out⟩
    rcases xi : upB q 65535 with _ | _
    · as_aux_lemma =>
        have E1 : Hid ((1 : Int) = e0) := by show (1 : Int) = e0; rw [HE.out, if_pos (show _ = false from by simp [fitB, seqM, xi])]
        clear HE
        go_enter Tryd.func21, Tryd.ntmps21
        go_wp2_with (first
          | (go_at_call 32; refine (refAddr_up _ _).mono ?_; rintro e w' ⟨rfl, rfl⟩)
          | (go_at_call 33; refine (refWord_any _ _).mono ?_; rintro e w' ⟨rfl, rfl⟩))
        go_ret
        exact ⟨ret_int E1.out, HB.out⟩
    have y1 : upB f 1 = true := by have := of_upB xc; exact upB_yes (by omega) (by omega)
    have y2 := xi
    have hfit : (isK 3 && upB src 4294967295 && upB dst 4294967295 && fitB 3 { frm := f, too := t, seq := q, ack := a, win := n, flg := g, body := [] }) = true := by simp [isK, xa, xb, fitB, frmB, seqM, xd, xe, xg, xh, y1, y2]
    by_cases za : a = 0
    rotate_left
    · as_aux_lemma =>
        have E1 : Hid ((3 : Int) = e0) := by show (3 : Int) = e0; rw [HE.out, hfit, if_neg (by simp), if_pos (show lackB 3 { frm := f, too := t, seq := q, ack := a, win := n, flg := g, body := [] } = true by simp [lackB, za])]
        have ya : (a != 0) = true := by simpa using za
        clear HE hfit za
        go_enter Tryd.func21, Tryd.ntmps21
        go_wp2_with (first
          | (go_at_call 32; refine (refAddr_up _ _).mono ?_; rintro e w' ⟨rfl, rfl⟩)
          | (go_at_call 33; refine (refWord_any _ _).mono ?_; rintro e w' ⟨rfl, rfl⟩))
        go_ret
        exact ⟨ret_int E1.out, HB.out⟩
    have ya : (a != 0) = false := by simp [za]
    by_cases zn : n = 0
    rotate_left
    · as_aux_lemma =>
        have E1 : Hid ((3 : Int) = e0) := by show (3 : Int) = e0; rw [HE.out, hfit, if_neg (by simp), if_pos (show lackB 3 { frm := f, too := t, seq := q, ack := a, win := n, flg := g, body := [] } = true by simp [lackB, zn])]
        have yn : (n != 0) = true := by simpa using zn
        clear HE hfit zn za
        go_enter Tryd.func21, Tryd.ntmps21
        go_wp2_with (first
          | (go_at_call 32; refine (refAddr_up _ _).mono ?_; rintro e w' ⟨rfl, rfl⟩)
          | (go_at_call 33; refine (refWord_any _ _).mono ?_; rintro e w' ⟨rfl, rfl⟩))
        go_ret
        exact ⟨ret_int E1.out, HB.out⟩
    have yn : (n != 0) = false := by simp [zn]
    by_cases zg : g = 0
    rotate_left
    · as_aux_lemma =>
        have E1 : Hid ((3 : Int) = e0) := by show (3 : Int) = e0; rw [HE.out, hfit, if_neg (by simp), if_pos (show lackB 3 { frm := f, too := t, seq := q, ack := a, win := n, flg := g, body := [] } = true by simp [lackB, zg])]
        have yg : (g != 0) = true := by simpa using zg
        clear HE hfit zg za zn
        go_enter Tryd.func21, Tryd.ntmps21
        go_wp2_with (first
          | (go_at_call 32; refine (refAddr_up _ _).mono ?_; rintro e w' ⟨rfl, rfl⟩)
          | (go_at_call 33; refine (refWord_any _ _).mono ?_; rintro e w' ⟨rfl, rfl⟩))
        go_ret
        exact ⟨ret_int E1.out, HB.out⟩
    have yg : (g != 0) = false := by simp [zg]
    by_cases h4 : 4000 < l + 8
    · as_aux_lemma =>
        have E1 : Hid ((4 : Int) = e0) := by show (4 : Int) = e0; rw [HE.out, hfit, if_neg (by simp), show lackB 3 { frm := f, too := t, seq := q, ack := a, win := n, flg := g, body := [] } = false by simp [lackB, za, zn, zg], if_neg (by simp), show hdN 3 = 8 from rfl, if_pos h4]
        clear HE hfit za zn zg
        go_enter Tryd.func21, Tryd.ntmps21
        go_upto_region 13 with (first
          | (go_at_call 32; refine (refAddr_up _ _).mono ?_; rintro e w' ⟨rfl, rfl⟩)
          | (go_at_call 33; refine (refWord_any _ _).mono ?_; rintro e w' ⟨rfl, rfl⟩))
        go_quiet ((go_at_call 39; refine (size3 _).mono ?_; rintro e w' ⟨rfl, rfl⟩; exact ⟨rfl, _, rfl⟩))
        go_wp2
        go_ret
        exact ⟨ret_int E1.out, below_drewN HB.out _⟩
    · as_aux_lemma =>
        have E1 : Hid ((0 : Int) = e0) := by show (0 : Int) = e0; rw [HE.out, hfit, if_neg (by simp), show lackB 3 { frm := f, too := t, seq := q, ack := a, win := n, flg := g, body := [] } = false by simp [lackB, za, zn, zg], if_neg (by simp), show hdN 3 = 8 from rfl, if_neg h4]
        clear HE hfit za zn zg
        go_enter Tryd.func21, Tryd.ntmps21
        go_upto_region 13 with (first
          | (go_at_call 32; refine (refAddr_up _ _).mono ?_; rintro e w' ⟨rfl, rfl⟩)
          | (go_at_call 33; refine (refWord_any _ _).mono ?_; rintro e w' ⟨rfl, rfl⟩))
        go_quiet ((go_at_call 39; refine (size3 _).mono ?_; rintro e w' ⟨rfl, rfl⟩; exact ⟨rfl, _, rfl⟩))
        go_wp2
        go_ret
        exact ⟨ret_int E1.out, below_drewN HB.out _⟩
theorem refSegment_any (k : Int) (s : Sg) (src dst : Int) (bv : Value) (w : World) (hb : Bytes w bv s.body) :
    Calls Tryd.prog 21 #[.int .i64 k, segV s bv, .int .i64 src, .int .i64 dst] w fun e w' => e = .returned (.int .i64 (sgErr k s src dst)) ∧ Below w.heap.size w w' := by
  have hl : s.body.length < 2 ^ 62 := by
    rcases hb with ⟨h, _⟩ | ⟨b, off, len, cap, _, h1, h2, h3, h4, _⟩
    · rw [h]; simp
    · rw [h4]; exact h3
  obtain ⟨ad, c, rfl⟩ := len_body hb
  exact refSegment_raw k s.frm s.too s.seq s.ack s.win s.flg src dst ad s.body.length c w hl
end Go.Proofs.YtdhjfjnjdkmhjaaDoor
