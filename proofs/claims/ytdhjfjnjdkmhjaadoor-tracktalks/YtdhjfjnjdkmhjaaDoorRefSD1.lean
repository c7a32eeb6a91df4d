/- What the reference's stream returns (package portref2) of a flow that is not Asked, of side 1. -/
import Derived.Test.YtdhjfjnjdkmhjaaDoorRefSM1
import Derived.Deep.DeepCutAuto
import Derived.Deep.DeepMust
namespace Go.Proofs.YtdhjfjnjdkmhjaaDoor
open Go.RowKit
set_option linter.unusedVariables false

set_option maxRecDepth 100000 in
set_option maxHeartbeats 32000000 in
theorem rs_go1 (f : Fl) (s : Sg) (a : Option Addr) (l c : Nat) (w : World) (h0 : 0 ≤ s.flg) (h15 : s.flg ≤ 15) (hq0 : 0 ≤ s.seq) (hq1 : s.seq ≤ 4294967295) (hl : s.body.length = l) (hl4 : l ≤ 4000) (hh0 : 0 ≤ f.h0 ∧ f.h0 ≤ 4294967295) (hh1 : 0 ≤ f.h1 ∧ f.h1 ≤ 4294967295) (hx : flgB s 4 = false) (hst : ¬ f.st = 1) :
    Calls Tryd.prog 34 #[flV f, segV s (.slice a l c), .int .i64 1] w fun e w' => e = .returned (.tuple #[flV (if strB f s 1 = true then strF f s 1 else f), .bool (strB f s 1)]) ∧ Below w.heap.size w w' := by
  have h1 := Fsz.start w f s (.slice a l c)
  unfold fszW at h1
  obtain ⟨W1, hW1⟩ : ∃ W1, ((w.alloc (.cells #[.int .i64 f.key.kind, .int .i64 f.key.src, .int .i64 f.key.frm, .int .i64 f.key.dst, .int .i64 f.key.too, .int .i64 f.st, .int .i64 f.unt, .int .i64 f.stp, .int .i64 f.h0, .int .i64 f.h1, .int .i64 f.w0, .int .i64 f.w1, .bool f.d0, .bool f.d1, .int .i64 f.num] 30)).alloc (.cells #[.int .i64 s.frm, .int .i64 s.too, .int .i64 s.seq, .int .i64 s.ack, .int .i64 s.win, .int .i64 s.flg, .slice a l c] 26)).alloc (.cells #[.int .i64 0, .int .i64 0, .int .i64 0, .int .i64 0, .int .i64 0, .int .i64 0, .int .i64 0, .int .i64 0, .int .i64 0, .int .i64 0, .int .i64 0, .int .i64 0, .bool false, .bool false, .int .i64 0] 30) = W1 := ⟨_, rfl⟩
  rw [hW1] at h1
  have k1 := fun W => refFlag_any s 1 (.slice a l c) W h0 h15 (by omega)
  have k2 := fun W => refFlag_any s 2 (.slice a l c) W h0 h15 (by omega)
  have k4 := fun W => refFlag_any s 4 (.slice a l c) W h0 h15 (by omega)
  have k8 := fun W => refFlag_any s 8 (.slice a l c) W h0 h15 (by omega)
  have ke := fun W => refEnd_any s a l c W h0 h15 hq0 hq1 hl hl4
  have er := endI_range s
  obtain ⟨r, HR⟩ : ∃ r, Hid (r = strB f s 1) := ⟨_, rfl⟩
  rw [← HR.out]
  obtain ⟨q, HQ⟩ : ∃ q, Hid (q = if r = true then strF f s 1 else f) := ⟨_, rfl⟩
  rw [← HQ.out]
  rw [hx] at k4
  have hx' : ¬ flgB s 4 = true := by rw [hx]; decide
  have HR : Hid (r = goB f s 1) := by show r = _; rw [HR.out]; unfold strB; rw [if_neg hx', if_pos hst]
  have HQ : Hid (q = if r = true then goF f s 1 else f) := by show q = _; rw [HQ.out]; unfold strF; rw [if_neg hx', if_pos hst]
  unfold goB at HR
  unfold goF topI at HQ
  rw [if_neg (show ¬ (1 : Int) = 0 by decide)] at HQ
  rw [show hiF f 1 = f.h1 from rfl] at HQ
  rw [show hiF f 1 = f.h1 from rfl, show hiF f (1 - 1) = f.h0 from rfl, show wnF f (1 - 1) = f.w0 from rfl, show wnF f 1 = f.w1 from rfl, show dnF f 1 = f.d1 from rfl] at HR
  obtain ⟨m1, HM1⟩ : ∃ m, Hid (m = max1 f.w0) := ⟨_, rfl⟩
  obtain ⟨m2, HM2⟩ : ∃ m, Hid (m = max1 f.w1) := ⟨_, rfl⟩
  rw [← HM1.out, ← HM2.out] at HR
  have cn1 := quietB fun W => refNear_any s.seq f.h1 m1 W
  have cn2 := quietB fun W => refNear_any s.ack f.h0 m2 W
  have ca := fun W => refBeyond_any (endI s) f.h1 W er hh1
  generalize nearB s.seq f.h1 m1 = n1 at cn1 HR
  generalize nearB s.ack f.h0 m2 = n2 at cn2 HR
  generalize ahB (endI s) f.h1 = ah at ca HR HQ
  generalize flgB s 8 = ack at k8 HR
  generalize flgB s 1 = fi at k1 HQ
  generalize flgB s 2 = sy at k2 HR
  generalize endI s = en at ke er ca HQ
  have HCN1 := hidE cn1
  have HCN2 := hidE cn2
  have HCA := hidE ca
  have e1 : (f.st == 1) = false := by simpa using hst
  clear hx hx' hst er cn1 cn2 ca h0 h15 hq0 hq1 hl hl4 hh0 hh1
  unfold flV segV at *
  go_enter Tryd.func34, Tryd.ntmps34
  go_upto_region 1 with fail
  try rw [hW1]
  clear hW1
  go_upto_region 2 with fail
  obtain ⟨c0, c1, c2, c3, c4, c5, c6, c7, c8, c9, c10, c11, c12, c13, c14⟩ := h1.fl.cells
  obtain ⟨s0, s1, s2, s3, s4, s5, s6⟩ := h1.sg.cells
  go_upto_region 3 with (go_at_call 40; go_must (refine (k1 _).mono ?_; rintro e W2 ⟨rfl, b2⟩))
  have h2 := h1.step b2
  clear h1 b2 k1
  clear c0 c1 c2 c3 c4 c5 c6 c7 c8 c9 c10 c11 c12 c13 c14 s0 s1 s2 s3 s4 s5 s6
  obtain ⟨c0, c1, c2, c3, c4, c5, c6, c7, c8, c9, c10, c11, c12, c13, c14⟩ := h2.fl.cells
  obtain ⟨s0, s1, s2, s3, s4, s5, s6⟩ := h2.sg.cells
  go_upto_region 4 with (go_at_call 40; go_must (refine (k2 _).mono ?_; rintro e W3 ⟨rfl, b3⟩))
  have h3 := h2.step b3
  clear h2 b3 k2
  clear c0 c1 c2 c3 c4 c5 c6 c7 c8 c9 c10 c11 c12 c13 c14 s0 s1 s2 s3 s4 s5 s6
  obtain ⟨c0, c1, c2, c3, c4, c5, c6, c7, c8, c9, c10, c11, c12, c13, c14⟩ := h3.fl.cells
  obtain ⟨s0, s1, s2, s3, s4, s5, s6⟩ := h3.sg.cells
  go_upto_region 5 with (go_at_call 40; go_must (refine (k4 _).mono ?_; rintro e W4 ⟨rfl, b4⟩))
  have h4 := h3.step b4
  clear h3 b4 k4
  clear c0 c1 c2 c3 c4 c5 c6 c7 c8 c9 c10 c11 c12 c13 c14 s0 s1 s2 s3 s4 s5 s6
  obtain ⟨c0, c1, c2, c3, c4, c5, c6, c7, c8, c9, c10, c11, c12, c13, c14⟩ := h4.fl.cells
  obtain ⟨s0, s1, s2, s3, s4, s5, s6⟩ := h4.sg.cells
  go_upto_region 6 with (go_at_call 40; go_must (refine (k8 _).mono ?_; rintro e W5 ⟨rfl, b5⟩))
  have h5 := h4.step b5
  clear h4 b5 k8
  clear c0 c1 c2 c3 c4 c5 c6 c7 c8 c9 c10 c11 c12 c13 c14 s0 s1 s2 s3 s4 s5 s6
  obtain ⟨c0, c1, c2, c3, c4, c5, c6, c7, c8, c9, c10, c11, c12, c13, c14⟩ := h5.fl.cells
  obtain ⟨s0, s1, s2, s3, s4, s5, s6⟩ := h5.sg.cells
  go_upto_region 7 with (go_at_call 23; go_must (refine (ke _).mono ?_; rintro e W6 ⟨rfl, b6⟩))
  have h6 := h5.step b6
  clear h5 b6 ke
  clear c0 c1 c2 c3 c4 c5 c6 c7 c8 c9 c10 c11 c12 c13 c14 s0 s1 s2 s3 s4 s5 s6
  obtain ⟨c0, c1, c2, c3, c4, c5, c6, c7, c8, c9, c10, c11, c12, c13, c14⟩ := h6.fl.cells
  obtain ⟨s0, s1, s2, s3, s4, s5, s6⟩ := h6.sg.cells
  go_upto_region 27 with fail
  go_cut [14] (fun v wr => v = .int .i64 f.w0 ∧ wr = W6)
  case first =>
    go_wp2_with fail
    go_meet
    case rel => exact ⟨rfl, rfl⟩
  case rest =>
  obtain ⟨rfl, hw⟩ := hcut
  subst hw
  clear c0 c1 c2 c3 c4 c5 c6 c7 c8 c9 c10 c11 c12 c13 c14 s0 s1 s2 s3 s4 s5 s6
  go_step
  exact rd2_1 f s a l c w wc q r fi ah sy ack n1 n2 en m1 m2 h6 HQ HR HM1 HM2 HCN1 HCN2 HCA _ (by kernel_rfl) _ _ _ _ _ _ _ _ _ _ _ _ _ _ _ _ _ _ _ _ _ _ _ _ _ _ _ _ _ _ _ _ _ _ _ _ _ _ _ _ _ _ _ _ _ _ _ _ _ _ _ _ _ _ _ _ _ _ _ _ _ _ _ _ _ _ _ _ _ _ _ _ _ _ _ _ _ _ _ _ _ _ _ _ _ _ _ _ _ _ _ _ _ _ _ _ _ _ _ _ _ _ _ _ _ _ _ _ _ _ _ _ _ _ _ _ _ _ _ _ _ _ _ _ _ _ _ _ _ _ _ _ _ _ _ _ _ _ _ _ _ _ _ _ _ _ _ _ _ _ _ _ _ _ _ _ _ _ _ _ _ _ _ _ _ _ _ _ _ _ _ _ _ _ _ _ _ _ _ _ _ _ _ _ _ _ _ _ _ _ _ _ _ _ _ _ _ _ _ _
end Go.Proofs.YtdhjfjnjdkmhjaaDoor
