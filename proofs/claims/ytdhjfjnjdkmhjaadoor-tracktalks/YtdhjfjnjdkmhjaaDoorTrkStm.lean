/- What stream of package track returns, for every flow and segment whose numbers may be. -/
import Derived.Test.YtdhjfjnjdkmhjaaDoorTrkGo
import Derived.Test.YtdhjfjnjdkmhjaaDoorTrkRst
import Derived.Test.YtdhjfjnjdkmhjaaDoorTrkAsk
import Derived.Test.YtdhjfjnjdkmhjaaDoorTrkAns
namespace Go.Proofs.YtdhjfjnjdkmhjaaDoor
open Go.RowKit
set_option linter.unusedVariables false

theorem goOn_any (f : Fl) (s : Sg) (a : Option Addr) (l c : Nat) (side : Int) (w : World) (hs : side = 0 ∨ side = 1) (h0 : 0 ≤ s.flg) (h15 : s.flg ≤ 15) (hq0 : 0 ≤ s.seq) (hq1 : s.seq ≤ 4294967295) (hl : s.body.length = l) (hl4 : l ≤ 4000) (hh0 : 0 ≤ f.h0 ∧ f.h0 ≤ 4294967295) (hh1 : 0 ≤ f.h1 ∧ f.h1 ≤ 4294967295) :
    Calls Tryd.prog 62 #[flV f, segV s (.slice a l c), .int .i64 side] w fun e w' => e = .returned (.tuple #[flV (goF f s side), .bool (goB f s side)]) ∧ Below w.heap.size w w' := by
  rcases hs with rfl | rfl
  · exact goOn_0 f s a l c w h0 h15 hq0 hq1 hl hl4 hh0 hh1
  · exact goOn_1 f s a l c w h0 h15 hq0 hq1 hl hl4 hh0 hh1
set_option maxRecDepth 100000 in
set_option maxHeartbeats 16000000 in
theorem stream_rst (f : Fl) (s : Sg) (a : Option Addr) (l c : Nat) (side : Int) (w : World) (hs : side = 0 ∨ side = 1) (h0 : 0 ≤ s.flg) (h15 : s.flg ≤ 15) (hq0 : 0 ≤ s.seq) (hq1 : s.seq ≤ 4294967295) (hl : s.body.length = l) (hl4 : l ≤ 4000) (hh0 : 0 ≤ f.h0 ∧ f.h0 ≤ 4294967295) (hh1 : 0 ≤ f.h1 ∧ f.h1 ≤ 4294967295) (hx : flgB s 4 = true)  :
    Calls Tryd.prog 47 #[flV f, segV s (.slice a l c), .int .i64 side] w fun e w' => e = .returned (.tuple #[flV { f with st := 4 }, .bool (rstB f s side)]) ∧ Below w.heap.size w w' := by
  have h1 := Fsz.start w f s (.slice a l c)
  unfold fszW at h1
  obtain ⟨W1, hW1⟩ : ∃ W1, ((w.alloc (.cells #[.int .i64 f.key.kind, .int .i64 f.key.src, .int .i64 f.key.frm, .int .i64 f.key.dst, .int .i64 f.key.too, .int .i64 f.st, .int .i64 f.unt, .int .i64 f.stp, .int .i64 f.h0, .int .i64 f.h1, .int .i64 f.w0, .int .i64 f.w1, .bool f.d0, .bool f.d1, .int .i64 f.num] 30)).alloc (.cells #[.int .i64 s.frm, .int .i64 s.too, .int .i64 s.seq, .int .i64 s.ack, .int .i64 s.win, .int .i64 s.flg, .slice a l c] 26)).alloc (.cells #[.int .i64 0, .int .i64 0, .int .i64 0, .int .i64 0, .int .i64 0, .int .i64 0, .int .i64 0, .int .i64 0, .int .i64 0, .int .i64 0, .int .i64 0, .int .i64 0, .bool false, .bool false, .int .i64 0] 30) = W1 := ⟨_, rfl⟩
  rw [hW1] at h1
  have cx := fun W => has_any s 4 (.slice a l c) W h0 h15 (by omega)
  rw [hx] at cx
  have hc := fun W => reset_any f s a l c side W hs h0 h15
  obtain ⟨q, hq⟩ : ∃ q : Fl, { f with st := 4 } = q := ⟨_, rfl⟩
  obtain ⟨r, hr⟩ : ∃ r, rstB f s side = r := ⟨_, rfl⟩
  rw [hq, hr] at hc ⊢
  unfold flV segV at *
  clear hq hr h0 h15 hq0 hq1 hl hl4 hh0 hh1 hx hs
  go_enter Tryd.func47, Tryd.ntmps47
  go_upto_region 1 with fail
  try rw [hW1]
  clear hW1
  obtain ⟨c0, c1, c2, c3, c4, c5, c6, c7, c8, c9, c10, c11, c12, c13, c14⟩ := h1.fl.cells
  obtain ⟨s0, s1, s2, s3, s4, s5, s6⟩ := h1.sg.cells
  go_upto_region 2 with (go_at_call 43; refine (cx _).mono ?_; rintro e W2 ⟨rfl, b2⟩; have h2 := h1.step b2; clear c0 c1 c2 c3 c4 c5 c6 c7 c8 c9 c10 c11 c12 c13 c14 s0 s1 s2 s3 s4 s5 s6; obtain ⟨c0, c1, c2, c3, c4, c5, c6, c7, c8, c9, c10, c11, c12, c13, c14⟩ := h2.fl.cells; obtain ⟨s0, s1, s2, s3, s4, s5, s6⟩ := h2.sg.cells)
  clear cx h1 b2
  go_wp2_with (go_at_call 61; refine (hc _).mono ?_; rintro e W8 ⟨rfl, b8⟩; have h8 := h2.step b8; obtain ⟨y0, y1, y2, y3, y4, y5, y6, y7, y8, y9, y10, y11, y12, y13, y14⟩ := h8.rs.frees; obtain ⟨d0, d1, d2, d3, d4, d5, d6, d7, d8, d9, d10, d11, d12, d13, d14⟩ := h8.rs.cells)
  clear c0 c1 c2 c3 c4 c5 c6 c7 c8 c9 c10 c11 c12 c13 c14 s0 s1 s2 s3 s4 s5 s6
  clear hc b8 h2
  obtain ⟨W9, hW9, g9, b9⟩ := h8.fin (q := q)
  first | rw [hW9] | (simp only at hW9; rw [hW9])
  clear hW9 y0 y1 y2 y3 y4 y5 y6 y7 y8 y9 y10 y11 y12 y13 y14 d0 d1 d2 d3 d4 d5 d6 d7 d8 d9 d10 d11 d12 d13 d14
  obtain ⟨c0, c1, c2, c3, c4, c5, c6, c7, c8, c9, c10, c11, c12, c13, c14⟩ := g9.cells
  exact bodyPost_ret (v := .tuple #[.agg #[.int .i64 q.key.kind, .int .i64 q.key.src, .int .i64 q.key.frm, .int .i64 q.key.dst, .int .i64 q.key.too, .int .i64 q.st, .int .i64 q.unt, .int .i64 q.stp, .int .i64 q.h0, .int .i64 q.h1, .int .i64 q.w0, .int .i64 q.w1, .bool q.d0, .bool q.d1, .int .i64 q.num], .bool r]) (by simp [results, Tryd.results47, go_sem, c0, c1, c2, c3, c4, c5, c6, c7, c8, c9, c10, c11, c12, c13, c14]) rfl ⟨rfl, b9⟩
set_option maxRecDepth 100000 in
set_option maxHeartbeats 16000000 in
theorem stream_go (f : Fl) (s : Sg) (a : Option Addr) (l c : Nat) (side : Int) (w : World) (hs : side = 0 ∨ side = 1) (h0 : 0 ≤ s.flg) (h15 : s.flg ≤ 15) (hq0 : 0 ≤ s.seq) (hq1 : s.seq ≤ 4294967295) (hl : s.body.length = l) (hl4 : l ≤ 4000) (hh0 : 0 ≤ f.h0 ∧ f.h0 ≤ 4294967295) (hh1 : 0 ≤ f.h1 ∧ f.h1 ≤ 4294967295) (hx : flgB s 4 = false) (ht : ¬ f.st = 1) :
    Calls Tryd.prog 47 #[flV f, segV s (.slice a l c), .int .i64 side] w fun e w' => e = .returned (.tuple #[flV (goF f s side), .bool (goB f s side)]) ∧ Below w.heap.size w w' := by
  have h1 := Fsz.start w f s (.slice a l c)
  unfold fszW at h1
  obtain ⟨W1, hW1⟩ : ∃ W1, ((w.alloc (.cells #[.int .i64 f.key.kind, .int .i64 f.key.src, .int .i64 f.key.frm, .int .i64 f.key.dst, .int .i64 f.key.too, .int .i64 f.st, .int .i64 f.unt, .int .i64 f.stp, .int .i64 f.h0, .int .i64 f.h1, .int .i64 f.w0, .int .i64 f.w1, .bool f.d0, .bool f.d1, .int .i64 f.num] 30)).alloc (.cells #[.int .i64 s.frm, .int .i64 s.too, .int .i64 s.seq, .int .i64 s.ack, .int .i64 s.win, .int .i64 s.flg, .slice a l c] 26)).alloc (.cells #[.int .i64 0, .int .i64 0, .int .i64 0, .int .i64 0, .int .i64 0, .int .i64 0, .int .i64 0, .int .i64 0, .int .i64 0, .int .i64 0, .int .i64 0, .int .i64 0, .bool false, .bool false, .int .i64 0] 30) = W1 := ⟨_, rfl⟩
  rw [hW1] at h1
  have cx := fun W => has_any s 4 (.slice a l c) W h0 h15 (by omega)
  rw [hx] at cx
  have hc := fun W => goOn_any f s a l c side W hs h0 h15 hq0 hq1 hl hl4 hh0 hh1
  obtain ⟨q, hq⟩ : ∃ q : Fl, goF f s side = q := ⟨_, rfl⟩
  obtain ⟨r, hr⟩ : ∃ r, goB f s side = r := ⟨_, rfl⟩
  rw [hq, hr] at hc ⊢
  have e1 : (f.st != 1) = true := by simpa using ht
  clear ht
  unfold flV segV at *
  clear hq hr h0 h15 hq0 hq1 hl hl4 hh0 hh1 hx hs
  go_enter Tryd.func47, Tryd.ntmps47
  go_upto_region 1 with fail
  try rw [hW1]
  clear hW1
  obtain ⟨c0, c1, c2, c3, c4, c5, c6, c7, c8, c9, c10, c11, c12, c13, c14⟩ := h1.fl.cells
  obtain ⟨s0, s1, s2, s3, s4, s5, s6⟩ := h1.sg.cells
  go_upto_region 3 with (go_at_call 43; refine (cx _).mono ?_; rintro e W2 ⟨rfl, b2⟩; have h2 := h1.step b2; clear c0 c1 c2 c3 c4 c5 c6 c7 c8 c9 c10 c11 c12 c13 c14 s0 s1 s2 s3 s4 s5 s6; obtain ⟨c0, c1, c2, c3, c4, c5, c6, c7, c8, c9, c10, c11, c12, c13, c14⟩ := h2.fl.cells; obtain ⟨s0, s1, s2, s3, s4, s5, s6⟩ := h2.sg.cells)
  clear cx h1 b2
  go_wp2_with (go_at_call 62; refine (hc _).mono ?_; rintro e W8 ⟨rfl, b8⟩; have h8 := h2.step b8; obtain ⟨y0, y1, y2, y3, y4, y5, y6, y7, y8, y9, y10, y11, y12, y13, y14⟩ := h8.rs.frees; obtain ⟨d0, d1, d2, d3, d4, d5, d6, d7, d8, d9, d10, d11, d12, d13, d14⟩ := h8.rs.cells)
  clear c0 c1 c2 c3 c4 c5 c6 c7 c8 c9 c10 c11 c12 c13 c14 s0 s1 s2 s3 s4 s5 s6
  clear hc b8 h2
  obtain ⟨W9, hW9, g9, b9⟩ := h8.fin (q := q)
  first | rw [hW9] | (simp only at hW9; rw [hW9])
  clear hW9 y0 y1 y2 y3 y4 y5 y6 y7 y8 y9 y10 y11 y12 y13 y14 d0 d1 d2 d3 d4 d5 d6 d7 d8 d9 d10 d11 d12 d13 d14
  obtain ⟨c0, c1, c2, c3, c4, c5, c6, c7, c8, c9, c10, c11, c12, c13, c14⟩ := g9.cells
  exact bodyPost_ret (v := .tuple #[.agg #[.int .i64 q.key.kind, .int .i64 q.key.src, .int .i64 q.key.frm, .int .i64 q.key.dst, .int .i64 q.key.too, .int .i64 q.st, .int .i64 q.unt, .int .i64 q.stp, .int .i64 q.h0, .int .i64 q.h1, .int .i64 q.w0, .int .i64 q.w1, .bool q.d0, .bool q.d1, .int .i64 q.num], .bool r]) (by simp [results, Tryd.results47, go_sem, c0, c1, c2, c3, c4, c5, c6, c7, c8, c9, c10, c11, c12, c13, c14]) rfl ⟨rfl, b9⟩
set_option maxRecDepth 100000 in
set_option maxHeartbeats 16000000 in
theorem stream_ask (f : Fl) (s : Sg) (a : Option Addr) (l c : Nat) (side : Int) (w : World) (hs : side = 0 ∨ side = 1) (h0 : 0 ≤ s.flg) (h15 : s.flg ≤ 15) (hq0 : 0 ≤ s.seq) (hq1 : s.seq ≤ 4294967295) (hl : s.body.length = l) (hl4 : l ≤ 4000) (hh0 : 0 ≤ f.h0 ∧ f.h0 ≤ 4294967295) (hh1 : 0 ≤ f.h1 ∧ f.h1 ≤ 4294967295) (hx : flgB s 4 = false) (ht : f.st = 1) (hz : side = 0) :
    Calls Tryd.prog 47 #[flV f, segV s (.slice a l c), .int .i64 side] w fun e w' => e = .returned (.tuple #[flV { f with w0 := s.win }, .bool ((decide (s.flg = 2 ∧ endI s = f.h0)))]) ∧ Below w.heap.size w w' := by
  have h1 := Fsz.start w f s (.slice a l c)
  unfold fszW at h1
  obtain ⟨W1, hW1⟩ : ∃ W1, ((w.alloc (.cells #[.int .i64 f.key.kind, .int .i64 f.key.src, .int .i64 f.key.frm, .int .i64 f.key.dst, .int .i64 f.key.too, .int .i64 f.st, .int .i64 f.unt, .int .i64 f.stp, .int .i64 f.h0, .int .i64 f.h1, .int .i64 f.w0, .int .i64 f.w1, .bool f.d0, .bool f.d1, .int .i64 f.num] 30)).alloc (.cells #[.int .i64 s.frm, .int .i64 s.too, .int .i64 s.seq, .int .i64 s.ack, .int .i64 s.win, .int .i64 s.flg, .slice a l c] 26)).alloc (.cells #[.int .i64 0, .int .i64 0, .int .i64 0, .int .i64 0, .int .i64 0, .int .i64 0, .int .i64 0, .int .i64 0, .int .i64 0, .int .i64 0, .int .i64 0, .int .i64 0, .bool false, .bool false, .int .i64 0] 30) = W1 := ⟨_, rfl⟩
  rw [hW1] at h1
  have cx := fun W => has_any s 4 (.slice a l c) W h0 h15 (by omega)
  rw [hx] at cx
  have hc := fun W => askAgain_any f s a l c W h0 h15 hq0 hq1 hl hl4
  obtain ⟨q, hq⟩ : ∃ q : Fl, { f with w0 := s.win } = q := ⟨_, rfl⟩
  obtain ⟨r, hr⟩ : ∃ r, (decide (s.flg = 2 ∧ endI s = f.h0)) = r := ⟨_, rfl⟩
  rw [hq, hr] at hc ⊢
  have e1 : (f.st != 1) = false := by simp [ht]
  clear ht
  subst hz
  unfold flV segV at *
  clear hq hr h0 h15 hq0 hq1 hl hl4 hh0 hh1 hx hs
  go_enter Tryd.func47, Tryd.ntmps47
  go_upto_region 1 with fail
  try rw [hW1]
  clear hW1
  obtain ⟨c0, c1, c2, c3, c4, c5, c6, c7, c8, c9, c10, c11, c12, c13, c14⟩ := h1.fl.cells
  obtain ⟨s0, s1, s2, s3, s4, s5, s6⟩ := h1.sg.cells
  go_upto_region 3 with (go_at_call 43; refine (cx _).mono ?_; rintro e W2 ⟨rfl, b2⟩; have h2 := h1.step b2; clear c0 c1 c2 c3 c4 c5 c6 c7 c8 c9 c10 c11 c12 c13 c14 s0 s1 s2 s3 s4 s5 s6; obtain ⟨c0, c1, c2, c3, c4, c5, c6, c7, c8, c9, c10, c11, c12, c13, c14⟩ := h2.fl.cells; obtain ⟨s0, s1, s2, s3, s4, s5, s6⟩ := h2.sg.cells)
  clear cx h1 b2
  go_wp2_with (go_at_call 63; refine (hc _).mono ?_; rintro e W8 ⟨rfl, b8⟩; have h8 := h2.step b8; obtain ⟨y0, y1, y2, y3, y4, y5, y6, y7, y8, y9, y10, y11, y12, y13, y14⟩ := h8.rs.frees; obtain ⟨d0, d1, d2, d3, d4, d5, d6, d7, d8, d9, d10, d11, d12, d13, d14⟩ := h8.rs.cells)
  clear c0 c1 c2 c3 c4 c5 c6 c7 c8 c9 c10 c11 c12 c13 c14 s0 s1 s2 s3 s4 s5 s6
  clear hc b8 h2
  obtain ⟨W9, hW9, g9, b9⟩ := h8.fin (q := q)
  first | rw [hW9] | (simp only at hW9; rw [hW9])
  clear hW9 y0 y1 y2 y3 y4 y5 y6 y7 y8 y9 y10 y11 y12 y13 y14 d0 d1 d2 d3 d4 d5 d6 d7 d8 d9 d10 d11 d12 d13 d14
  obtain ⟨c0, c1, c2, c3, c4, c5, c6, c7, c8, c9, c10, c11, c12, c13, c14⟩ := g9.cells
  exact bodyPost_ret (v := .tuple #[.agg #[.int .i64 q.key.kind, .int .i64 q.key.src, .int .i64 q.key.frm, .int .i64 q.key.dst, .int .i64 q.key.too, .int .i64 q.st, .int .i64 q.unt, .int .i64 q.stp, .int .i64 q.h0, .int .i64 q.h1, .int .i64 q.w0, .int .i64 q.w1, .bool q.d0, .bool q.d1, .int .i64 q.num], .bool r]) (by simp [results, Tryd.results47, go_sem, c0, c1, c2, c3, c4, c5, c6, c7, c8, c9, c10, c11, c12, c13, c14]) rfl ⟨rfl, b9⟩
set_option maxRecDepth 100000 in
set_option maxHeartbeats 16000000 in
theorem stream_ans (f : Fl) (s : Sg) (a : Option Addr) (l c : Nat) (side : Int) (w : World) (hs : side = 0 ∨ side = 1) (h0 : 0 ≤ s.flg) (h15 : s.flg ≤ 15) (hq0 : 0 ≤ s.seq) (hq1 : s.seq ≤ 4294967295) (hl : s.body.length = l) (hl4 : l ≤ 4000) (hh0 : 0 ≤ f.h0 ∧ f.h0 ≤ 4294967295) (hh1 : 0 ≤ f.h1 ∧ f.h1 ≤ 4294967295) (hx : flgB s 4 = false) (ht : f.st = 1) (hz : side = 1) :
    Calls Tryd.prog 47 #[flV f, segV s (.slice a l c), .int .i64 side] w fun e w' => e = .returned (.tuple #[flV { f with st := 2, h1 := endI s, w1 := s.win }, .bool ((decide (s.flg = 10 ∧ s.ack = f.h0)))]) ∧ Below w.heap.size w w' := by
  have h1 := Fsz.start w f s (.slice a l c)
  unfold fszW at h1
  obtain ⟨W1, hW1⟩ : ∃ W1, ((w.alloc (.cells #[.int .i64 f.key.kind, .int .i64 f.key.src, .int .i64 f.key.frm, .int .i64 f.key.dst, .int .i64 f.key.too, .int .i64 f.st, .int .i64 f.unt, .int .i64 f.stp, .int .i64 f.h0, .int .i64 f.h1, .int .i64 f.w0, .int .i64 f.w1, .bool f.d0, .bool f.d1, .int .i64 f.num] 30)).alloc (.cells #[.int .i64 s.frm, .int .i64 s.too, .int .i64 s.seq, .int .i64 s.ack, .int .i64 s.win, .int .i64 s.flg, .slice a l c] 26)).alloc (.cells #[.int .i64 0, .int .i64 0, .int .i64 0, .int .i64 0, .int .i64 0, .int .i64 0, .int .i64 0, .int .i64 0, .int .i64 0, .int .i64 0, .int .i64 0, .int .i64 0, .bool false, .bool false, .int .i64 0] 30) = W1 := ⟨_, rfl⟩
  rw [hW1] at h1
  have cx := fun W => has_any s 4 (.slice a l c) W h0 h15 (by omega)
  rw [hx] at cx
  have hc := fun W => answer_any f s a l c W h0 h15 hq0 hq1 hl hl4
  obtain ⟨q, hq⟩ : ∃ q : Fl, { f with st := 2, h1 := endI s, w1 := s.win } = q := ⟨_, rfl⟩
  obtain ⟨r, hr⟩ : ∃ r, (decide (s.flg = 10 ∧ s.ack = f.h0)) = r := ⟨_, rfl⟩
  rw [hq, hr] at hc ⊢
  have e1 : (f.st != 1) = false := by simp [ht]
  clear ht
  subst hz
  unfold flV segV at *
  clear hq hr h0 h15 hq0 hq1 hl hl4 hh0 hh1 hx hs
  go_enter Tryd.func47, Tryd.ntmps47
  go_upto_region 1 with fail
  try rw [hW1]
  clear hW1
  obtain ⟨c0, c1, c2, c3, c4, c5, c6, c7, c8, c9, c10, c11, c12, c13, c14⟩ := h1.fl.cells
  obtain ⟨s0, s1, s2, s3, s4, s5, s6⟩ := h1.sg.cells
  go_upto_region 3 with (go_at_call 43; refine (cx _).mono ?_; rintro e W2 ⟨rfl, b2⟩; have h2 := h1.step b2; clear c0 c1 c2 c3 c4 c5 c6 c7 c8 c9 c10 c11 c12 c13 c14 s0 s1 s2 s3 s4 s5 s6; obtain ⟨c0, c1, c2, c3, c4, c5, c6, c7, c8, c9, c10, c11, c12, c13, c14⟩ := h2.fl.cells; obtain ⟨s0, s1, s2, s3, s4, s5, s6⟩ := h2.sg.cells)
  clear cx h1 b2
  go_wp2_with (go_at_call 64; refine (hc _).mono ?_; rintro e W8 ⟨rfl, b8⟩; have h8 := h2.step b8; obtain ⟨y0, y1, y2, y3, y4, y5, y6, y7, y8, y9, y10, y11, y12, y13, y14⟩ := h8.rs.frees; obtain ⟨d0, d1, d2, d3, d4, d5, d6, d7, d8, d9, d10, d11, d12, d13, d14⟩ := h8.rs.cells)
  clear c0 c1 c2 c3 c4 c5 c6 c7 c8 c9 c10 c11 c12 c13 c14 s0 s1 s2 s3 s4 s5 s6
  clear hc b8 h2
  obtain ⟨W9, hW9, g9, b9⟩ := h8.fin (q := q)
  first | rw [hW9] | (simp only at hW9; rw [hW9])
  clear hW9 y0 y1 y2 y3 y4 y5 y6 y7 y8 y9 y10 y11 y12 y13 y14 d0 d1 d2 d3 d4 d5 d6 d7 d8 d9 d10 d11 d12 d13 d14
  obtain ⟨c0, c1, c2, c3, c4, c5, c6, c7, c8, c9, c10, c11, c12, c13, c14⟩ := g9.cells
  exact bodyPost_ret (v := .tuple #[.agg #[.int .i64 q.key.kind, .int .i64 q.key.src, .int .i64 q.key.frm, .int .i64 q.key.dst, .int .i64 q.key.too, .int .i64 q.st, .int .i64 q.unt, .int .i64 q.stp, .int .i64 q.h0, .int .i64 q.h1, .int .i64 q.w0, .int .i64 q.w1, .bool q.d0, .bool q.d1, .int .i64 q.num], .bool r]) (by simp [results, Tryd.results47, go_sem, c0, c1, c2, c3, c4, c5, c6, c7, c8, c9, c10, c11, c12, c13, c14]) rfl ⟨rfl, b9⟩
theorem stream_any (f : Fl) (s : Sg) (a : Option Addr) (l c : Nat) (side : Int) (w : World) (hs : side = 0 ∨ side = 1) (h0 : 0 ≤ s.flg) (h15 : s.flg ≤ 15) (hq0 : 0 ≤ s.seq) (hq1 : s.seq ≤ 4294967295) (hl : s.body.length = l) (hl4 : l ≤ 4000) (hh0 : 0 ≤ f.h0 ∧ f.h0 ≤ 4294967295) (hh1 : 0 ≤ f.h1 ∧ f.h1 ≤ 4294967295) :
    Calls Tryd.prog 47 #[flV f, segV s (.slice a l c), .int .i64 side] w fun e w' => e = .returned (.tuple #[flV (strF f s side), .bool (strB f s side)]) ∧ Below w.heap.size w w' := by
  cases hx : flgB s 4
  · have hx' : ¬ flgB s 4 = true := by rw [hx]; decide
    by_cases ht : f.st = 1
    · have ht' : ¬ ¬ f.st = 1 := fun h => h ht
      by_cases hz : side = 0
      · rw [show strF f s side = { f with w0 := s.win } by unfold strF; rw [if_neg hx', if_neg ht', if_pos hz], show strB f s side = decide (s.flg = 2 ∧ endI s = f.h0) by unfold strB; rw [if_neg hx', if_neg ht', if_pos hz]]
        exact stream_ask f s a l c side w hs h0 h15 hq0 hq1 hl hl4 hh0 hh1 hx ht hz
      · rw [show strF f s side = { f with st := 2, h1 := endI s, w1 := s.win } by unfold strF; rw [if_neg hx', if_neg ht', if_neg hz], show strB f s side = decide (s.flg = 10 ∧ s.ack = f.h0) by unfold strB; rw [if_neg hx', if_neg ht', if_neg hz]]
        exact stream_ans f s a l c side w hs h0 h15 hq0 hq1 hl hl4 hh0 hh1 hx ht (by omega)
    · rw [show strF f s side = goF f s side by unfold strF; rw [if_neg hx', if_pos ht], show strB f s side = goB f s side by unfold strB; rw [if_neg hx', if_pos ht]]
      exact stream_go f s a l c side w hs h0 h15 hq0 hq1 hl hl4 hh0 hh1 hx ht
  · rw [show strF f s side = { f with st := 4 } by unfold strF; rw [if_pos hx], show strB f s side = rstB f s side by unfold strB; rw [if_pos hx]]
    exact stream_rst f s a l c side w hs h0 h15 hq0 hq1 hl hl4 hh0 hh1 hx
end Go.Proofs.YtdhjfjnjdkmhjaaDoor
