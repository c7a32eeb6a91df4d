/- The law TrackSteps of package portlaw2 returns true, for every key, segment, flow and number, where the table of lives and errors.errorType hold what the rows lay; the walk of its text. -/
import Derived.Test.YtdhjfjnjdkmhjaaDoorMgN
import Derived.Test.YtdhjfjnjdkmhjaaDoorRefBg
import Derived.Test.YtdhjfjnjdkmhjaaDoorMgT
import Derived.Test.YtdhjfjnjdkmhjaaDoorMgU
import Derived.Test.YtdhjfjnjdkmhjaaDoorMgF
import Derived.Deep.DeepMust
namespace Go.Proofs.YtdhjfjnjdkmhjaaDoor
open Go.RowKit
set_option linter.unusedVariables false

theorem errV_told (e : Int) : ErrVal (errV e) e := by
  unfold errV
  split
  · exact .inl ⟨rfl, by assumption⟩
  · exact .inr rfl
/-- A key, a segment and a flow in boxes. -/
structure Ksf (w : World) (k : Ky) (s : Sg) (bv : Value) (f : Fl) (W : World) : Prop where
  ky : KyAt W w.heap.size k
  sg : SgAt W (w.heap.size + 1) s bv
  fl : FlAt W (w.heap.size + 2) f
  bel : Below w.heap.size w W
theorem Ksf.start (w : World) (k : Ky) (s : Sg) (bv : Value) (f : Fl) : Ksf w k s bv f (((w.alloc (.cells #[.int .i64 k.kind, .int .i64 k.src, .int .i64 k.frm, .int .i64 k.dst, .int .i64 k.too] 23)).alloc (.cells #[.int .i64 s.frm, .int .i64 s.too, .int .i64 s.seq, .int .i64 s.ack, .int .i64 s.win, .int .i64 s.flg, bv] 26)).alloc (.cells #[.int .i64 f.key.kind, .int .i64 f.key.src, .int .i64 f.key.frm, .int .i64 f.key.dst, .int .i64 f.key.too, .int .i64 f.st, .int .i64 f.unt, .int .i64 f.stp, .int .i64 f.h0, .int .i64 f.h1, .int .i64 f.w0, .int .i64 f.w1, .bool f.d0, .bool f.d1, .int .i64 f.num] 30)) := by
  have h1 := Ks2.start w k s bv
  have s1 : ((w.alloc (.cells #[.int .i64 k.kind, .int .i64 k.src, .int .i64 k.frm, .int .i64 k.dst, .int .i64 k.too] 23)).alloc (.cells #[.int .i64 s.frm, .int .i64 s.too, .int .i64 s.seq, .int .i64 s.ack, .int .i64 s.win, .int .i64 s.flg, bv] 26)).heap.size = w.heap.size + 2 := by simp
  generalize (w.alloc (.cells #[.int .i64 k.kind, .int .i64 k.src, .int .i64 k.frm, .int .i64 k.dst, .int .i64 k.too] 23)).alloc (.cells #[.int .i64 s.frm, .int .i64 s.too, .int .i64 s.seq, .int .i64 s.ack, .int .i64 s.win, .int .i64 s.flg, bv] 26) = w1 at h1 s1 ⊢
  have h3 := FlAt.new w1 f
  rw [s1] at h3
  exact ⟨h1.ky.alloc _, h1.sg.alloc _, h3, h1.bel.alloc h1.bel.size _⟩
theorem Ksf.step {w W W' : World} {k : Ky} {s : Sg} {bv : Value} {f : Fl} (h : Ksf w k s bv f W) (hb : Below W.heap.size W W') : Ksf w k s bv f W' :=
  ⟨h.ky.below h.ky.lt hb, h.sg.below h.sg.lt hb, h.fl.below h.fl.lt hb, h.bel.trans (hb.mono h.bel.size)⟩
theorem Ksf.only {w W W' : World} {k : Ky} {s : Sg} {bv : Value} {f : Fl} {G : Nat} (h : Ksf w k s bv f W) (hG : w.heap.size + 2 < G) (ho : Only G W W') : Ksf w k s bv f W' :=
  ⟨h.ky.only (by omega) ho, h.sg.only (by omega) ho, h.fl.only (by omega) ho, ho.below (by omega) h.bel⟩

noncomputable def stepsTail (n : Nat) : Code := (tailOf n (Tryd.f3.body.getD .skip)).getD .skip
set_option maxRecDepth 100000 in
set_option maxHeartbeats 32000000 in
theorem steps_t8 (Q : Ending → World → Prop) (k : Ky) (s : Sg) (a : Option Addr) (l c : Nat) (now : Int) (f b g : Fl) (side st lf z2 : Int) (v2 : Value) (w W8 : World) (P G : Nat) (C : Code) (hC : C = stepsTail 8)
    (HQ : Hid (∀ w', Below w.heap.size w w' → Q (.returned (.bool true)) w')) (HE : Hid (∀ (W : World), Below w.heap.size w W → ErrLaid W)) (EV2 : Hid (ErrVal v2 z2))
    (c4 : Hid (∀ (W : World) (hB : Below w.heap.size w W), Calls Tryd.prog 12 #[.agg #[.int .i64 f.key.kind, .int .i64 f.key.src, .int .i64 f.key.frm, .int .i64 f.key.dst, .int .i64 f.key.too, .int .i64 f.st, .int .i64 f.unt, .int .i64 f.stp, .int .i64 f.h0, .int .i64 f.h1, .int .i64 f.w0, .int .i64 f.w1, .bool f.d0, .bool f.d1, .int .i64 f.num], .agg #[.int .i64 s.frm, .int .i64 s.too, .int .i64 s.seq, .int .i64 s.ack, .int .i64 s.win, .int .i64 s.flg, .slice a l c], .int .i64 side, .int .i64 now] W fun e w' => e = .returned (.tuple #[.agg #[.int .i64 g.key.kind, .int .i64 g.key.src, .int .i64 g.key.frm, .int .i64 g.key.dst, .int .i64 g.key.too, .int .i64 g.st, .int .i64 g.unt, .int .i64 g.stp, .int .i64 g.h0, .int .i64 g.h1, .int .i64 g.w0, .int .i64 g.w1, .bool g.d0, .bool g.d1, .int .i64 g.num], v2]) ∧ Below W.heap.size W w'))
    (c7 : Hid (∀ (W : World) (hB : Below w.heap.size w W), Calls Tryd.prog 13 #[.int .i64 k.kind, .int .i64 st] W fun e w' => e = .returned (.int .i64 lf) ∧ w' = W))
    (c8 : Hid (∀ (W : World), Calls Tryd.prog 14 #[.int .i64 k.kind, .int .i64 st] W fun e w' => e = .returned (.int .i64 lf) ∧ w' = W))
    (h8 : Ksf w k s (.slice a l c) f W8) (p8 : FlAt W8 P g) (q8 : FlAt W8 G b) (hlo : w.heap.size + 2 < P) (hlq : P < G)
    (v0 v1 v2 v4 v9 v10 v12 v13 v14 v18 v21 v22 v23 v24 v25 v26 v27 v28 v29 v30 v31 v32 v33 v34 v35 v36 v37 v38 v39 v40 v41 v42 v43 v44 v45 v46 v47 v48 v49 v50 v51 v52 v53 v54 v55 v56 v57 v58 v59 v60 v61 v62 v63 v64 v65 v66 v67 v68 v69 v70 v71 v72 v73 v74 v75 v76 v77 v78 v79 v80 v81 v82 v83 v84 v85 v86 v87 v88 v89 v90 v91 : Value) :
    Code.wp Tryd.prog C (bodyPost Tryd.prog Tryd.f3 Q) { tmps := #[v0, v1, v2, .int .i64 now, v4, .int .i64 side, .int .i64 st, .pointer (some ⟨w.heap.size, 0, none⟩), .pointer (some ⟨w.heap.size + 1, 0, none⟩), v9, v10, .pointer (some ⟨w.heap.size + 1 + 1, 0, none⟩), v12, v13, v14, .pointer (some ⟨P, 0, none⟩), .int .i64 z2, .pointer (some ⟨G, 0, none⟩), v18, .bool true, .bool true, v21, v22, v23, v24, v25, v26, v27, v28, v29, v30, v31, v32, v33, v34, v35, v36, v37, v38, v39, v40, v41, v42, v43, v44, v45, v46, v47, v48, v49, v50, v51, v52, v53, v54, v55, v56, v57, v58, v59, v60, v61, v62, v63, v64, v65, v66, v67, v68, v69, v70, v71, v72, v73, v74, v75, v76, v77, v78, v79, v80, v81, v82, v83, v84, v85, v86, v87, v88, v89, v90, v91], defers := [] } W8 := by
  subst hC
  conv =>
    arg 2
    unfold stepsTail
    unfold Tryd.f3
    simp only [Option.getD_some, tailOf]
  conv =>
    arg 4
    zeta
  have hgd := Tryd.flGuard
  go_step
  obtain ⟨k0, k1, k2, k3, k4⟩ := h8.ky.cells
  obtain ⟨s0, s1, s2, s3, s4, s5, s6⟩ := h8.sg.cells
  obtain ⟨f0, f1, f2, f3, f4, f5, f6, f7, f8, f9, f10, f11, f12, f13, f14⟩ := h8.fl.cells
  have hc := c4.out W8 h8.bel
  go_upto_region 9 with (go_at_call 12; go_must (refine hc.mono ?_; rintro e X9 ⟨rfl, b9⟩; have hh := h8.step b9; have pp := q8.below q8.lt b9; obtain ⟨y0, y1, y2, y3, y4, y5, y6, y7, y8, y9, y10, y11, y12, y13, y14⟩ := pp.frees; obtain ⟨d0, d1, d2, d3, d4, d5, d6, d7, d8, d9, d10, d11, d12, d13, d14⟩ := pp.cells))
  have qq := p8.below p8.lt b9
  obtain ⟨W9, hW9, q9, o9⟩ := pp.store g
  rw [hW9]
  have h9 := hh.only (by omega) o9
  have p9 := qq.only (by omega) o9
  clear hW9 hc b9 hh pp qq o9 h8 p8 q8 c4 y0 y1 y2 y3 y4 y5 y6 y7 y8 y9 y10 y11 y12 y13 y14 d0 d1 d2 d3 d4 d5 d6 d7 d8 d9 d10 d11 d12 d13 d14 f0 f1 f2 f3 f4 f5 f6 f7 f8 f9 f10 f11 f12 f13 f14
  clear k0 k1 k2 k3 k4 s0 s1 s2 s3 s4 s5 s6
  have hc := error_val EV2.out z2 W9 (HE.out _ h9.bel)
  rw [show (z2 == z2) = true by simp] at hc
  go_upto_region 10 with (go_at_call 8; go_must (refine hc.mono ?_; rintro e W10 ⟨rfl, b10⟩))
  have h10 := h9.step b10
  have p10 := p9.below p9.lt b10
  have q10 := q9.below q9.lt b10
  clear hc b10 h9 p9 q9 EV2
  obtain ⟨d0, d1, d2, d3, d4, d5, d6, d7, d8, d9, d10, d11, d12, d13, d14⟩ := p10.cells
  obtain ⟨f0, f1, f2, f3, f4, f5, f6, f7, f8, f9, f10, f11, f12, f13, f14⟩ := q10.cells
  have d0 := Ext.cell d0
  have d1 := Ext.cell d1
  have d2 := Ext.cell d2
  have d3 := Ext.cell d3
  have d4 := Ext.cell d4
  have d5 := Ext.cell d5
  have d6 := Ext.cell d6
  have d7 := Ext.cell d7
  have d8 := Ext.cell d8
  have d9 := Ext.cell d9
  have d10 := Ext.cell d10
  have d11 := Ext.cell d11
  have d12 := Ext.cell d12
  have d13 := Ext.cell d13
  have d14 := Ext.cell d14
  have f0 := Ext.cell f0
  have f1 := Ext.cell f1
  have f2 := Ext.cell f2
  have f3 := Ext.cell f3
  have f4 := Ext.cell f4
  have f5 := Ext.cell f5
  have f6 := Ext.cell f6
  have f7 := Ext.cell f7
  have f8 := Ext.cell f8
  have f9 := Ext.cell f9
  have f10 := Ext.cell f10
  have f11 := Ext.cell f11
  have f12 := Ext.cell f12
  have f13 := Ext.cell f13
  have f14 := Ext.cell f14
  have k0 := Ext.cell h10.ky.cells.1
  have heq := Tryd.flEql g
  have hc7 : ∀ u : Ext W10, Calls Tryd.prog 13 #[.int .i64 k.kind, .int .i64 st] u.W fun e w' => e = .returned (.int .i64 lf) ∧ ∃ u' : Ext W10, w' = u'.W := fun u => (c7.out u.W (h10.bel.trans (u.h.mono h10.bel.size))).mono fun e w' ⟨he, hb⟩ => ⟨he, u, hb⟩
  have hc8 : ∀ u : Ext W10, Calls Tryd.prog 14 #[.int .i64 k.kind, .int .i64 st] u.W fun e w' => e = .returned (.int .i64 lf) ∧ ∃ u' : Ext W10, w' = u'.W := fun u => (c8.out u.W).mono fun e w' ⟨he, hb⟩ => ⟨he, u, hb⟩
  refine wp_region_ext (by kernel_rfl) (by kernel_rfl) ?_
  repeat (go_big_quiet_step (first | (go_at_call 13; exact hc7 _) | (go_at_call 14; exact hc8 _)))
  refine wpQuiet_nil ?_
  rintro _ ⟨u, rfl⟩
  have HF := hidE (HQ.out _ (h10.step u.h).bel)
  obtain ⟨W11, hW11⟩ : ∃ X9, u.W = X9 := ⟨_, rfl⟩
  rw [hW11] at HF ⊢
  clear hW11 hc7 hc8 heq k0 d0 d1 d2 d3 d4 d5 d6 d7 d8 d9 d10 d11 d12 d13 d14 f0 f1 f2 f3 f4 f5 f6 f7 f8 f9 f10 f11 f12 f13 f14
  go_wp2_with fail
  first | exact HF.out | (simp; exact HF.out) | (simpa using HF.out)

set_option maxRecDepth 100000 in
set_option maxHeartbeats 32000000 in
theorem steps_any (k : Ky) (s : Sg) (a : Option Addr) (l c : Nat) (rule now : Int) (f : Fl) (side st : Int) (w : World) (hb : Bytes w (.slice a l c) s.body) (hE : ErrLaid w) (hL : Lives w) :
    Calls Tryd.prog 3 #[keyV k, segV s (.slice a l c), .int .i64 rule, .int .i64 now, flV f, .int .i64 side, .int .i64 st] w fun e w' => e = .returned (.bool true) ∧ Below w.heap.size w w' := by
  obtain ⟨Q, hQ⟩ : ∃ Q : Ending → World → Prop, Q = fun e w' => e = .returned (.bool true) ∧ Below w.heap.size w w' := ⟨_, rfl⟩
  have HQ : Hid (∀ w', Below w.heap.size w w' → Q (.returned (.bool true)) w') := by rw [hQ]; exact fun _ h => ⟨rfl, h⟩
  rw [← hQ]
  have h1 := Ksf.start w k s (.slice a l c) f
  obtain ⟨W1, hW1⟩ : ∃ W1, ((w.alloc (.cells #[.int .i64 k.kind, .int .i64 k.src, .int .i64 k.frm, .int .i64 k.dst, .int .i64 k.too] 23)).alloc (.cells #[.int .i64 s.frm, .int .i64 s.too, .int .i64 s.seq, .int .i64 s.ack, .int .i64 s.win, .int .i64 s.flg, .slice a l c] 26)).alloc (.cells #[.int .i64 f.key.kind, .int .i64 f.key.src, .int .i64 f.key.frm, .int .i64 f.key.dst, .int .i64 f.key.too, .int .i64 f.st, .int .i64 f.unt, .int .i64 f.stp, .int .i64 f.h0, .int .i64 f.h1, .int .i64 f.w0, .int .i64 f.w1, .bool f.d0, .bool f.d1, .int .i64 f.num] 30) = W1 := ⟨_, rfl⟩
  rw [hW1] at h1
  have HL := hidE (fun W (hb : Below w.heap.size w W) => hL.below hb)
  have HE := hidE (fun W (hb : Below w.heap.size w W) => hE.below hb)
  have HB := hidE (fun W (hB : Below w.heap.size w W) => hb.below (Nat.le_refl _) hB)
  have c1 := hidE (fun W hB => refBegin_any k s (.slice a l c) rule now W (HB.out W hB))
  have c2 := hidE (fun W hB => begin_any k s (.slice a l c) rule now W (HB.out W hB) (HL.out W hB))
  have c3 := hidE (fun W hB => refStep_any f s (.slice a l c) side now W (HB.out W hB))
  have c4 := hidE (fun W hB => step_any f s (.slice a l c) side now W (HB.out W hB) (HL.out W hB))
  have c5 := hidE (fun W hB => check_any f W (HL.out W hB))
  have c6 := hidE (fun W => refCheck_any f W)
  have c7 := hidE (fun W hB => life_any k.kind st W (HL.out W hB))
  have c8 := hidE (fun W => refLife_any k.kind st W)
  have ev1 := errV_told (begE k s rule now)
  have ev2 := errV_told (stpE f s side now)
  have ev3 := errV_told (chkE f)
  obtain ⟨b, hbE⟩ : ∃ b, begF k s rule now = b := ⟨_, rfl⟩
  obtain ⟨g, hgE⟩ : ∃ g, stpF f s side now = g := ⟨_, rfl⟩
  rw [hbE] at c1 c2
  rw [hgE] at c3 c4
  generalize begE k s rule now = z1 at c1 c2 ev1
  generalize stpE f s side now = z2 at c3 c4 ev2
  generalize chkE f = z3 at c5 c6 ev3
  generalize errV z1 = v1 at c2 ev1
  generalize errV z2 = v2 at c4 ev2
  generalize errV z3 = v3 at c5 ev3
  generalize lifeI k.kind st = lf at c7 c8
  have EV1 := hidE ev1
  have EV2 := hidE ev2
  have EV3 := hidE ev3
  unfold keyV flV segV at *
  clear hQ hL hE hb hbE hgE ev1 ev2 ev3
  go_enter Tryd.func3, Tryd.ntmps3
  go_upto_region 1 with fail
  try rw [hW1]
  clear hW1
  obtain ⟨k0, k1, k2, k3, k4⟩ := h1.ky.cells
  obtain ⟨s0, s1, s2, s3, s4, s5, s6⟩ := h1.sg.cells
  have hc := c1.out W1 h1.bel
  go_upto_region 2 with (go_at_call 6; go_must (refine hc.mono ?_; rintro e W2 ⟨rfl, b2⟩))
  have h2 := (h1.step b2).step ((Below.refl _ _).alloc (Nat.le_refl _) (.cells #[.int .i64 b.key.kind, .int .i64 b.key.src, .int .i64 b.key.frm, .int .i64 b.key.dst, .int .i64 b.key.too, .int .i64 b.st, .int .i64 b.unt, .int .i64 b.stp, .int .i64 b.h0, .int .i64 b.h1, .int .i64 b.w0, .int .i64 b.w1, .bool b.d0, .bool b.d1, .int .i64 b.num] 30))
  have p2 := FlAt.new W2 b
  have hlo := (h1.step b2).fl.lt
  obtain ⟨W3, hW3⟩ : ∃ X9, W2.alloc (.cells #[.int .i64 b.key.kind, .int .i64 b.key.src, .int .i64 b.key.frm, .int .i64 b.key.dst, .int .i64 b.key.too, .int .i64 b.st, .int .i64 b.unt, .int .i64 b.stp, .int .i64 b.h0, .int .i64 b.h1, .int .i64 b.w0, .int .i64 b.w1, .bool b.d0, .bool b.d1, .int .i64 b.num] 30) = X9 := ⟨_, rfl⟩
  obtain ⟨P, hP⟩ : ∃ X9, W2.heap.size = X9 := ⟨_, rfl⟩
  rw [hW3] at h2 p2 ⊢
  rw [hP] at p2 hlo ⊢
  clear hW3 hP hc b2 h1
  clear k0 k1 k2 k3 k4 s0 s1 s2 s3 s4 s5 s6
  obtain ⟨k0, k1, k2, k3, k4⟩ := h2.ky.cells
  obtain ⟨s0, s1, s2, s3, s4, s5, s6⟩ := h2.sg.cells
  have hc := c2.out W3 h2.bel
  go_upto_region 3 with (go_at_call 7; go_must (refine hc.mono ?_; rintro e W4 ⟨rfl, b4⟩))
  have h4 := (h2.step b4).step ((Below.refl _ _).alloc (Nat.le_refl _) (.cells #[.int .i64 b.key.kind, .int .i64 b.key.src, .int .i64 b.key.frm, .int .i64 b.key.dst, .int .i64 b.key.too, .int .i64 b.st, .int .i64 b.unt, .int .i64 b.stp, .int .i64 b.h0, .int .i64 b.h1, .int .i64 b.w0, .int .i64 b.w1, .bool b.d0, .bool b.d1, .int .i64 b.num] 30))
  have p4 := (p2.below p2.lt b4).alloc (.cells #[.int .i64 b.key.kind, .int .i64 b.key.src, .int .i64 b.key.frm, .int .i64 b.key.dst, .int .i64 b.key.too, .int .i64 b.st, .int .i64 b.unt, .int .i64 b.stp, .int .i64 b.h0, .int .i64 b.h1, .int .i64 b.w0, .int .i64 b.w1, .bool b.d0, .bool b.d1, .int .i64 b.num] 30)
  have q4 := FlAt.new W4 b
  have hlq : P < W4.heap.size := (p2.below p2.lt b4).lt
  obtain ⟨W5, hW5⟩ : ∃ X9, W4.alloc (.cells #[.int .i64 b.key.kind, .int .i64 b.key.src, .int .i64 b.key.frm, .int .i64 b.key.dst, .int .i64 b.key.too, .int .i64 b.st, .int .i64 b.unt, .int .i64 b.stp, .int .i64 b.h0, .int .i64 b.h1, .int .i64 b.w0, .int .i64 b.w1, .bool b.d0, .bool b.d1, .int .i64 b.num] 30) = X9 := ⟨_, rfl⟩
  obtain ⟨G, hG⟩ : ∃ X9, W4.heap.size = X9 := ⟨_, rfl⟩
  rw [hW5] at h4 p4 q4 ⊢
  rw [hG] at q4 hlq ⊢
  clear hW5 hG hc b4 h2 p2 c1 c2
  clear k0 k1 k2 k3 k4 s0 s1 s2 s3 s4 s5 s6
  have hc := error_val EV1.out z1 W5 (HE.out _ h4.bel)
  rw [show (z1 == z1) = true by simp] at hc
  go_upto_region 4 with (go_at_call 8; go_must (refine hc.mono ?_; rintro e W6 ⟨rfl, b6⟩))
  have h6 := h4.step b6
  have p6 := p4.below p4.lt b6
  have q6 := q4.below q4.lt b6
  clear hc b6 h4 p4 q4
  obtain ⟨d0, d1, d2, d3, d4, d5, d6, d7, d8, d9, d10, d11, d12, d13, d14⟩ := p6.cells
  obtain ⟨g0, g1, g2, g3, g4, g5, g6, g7, g8, g9, g10, g11, g12, g13, g14⟩ := q6.cells
  have hne := Tryd.flNeq b
  have hgd := Tryd.flGuard
  go_upto_region 6 with fail
  clear hne d0 d1 d2 d3 d4 d5 d6 d7 d8 d9 d10 d11 d12 d13 d14 g0 g1 g2 g3 g4 g5 g6 g7 g8 g9 g10 g11 g12 g13 g14
  obtain ⟨f0, f1, f2, f3, f4, f5, f6, f7, f8, f9, f10, f11, f12, f13, f14⟩ := h6.fl.cells
  have f0 := Ext.cell f0
  have f1 := Ext.cell f1
  have f2 := Ext.cell f2
  have f3 := Ext.cell f3
  have f4 := Ext.cell f4
  have f5 := Ext.cell f5
  have f6 := Ext.cell f6
  have f7 := Ext.cell f7
  have f8 := Ext.cell f8
  have f9 := Ext.cell f9
  have f10 := Ext.cell f10
  have f11 := Ext.cell f11
  have f12 := Ext.cell f12
  have f13 := Ext.cell f13
  have f14 := Ext.cell f14
  have hc5 : ∀ u : Ext W6, Calls Tryd.prog 9 #[.agg #[.int .i64 f.key.kind, .int .i64 f.key.src, .int .i64 f.key.frm, .int .i64 f.key.dst, .int .i64 f.key.too, .int .i64 f.st, .int .i64 f.unt, .int .i64 f.stp, .int .i64 f.h0, .int .i64 f.h1, .int .i64 f.w0, .int .i64 f.w1, .bool f.d0, .bool f.d1, .int .i64 f.num]] u.W fun e w' => e = .returned v3 ∧ ∃ u' : Ext W6, w' = u'.W := fun u => (c5.out u.W (h6.bel.trans (u.h.mono h6.bel.size))).mono fun e w' ⟨he, hb⟩ => ⟨he, ⟨w', u.h.trans (hb.mono u.h.size)⟩, rfl⟩
  have hc6 := Ext.call (w := W6) c6.out
  have hc9 : ∀ u : Ext W6, Calls Tryd.prog 8 #[v3, .int .i64 z3] u.W fun e w' => e = .returned (.bool true) ∧ ∃ u' : Ext W6, w' = u'.W := fun u => (error_val EV3.out z3 u.W (HE.out _ (h6.bel.trans (u.h.mono h6.bel.size)))).mono fun e w' ⟨he, hb⟩ => ⟨by rw [he]; simp, ⟨w', u.h.trans (hb.mono u.h.size)⟩, rfl⟩
  refine wp_region_ext (by kernel_rfl) (by kernel_rfl) ?_
  repeat (go_big_quiet_step (first | (go_at_call 9; exact hc5 _) | (go_at_call 10; exact hc6 _) | (go_at_call 8; exact hc9 _)))
  refine wpQuiet_nil ?_
  rintro _ ⟨u, rfl⟩
  have h7 := h6.step u.h
  have p7 := p6.below p6.lt u.h
  have q7 := q6.below q6.lt u.h
  obtain ⟨W7, hW7⟩ : ∃ X9, u.W = X9 := ⟨_, rfl⟩
  rw [hW7] at h7 p7 q7 ⊢
  clear hW7 u hc5 hc6 hc9 h6 p6 q6 c5 c6 EV3 EV1 f0 f1 f2 f3 f4 f5 f6 f7 f8 f9 f10 f11 f12 f13 f14
  go_upto_region 7 with fail
  go_cut [16] (fun v wr => v = .int .i64 z2 ∧ Hid (Ksf w k s (.slice a l c) f wr ∧ FlAt wr P g ∧ FlAt wr G b))
  case first =>
    obtain ⟨k0, k1, k2, k3, k4⟩ := h7.ky.cells
    obtain ⟨s0, s1, s2, s3, s4, s5, s6⟩ := h7.sg.cells
    obtain ⟨f0, f1, f2, f3, f4, f5, f6, f7, f8, f9, f10, f11, f12, f13, f14⟩ := h7.fl.cells
    have hc := c3.out W7 h7.bel
    go_wp2_with (go_at_call 11; go_must (refine hc.mono ?_; rintro e X8 ⟨rfl, b8⟩; have hh := h7.step b8; have pp := p7.below p7.lt b8; obtain ⟨y0, y1, y2, y3, y4, y5, y6, y7, y8, y9, y10, y11, y12, y13, y14⟩ := pp.frees; obtain ⟨d0, d1, d2, d3, d4, d5, d6, d7, d8, d9, d10, d11, d12, d13, d14⟩ := pp.cells))
    have qq := q7.below q7.lt b8
    obtain ⟨W8, hW8, p8, o8⟩ := pp.store g
    rw [hW8]
    have h8 := hh.only hlo o8
    have q8 := qq.only (by omega) o8
    have HF := hidE (And.intro h8 (And.intro p8 q8))
    clear hW8 hc b8 hh pp qq o8 h7 p7 q7 h8 p8 q8 c3 y0 y1 y2 y3 y4 y5 y6 y7 y8 y9 y10 y11 y12 y13 y14 d0 d1 d2 d3 d4 d5 d6 d7 d8 d9 d10 d11 d12 d13 d14 f0 f1 f2 f3 f4 f5 f6 f7 f8 f9 f10 f11 f12 f13 f14
    clear k0 k1 k2 k3 k4 s0 s1 s2 s3 s4 s5 s6
    go_meet
    case rel => exact ⟨rfl, HF⟩
  case rest =>
  obtain ⟨rfl, HF⟩ := hcut
  go_step
  exact steps_t8 Q k s a l c now f b g side st lf z2 v2 w wc P G _ (by kernel_rfl) HQ HE EV2 c4 c7 c8 HF.out.1 HF.out.2.1 HF.out.2.2 hlo hlq _ _ _ _ _ _ _ _ _ _ _ _ _ _ _ _ _ _ _ _ _ _ _ _ _ _ _ _ _ _ _ _ _ _ _ _ _ _ _ _ _ _ _ _ _ _ _ _ _ _ _ _ _ _ _ _ _ _ _ _ _ _ _ _ _ _ _ _ _ _ _ _ _ _ _ _ _ _ _ _ _
theorem steps_walk (k : Ky) (s : Sg) (bv : Value) (rule now : Int) (f : Fl) (side st : Int) (w : World) (hb : Bytes w bv s.body) {p0 p1 p2 p3 : Prop} (_ : p0) (_ : p1) (_ : p2) (_ : p3) (hE : ErrLaid w) (hL : Lives w) :
    Calls Tryd.prog 3 #[keyV k, segV s bv, .int .i64 rule, .int .i64 now, flV f, .int .i64 side, .int .i64 st] w fun e w' => e = .returned (.bool true) ∧ Below w.heap.size w w' := by
  obtain ⟨a, c, rfl⟩ := len_body hb
  exact steps_any k s a _ c rule now f side st w hb hE hL
end Go.Proofs.YtdhjfjnjdkmhjaaDoor
