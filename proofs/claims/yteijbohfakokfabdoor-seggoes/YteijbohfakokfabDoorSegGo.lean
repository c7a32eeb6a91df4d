/- The law SegGoes of package portlaw1 returns true, for every kind, segment, source, destination and bytes, where errors.errorType holds the handle of the type error; the walk of its text. -/
import Derived.Test.YteijbohfakokfabDoorRefRs
import Derived.Test.YteijbohfakokfabDoorRefBy
import Derived.Test.YteijbohfakokfabDoorSegSame
import Derived.Test.YteijbohfakokfabDoorTold
import Derived.Test.YteijbohfakokfabDoorOpenB
namespace Go.Proofs.YteijbohfakokfabDoor
open Go.RowKit
set_option linter.unusedVariables false

theorem errV_val (e : Int) : ErrVal (errV e) e := by
  unfold errV
  split
  · exact .inl ⟨rfl, by assumption⟩
  · exact .inr rfl
/-- The segment that came in lies there still. -/
structure Fl (w : World) (s : Sg) (bv : Value) (w' : World) : Prop where
  sg : SgAt w' w.heap.size s bv
  below : Below w.heap.size w w'
theorem Fl.step {w : World} {s : Sg} {bv : Value} {w' w'' : World} (h : Fl w s bv w') (hb : Below w'.heap.size w' w'') : Fl w s bv w'' := ⟨h.sg.below h.sg.lt hb, h.below.trans (hb.mono h.below.size)⟩
theorem Fl.start (w : World) (s : Sg) (bv : Value) : Fl w s bv (w.alloc (.cells #[.int .i64 s.frm, .int .i64 s.too, .int .i64 s.seq, .int .i64 s.ack, .int .i64 s.win, .int .i64 s.flg, bv] 65)) :=
  ⟨SgAt.new w s bv, (Below.refl _ _).alloc (Nat.le_refl _) _⟩
theorem rr_slice {k src dst : Int} {zs : List Int} {w w' : World} {e : Ending} (h : RReads k src dst zs w e w') :
    ∃ a n c, e = .returned (.tuple #[segV (rdS k zs src dst) (.slice a n c), .int .i64 (rdErr k zs src dst)]) ∧ Bytes w' (.slice a n c) (rdS k zs src dst).body ∧ Below w.heap.size w w' := by
  obtain ⟨bv, rfl, hb, hw⟩ := h
  obtain ⟨a, c, rfl⟩ := len_body hb
  exact ⟨a, _, c, rfl, hb, hw⟩
theorem r_slice {k src dst : Int} {zs : List Int} {w w' : World} {e : Ending} (h : Reads k src dst zs w e w') :
    ∃ a n c, e = .returned (.tuple #[segV (rdS k zs src dst) (.slice a n c), errV (rdErr k zs src dst)]) ∧ Bytes w' (.slice a n c) (rdS k zs src dst).body ∧ Below w.heap.size w w' := by
  obtain ⟨bv, rfl, hb, hw⟩ := h
  obtain ⟨a, c, rfl⟩ := len_body hb
  exact ⟨a, _, c, rfl, hb, hw⟩
theorem segW_nil {k : Int} {s : Sg} {src dst : Int} (h : ¬ sgErr k s src dst = 0) : segW k s src dst = [] := by unfold segW; rw [if_neg h]
theorem segW_ok {k : Int} {s : Sg} {src dst : Int} (h : sgErr k s src dst = 0) : segW k s src dst = segL k s src dst := by unfold segW; rw [if_pos h]

set_option maxRecDepth 100000 in
set_option maxHeartbeats 40000000 in
theorem goes_any (kind src dst : Int) (s : Sg) (a : Option Addr) (l c : Nat) (av : Option Addr) (nv cv : Nat) (zs : List Int) (w : World) (hb : Bytes w (.slice a l c) s.body) (hv : Bytes w (.slice av nv cv) zs) (hE : ErrLaid w) :
    Calls Tryd.prog 7 #[.int .i64 kind, segV s (.slice a l c), .int .i64 src, .int .i64 dst, .slice av nv cv] w fun e w' => e = .returned (.bool true) ∧ Below w.heap.size w w' := by
  have h0 := Fl.start w s (.slice a l c)
  have HB : Hid (Bytes w (.slice a l c) s.body) := hb
  have HV : Hid (Bytes w (.slice av nv cv) zs) := hv
  have HE : Hid (ErrLaid w) := hE
  have hR := refSegment_any kind s src dst (.slice a l c) _ (hb.below (Nat.le_refl _) h0.below)
  obtain ⟨m, HM⟩ : ∃ m, Hid (m = sgErr kind s src dst) := ⟨_, rfl⟩
  rw [← HM.out] at hR
  obtain ⟨SW, HW⟩ : ∃ SW, Hid (SW = segW kind s src dst) := ⟨_, rfl⟩
  have hSW : SW.length ≤ 4000 := by rw [HW.out]; exact segW_len _ _ _ _
  unfold segV at *
  clear hb hE hv
  go_enter Tryd.func7, Tryd.ntmps7
  go_upto_region 3 with (go_at_call 30; refine hR.mono ?_; rintro e w1 ⟨rfl, b1⟩)
  have h1 := h0.step b1
  clear h0 b1 hR
  obtain ⟨s0, s1, s2, s3, s4, s5, s6⟩ := h1.sg.cells
  go_upto_if 26 with fail
  go_cut [12] (fun t ww => Bytes ww t SW ∧ Fl w s (.slice a l c) ww)
  case first =>
    as_aux_lemma =>
      by_cases hm : m = 0
      · have hSB := refSegBytes_any kind s src dst (.slice a l c) w1 (HB.out.below (Nat.le_refl _) h1.below) (by rw [← HM.out]; exact hm)
        unfold segV at hSB
        rw [← segW_ok (by rw [← HM.out]; exact hm), ← HW.out] at hSB
        subst hm
        go_wp2_with (go_at_call 31; refine hSB.mono ?_; rintro e w2 ⟨v2, rfl, o2, b2⟩)
        go_meet
        case rel => exact ⟨o2.bytes (by omega), h1.step b2⟩
      · have e0 : (m == 0) = false := by simpa using hm
        have hz : SW = [] := by rw [HW.out]; exact segW_nil (by rw [← HM.out]; exact hm)
        clear hm
        go_wp2_with fail
        go_meet
        case rel => exact ⟨by rw [hz]; exact .inl ⟨rfl, _, _, rfl, fun _ => rfl⟩, h1⟩
  case rest =>
    obtain ⟨hx, h2⟩ := hcut
    clear h1 s0 s1 s2 s3 s4 s5 s6
    obtain ⟨ax, cx, hux⟩ := len_body hx
    subst hux
    obtain ⟨nx, hnx⟩ : ∃ nx, nx = SW.length := ⟨_, rfl⟩
    rw [← hnx] at hx ⊢
    clear hnx
    obtain ⟨s0, s1, s2, s3, s4, s5, s6⟩ := h2.sg.cells
    have hEn := sgEncode_any kind s src dst (.slice a l c) wc (HB.out.below (Nat.le_refl _) h2.below)
    unfold segV at hEn
    rw [← HM.out, ← HW.out] at hEn
    have hEn' : Calls Tryd.prog 32 #[.int .i64 kind, .agg #[.int .i64 s.frm, .int .i64 s.too, .int .i64 s.seq, .int .i64 s.ack, .int .i64 s.win, .int .i64 s.flg, .slice a l c], .int .i64 src, .int .i64 dst] wc fun e w' => ∃ a n c, e = .returned (.tuple #[.slice a n c, errV m]) ∧ Bytes w' (.slice a n c) SW ∧ Below wc.heap.size wc w' := by
      refine hEn.mono ?_
      rintro e w' ⟨v, rfl, ho, hw⟩
      obtain ⟨a', n', c', rfl⟩ := ho.slice
      exact ⟨a', n', c', rfl, ho.bytes (by omega), hw⟩
    clear hEn
    obtain ⟨em, HEM, EV⟩ : ∃ em, Hid (em = errV m) ∧ ErrVal em m := ⟨_, rfl, errV_val m⟩
    rw [← HEM.out] at hEn'
    go_upto_region 6 with (go_at_call 32; refine hEn'.mono ?_; rintro e w3 ⟨a3, n3, c3, rfl, hb3, b3⟩)
    have h3 := h2.step b3
    have hx3 := hx.below (Nat.le_refl _) b3
    have hEr := error_val EV m w3 (HE.out.below h3.below)
    rw [show (m == m) = true by simp] at hEr
    clear h2 b3 hEn' hx s0 s1 s2 s3 s4 s5 s6
    go_upto_region 7 with (go_at_call 21; refine hEr.mono ?_; rintro e w4 ⟨rfl, b4⟩)
    have h4 := h3.step b4
    have hx4 := hx3.below (Nat.le_refl _) b4
    have hb4 := hb3.below (Nat.le_refl _) b4
    clear h3 b4 hEr hx3 hb3
    obtain ⟨t, HT⟩ : ∃ t, Hid (t = rdS kind zs src dst) := ⟨_, rfl⟩
    obtain ⟨x, HX⟩ : ∃ x, Hid (x = rdErr kind zs src dst) := ⟨_, rfl⟩
    have hRR : ∀ W, Bytes W (.slice av nv cv) zs → Calls Tryd.prog 33 #[.int .i64 kind, .slice av nv cv, .int .i64 src, .int .i64 dst] W fun e w' => ∃ a n c, e = .returned (.tuple #[.agg #[.int .i64 t.frm, .int .i64 t.too, .int .i64 t.seq, .int .i64 t.ack, .int .i64 t.win, .int .i64 t.flg, .slice a n c], .int .i64 x]) ∧ Bytes w' (.slice a n c) t.body ∧ Below W.heap.size W w' := by
      intro W h
      rw [HT.out, HX.out]
      exact (refReadSeg_any kind src dst _ zs W h).mono fun e w' h => rr_slice h
    obtain ⟨ex, HEX, EX⟩ : ∃ ex, Hid (ex = errV x) ∧ ErrVal ex x := ⟨_, rfl, errV_val x⟩
    have hRd : ∀ W, Bytes W (.slice av nv cv) zs → Calls Tryd.prog 34 #[.int .i64 kind, .slice av nv cv, .int .i64 src, .int .i64 dst] W fun e w' => ∃ a n c, e = .returned (.tuple #[.agg #[.int .i64 t.frm, .int .i64 t.too, .int .i64 t.seq, .int .i64 t.ack, .int .i64 t.win, .int .i64 t.flg, .slice a n c], ex]) ∧ Bytes w' (.slice a n c) t.body ∧ Below W.heap.size W w' := by
      intro W h
      rw [HEX.out, HT.out, HX.out]
      exact (sgRead_any kind src dst _ zs W h).mono fun e w' h => r_slice h
    have r4 := hRR w4 (HV.out.below (Nat.le_refl _) h4.below)
    go_upto_region 8 with (go_at_call 33; refine r4.mono ?_; rintro e w5 ⟨a5, n5, c5, rfl, hb5, b5⟩)
    have al5 : Below w5.heap.size w5 (w5.alloc (.cells #[.int .i64 t.frm, .int .i64 t.too, .int .i64 t.seq, .int .i64 t.ack, .int .i64 t.win, .int .i64 t.flg, .slice a5 n5 c5] 65)) := (Below.refl _ _).alloc (Nat.le_refl _) _
    have h5 := (h4.step b5).step al5
    have x5 := SgAt.new w5 t (.slice a5 n5 c5)
    have hx5 := (hx4.below (Nat.le_refl _) b5).below (Nat.le_refl _) al5
    have hy5 := (hb4.below (Nat.le_refl _) b5).below (Nat.le_refl _) al5
    have hz5 := hb5.below (Nat.le_refl _) al5
    obtain ⟨W5, hW5⟩ : ∃ W5, w5.alloc (.cells #[.int .i64 t.frm, .int .i64 t.too, .int .i64 t.seq, .int .i64 t.ack, .int .i64 t.win, .int .i64 t.flg, .slice a5 n5 c5] 65) = W5 := ⟨_, rfl⟩
    obtain ⟨G5, hG5⟩ : ∃ G5, G5 = w5.heap.size := ⟨_, rfl⟩
    rw [hW5] at h5 x5 hx5 hy5 hz5 ⊢
    rw [← hG5] at x5 ⊢
    clear hW5 hG5 al5 b5 h4 hx4 hb4 hb5 r4 hRR
    have r5 := hRd W5 (HV.out.below (Nat.le_refl _) h5.below)
    go_upto_region 9 with (go_at_call 34; refine r5.mono ?_; rintro e w6 ⟨a6, n6, c6, rfl, hb6, b6⟩)
    have al6 : Below w6.heap.size w6 (w6.alloc (.cells #[.int .i64 t.frm, .int .i64 t.too, .int .i64 t.seq, .int .i64 t.ack, .int .i64 t.win, .int .i64 t.flg, .slice a6 n6 c6] 65)) := (Below.refl _ _).alloc (Nat.le_refl _) _
    have h6 := (h5.step b6).step al6
    have x6 := (x5.below x5.lt b6).alloc (.cells #[.int .i64 t.frm, .int .i64 t.too, .int .i64 t.seq, .int .i64 t.ack, .int .i64 t.win, .int .i64 t.flg, .slice a6 n6 c6] 65)
    have y6 := SgAt.new w6 t (.slice a6 n6 c6)
    have hx6 := (hx5.below (Nat.le_refl _) b6).below (Nat.le_refl _) al6
    have hy6 := (hy5.below (Nat.le_refl _) b6).below (Nat.le_refl _) al6
    have hz6 := (hz5.below (Nat.le_refl _) b6).below (Nat.le_refl _) al6
    have hq6 := hb6.below (Nat.le_refl _) al6
    obtain ⟨W6, hW6⟩ : ∃ W6, w6.alloc (.cells #[.int .i64 t.frm, .int .i64 t.too, .int .i64 t.seq, .int .i64 t.ack, .int .i64 t.win, .int .i64 t.flg, .slice a6 n6 c6] 65) = W6 := ⟨_, rfl⟩
    obtain ⟨G6, hG6⟩ : ∃ G6, G6 = w6.heap.size := ⟨_, rfl⟩
    rw [hW6] at h6 x6 y6 hx6 hy6 hz6 hq6 ⊢
    rw [← hG6] at y6 ⊢
    clear hW6 hG6 al6 b6 h5 x5 hx5 hy5 hz5 hb6 r5 hRd
    have hEr := error_val EX x W6 (HE.out.below h6.below)
    rw [show (x == x) = true by simp] at hEr
    go_upto_region 10 with (go_at_call 21; refine hEr.mono ?_; rintro e w7 ⟨rfl, b7⟩)
    have h7 := h6.step b7
    have x7 := x6.below x6.lt b7
    have y7 := y6.below y6.lt b7
    have hx7 := hx6.below (Nat.le_refl _) b7
    have hy7 := hy6.below (Nat.le_refl _) b7
    have hM := sameSg t (.slice a6 n6 c6) (.slice a5 n5 c5) w7 (hq6.below (Nat.le_refl _) b7) (hz6.below (Nat.le_refl _) b7)
    unfold segV at hM
    clear h6 x6 y6 hx6 hy6 hz6 hq6 b7 hEr
    obtain ⟨u0, u1, u2, u3, u4, u5, u6⟩ := x7.cells
    obtain ⟨v0, v1, v2, v3, v4, v5, v6⟩ := y7.cells
    go_upto_region 11 with (go_at_call 35; refine hM.mono ?_; rintro e w8 ⟨rfl, b8⟩)
    have bel := (h7.step b8).below
    have q1 := conv_bytesS (hx7.below (Nat.le_refl _) b8)
    have q2 := conv_bytesS (hy7.below (Nat.le_refl _) b8)
    clear h7 x7 y7 hx7 hy7 b8 hM u0 u1 u2 u3 u4 u5 u6 v0 v1 v2 v3 v4 v5 v6
    generalize strOfNums SW = S at q1 q2
    go_wp2_with fail
    go_ret
    exact ⟨rfl, bel⟩
theorem goes_walk (kind : Int) (s : Sg) (bv : Value) (src dst : Int) (v : Value) (zs : List Int) (w : World) {cap : Nat} {p q r : Prop} (_ : p) (hb : Bytes w bv s.body) (_ : q) (_ : r) (hv : Bytes w v zs) (hc : cap ≤ reachBytes) (hl : zs.length ≤ cap) (hE : ErrLaid w) :
    Calls Tryd.prog 7 #[.int .i64 kind, segV s bv, .int .i64 src, .int .i64 dst, v] w fun e w' => e = .returned (.bool true) ∧ Below w.heap.size w w' := by
  obtain ⟨a, c, rfl⟩ := len_body hb
  obtain ⟨av, cv, rfl⟩ := len_body hv
  exact goes_any kind src dst s a _ c av _ cv zs w hb hv hE
end Go.Proofs.YteijbohfakokfabDoor
