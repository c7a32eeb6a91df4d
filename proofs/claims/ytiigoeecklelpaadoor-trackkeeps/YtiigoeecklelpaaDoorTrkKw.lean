/- The law TrackKeeps of package portlaw2 returns true, for every flow, segment, side and time, where the table of lives holds what the rows lay; the walk of its text. -/
import Derived.Test.YtiigoeecklelpaaDoorMgS
import Derived.Test.YtiigoeecklelpaaDoorMgT
import Derived.Test.YtiigoeecklelpaaDoorEqFl
import Derived.Deep.DeepCutAuto
import Derived.Deep.DeepMust
namespace Go.Proofs.YtiigoeecklelpaaDoor
open Go.RowKit
set_option linter.unusedVariables false

theorem bytes_nil (w : World) : Bytes w (.slice none 0 0) [] := .inl ⟨rfl, _, _, rfl, fun _ => rfl⟩
theorem kp_call1 (w : World) (hL : Lives w) : Calls Tryd.prog 8 #[.agg #[.int .i64 2, .int .i64 1, .int .i64 2, .int .i64 3, .int .i64 4], .agg #[.int .i64 2, .int .i64 4, .int .i64 0, .int .i64 0, .int .i64 0, .int .i64 0, .slice none 0 0], .int .i64 0, .int .i64 7] w fun e w' => e = .returned (.tuple #[.agg #[.int .i64 2, .int .i64 1, .int .i64 2, .int .i64 3, .int .i64 4, .int .i64 1, .int .i64 37, .int .i64 1, .int .i64 0, .int .i64 0, .int .i64 0, .int .i64 0, .bool false, .bool false, .int .i64 0], .nilIface]) ∧ Below w.heap.size w w' := by
  have h := begin_any kpK kpS (.slice none 0 0) 0 7 w (bytes_nil w) hL
  rw [kp_beg.1, kp_beg.2, errV_ok] at h
  exact h
theorem kp_call2 (w : World) (hL : Lives w) : Calls Tryd.prog 13 #[.agg #[.int .i64 2, .int .i64 1, .int .i64 2, .int .i64 3, .int .i64 4, .int .i64 1, .int .i64 37, .int .i64 1, .int .i64 0, .int .i64 0, .int .i64 0, .int .i64 0, .bool false, .bool false, .int .i64 0], .agg #[.int .i64 4, .int .i64 2, .int .i64 0, .int .i64 0, .int .i64 0, .int .i64 0, .slice none 0 0], .int .i64 1, .int .i64 8] w fun e w' => e = .returned (.tuple #[.agg #[.int .i64 2, .int .i64 1, .int .i64 2, .int .i64 3, .int .i64 4, .int .i64 2, .int .i64 68, .int .i64 2, .int .i64 0, .int .i64 0, .int .i64 0, .int .i64 0, .bool false, .bool false, .int .i64 0], .nilIface]) ∧ Below w.heap.size w w' := by
  have h := step_any kpF kpT (.slice none 0 0) 1 8 w (bytes_nil w) hL
  rw [kp_stp.1, kp_stp.2, errV_ok] at h
  exact h
/-- Two flows, in blocks of their own. -/
structure K2 (w : World) (f g : Fl) (G : Nat) (W : World) : Prop where
  fl : FlAt W w.heap.size f
  gl : FlAt W G g
  bel : Below w.heap.size w W
theorem K2.step {w W W' : World} {f g : Fl} {G : Nat} (h : K2 w f g G W) (hb : Below W.heap.size W W') : K2 w f g G W' :=
  ⟨h.fl.below h.fl.lt hb, h.gl.below h.gl.lt hb, h.bel.trans (hb.mono h.bel.size)⟩
theorem K2.drewN {w W : World} {f g : Fl} {G : Nat} (h : K2 w f g G W) (n : Nat) : K2 w f g G (W.drewN n) := ⟨h.fl.drewN n, h.gl.drewN n, below_drewN h.bel n⟩
theorem kpF_cells {w : World} {b : Nat} (h : FlAt w b kpF) : w.cell? ⟨b, 0, none⟩ = some (.int .i64 2) ∧ w.cell? ⟨b, 1, none⟩ = some (.int .i64 1) ∧ w.cell? ⟨b, 2, none⟩ = some (.int .i64 2) ∧ w.cell? ⟨b, 3, none⟩ = some (.int .i64 3) ∧ w.cell? ⟨b, 4, none⟩ = some (.int .i64 4) ∧ w.cell? ⟨b, 5, none⟩ = some (.int .i64 1) ∧ w.cell? ⟨b, 6, none⟩ = some (.int .i64 37) ∧ w.cell? ⟨b, 7, none⟩ = some (.int .i64 1) ∧ w.cell? ⟨b, 8, none⟩ = some (.int .i64 0) ∧ w.cell? ⟨b, 9, none⟩ = some (.int .i64 0) ∧ w.cell? ⟨b, 10, none⟩ = some (.int .i64 0) ∧ w.cell? ⟨b, 11, none⟩ = some (.int .i64 0) ∧ w.cell? ⟨b, 12, none⟩ = some (.bool false) ∧ w.cell? ⟨b, 13, none⟩ = some (.bool false) ∧ w.cell? ⟨b, 14, none⟩ = some (.int .i64 0) := h.cells
theorem kpG_cells {w : World} {b : Nat} (h : FlAt w b kpG) : w.cell? ⟨b, 0, none⟩ = some (.int .i64 2) ∧ w.cell? ⟨b, 1, none⟩ = some (.int .i64 1) ∧ w.cell? ⟨b, 2, none⟩ = some (.int .i64 2) ∧ w.cell? ⟨b, 3, none⟩ = some (.int .i64 3) ∧ w.cell? ⟨b, 4, none⟩ = some (.int .i64 4) ∧ w.cell? ⟨b, 5, none⟩ = some (.int .i64 2) ∧ w.cell? ⟨b, 6, none⟩ = some (.int .i64 68) ∧ w.cell? ⟨b, 7, none⟩ = some (.int .i64 2) ∧ w.cell? ⟨b, 8, none⟩ = some (.int .i64 0) ∧ w.cell? ⟨b, 9, none⟩ = some (.int .i64 0) ∧ w.cell? ⟨b, 10, none⟩ = some (.int .i64 0) ∧ w.cell? ⟨b, 11, none⟩ = some (.int .i64 0) ∧ w.cell? ⟨b, 12, none⟩ = some (.bool false) ∧ w.cell? ⟨b, 13, none⟩ = some (.bool false) ∧ w.cell? ⟨b, 14, none⟩ = some (.int .i64 0) := h.cells

set_option maxRecDepth 100000 in
set_option maxHeartbeats 32000000 in
theorem keeps_any (f : Fl) (s : Sg) (a : Option Addr) (l c : Nat) (side now : Int) (w : World) (hb : Bytes w (.slice a l c) s.body) (hL : Lives w) :
    Calls Tryd.prog 5 #[flV f, segV s (.slice a l c), .int .i64 side, .int .i64 now] w fun e w' => e = .returned (.bool true) ∧ Below w.heap.size w w' := by
  obtain ⟨Q, hQ⟩ : ∃ Q : Ending → World → Prop, Q = fun e w' => e = .returned (.bool true) ∧ Below w.heap.size w w' := ⟨_, rfl⟩
  have HQ : Hid (∀ w', Below w.heap.size w w' → Q (.returned (.bool true)) w') := by rw [hQ]; exact fun _ h => ⟨rfl, h⟩
  rw [← hQ]
  have h1 := Fs2.start w f s (.slice a l c)
  obtain ⟨W1, hW1⟩ : ∃ W1, (w.alloc (.cells #[.int .i64 f.key.kind, .int .i64 f.key.src, .int .i64 f.key.frm, .int .i64 f.key.dst, .int .i64 f.key.too, .int .i64 f.st, .int .i64 f.unt, .int .i64 f.stp, .int .i64 f.h0, .int .i64 f.h1, .int .i64 f.w0, .int .i64 f.w1, .bool f.d0, .bool f.d1, .int .i64 f.num] 30)).alloc (.cells #[.int .i64 s.frm, .int .i64 s.too, .int .i64 s.seq, .int .i64 s.ack, .int .i64 s.win, .int .i64 s.flg, .slice a l c] 26) = W1 := ⟨_, rfl⟩
  rw [hW1] at h1
  have HL := hidE (fun W (hb : Below w.heap.size w W) => hL.below hb)
  have HB := hidE (fun W (hB : Below w.heap.size w W) => hb.below (Nat.le_refl _) hB)
  clear hQ hL hb
  unfold flV segV
  go_enter Tryd.func5, Tryd.ntmps5
  go_upto_region 1 with fail
  try rw [hW1]
  clear hW1
  go_upto_region 2 with fail
  have h2 := h1.step ((Below.refl _ _).alloc (Nat.le_refl _) (.cells #[.int .i64 2, .int .i64 1, .int .i64 2, .int .i64 3, .int .i64 4] 23))
  have k2 := KyAt.new W1 kpK
  rw [show (Obj.cells #[.int .i64 kpK.kind, .int .i64 kpK.src, .int .i64 kpK.frm, .int .i64 kpK.dst, .int .i64 kpK.too] 23) = .cells #[.int .i64 2, .int .i64 1, .int .i64 2, .int .i64 3, .int .i64 4] 23 from rfl] at k2
  obtain ⟨W2, hW2⟩ : ∃ W2, W1.alloc (.cells #[.int .i64 2, .int .i64 1, .int .i64 2, .int .i64 3, .int .i64 4] 23) = W2 := ⟨_, rfl⟩
  obtain ⟨KB, hKB⟩ : ∃ KB, W1.heap.size = KB := ⟨_, rfl⟩
  rw [hW2] at h2 k2 ⊢
  rw [hKB] at k2 ⊢
  have kc : W2.cell? ⟨KB, 0, none⟩ = some (.int .i64 2) ∧ W2.cell? ⟨KB, 1, none⟩ = some (.int .i64 1) ∧ W2.cell? ⟨KB, 2, none⟩ = some (.int .i64 2) ∧ W2.cell? ⟨KB, 3, none⟩ = some (.int .i64 3) ∧ W2.cell? ⟨KB, 4, none⟩ = some (.int .i64 4) := k2.cells
  obtain ⟨k0, k1, k2', k3, k4⟩ := kc
  have hb1 := kp_call1 W2 (HL.out _ h2.bel)
  clear hW2 hKB h1
  go_upto_region 3 with (go_at_call 8; go_must (refine hb1.mono ?_; rintro e W3 ⟨rfl, b3⟩))
  have h3 := (h2.step b3).step ((Below.refl _ _).alloc (Nat.le_refl _) (.cells #[.int .i64 2, .int .i64 1, .int .i64 2, .int .i64 3, .int .i64 4, .int .i64 1, .int .i64 37, .int .i64 1, .int .i64 0, .int .i64 0, .int .i64 0, .int .i64 0, .bool false, .bool false, .int .i64 0] 30))
  have p3 := FlAt.new W3 kpF
  obtain ⟨W4, hW4⟩ : ∃ W4, W3.alloc (.cells #[.int .i64 2, .int .i64 1, .int .i64 2, .int .i64 3, .int .i64 4, .int .i64 1, .int .i64 37, .int .i64 1, .int .i64 0, .int .i64 0, .int .i64 0, .int .i64 0, .bool false, .bool false, .int .i64 0] 30) = W4 := ⟨_, rfl⟩
  obtain ⟨OB, hOB⟩ : ∃ OB, W3.heap.size = OB := ⟨_, rfl⟩
  have p3' : FlAt W4 OB kpF := by rw [← hW4, ← hOB]; exact p3
  rw [hW4] at h3 ⊢
  rw [hOB]
  clear hW4 hOB h2 b3 hb1 k0 k1 k2' k3 k4 k2 p3
  obtain ⟨c0, c1, c2, c3, c4, c5, c6, c7, c8, c9, c10, c11, c12, c13, c14⟩ := kpF_cells p3'
  have hb2 := kp_call2 W4 (HL.out _ h3.bel)
  go_upto_region 4 with (go_at_call 13; go_must (refine hb2.mono ?_; rintro e W5 ⟨rfl, b5⟩))
  have h5 := (h3.step b5).step ((Below.refl _ _).alloc (Nat.le_refl _) (.cells #[.int .i64 2, .int .i64 1, .int .i64 2, .int .i64 3, .int .i64 4, .int .i64 2, .int .i64 68, .int .i64 2, .int .i64 0, .int .i64 0, .int .i64 0, .int .i64 0, .bool false, .bool false, .int .i64 0] 30))
  have q5 := FlAt.new W5 kpG
  have p5 := (p3'.below p3'.lt b5).alloc (.cells #[.int .i64 2, .int .i64 1, .int .i64 2, .int .i64 3, .int .i64 4, .int .i64 2, .int .i64 68, .int .i64 2, .int .i64 0, .int .i64 0, .int .i64 0, .int .i64 0, .bool false, .bool false, .int .i64 0] 30)
  obtain ⟨W6, hW6⟩ : ∃ W6, W5.alloc (.cells #[.int .i64 2, .int .i64 1, .int .i64 2, .int .i64 3, .int .i64 4, .int .i64 2, .int .i64 68, .int .i64 2, .int .i64 0, .int .i64 0, .int .i64 0, .int .i64 0, .bool false, .bool false, .int .i64 0] 30) = W6 := ⟨_, rfl⟩
  obtain ⟨TB, hTB⟩ : ∃ TB, W5.heap.size = TB := ⟨_, rfl⟩
  have q5' : FlAt W6 TB kpG := by rw [← hW6, ← hTB]; exact q5
  rw [hW6] at h5 p5 ⊢
  rw [hTB]
  clear hW6 hTB h3 b5 hb2 q5 p3' c0 c1 c2 c3 c4 c5 c6 c7 c8 c9 c10 c11 c12 c13 c14
  obtain ⟨c0, c1, c2, c3, c4, c5, c6, c7, c8, c9, c10, c11, c12, c13, c14⟩ := kpF_cells p5
  obtain ⟨d0, d1, d2, d3, d4, d5, d6, d7, d8, d9, d10, d11, d12, d13, d14⟩ := kpG_cells q5'
  go_upto_region 6 with fail
  clear c0 c1 c2 c3 c4 c5 c6 c7 c8 c9 c10 c11 c12 c13 c14 d0 d1 d2 d3 d4 d5 d6 d7 d8 d9 d10 d11 d12 d13 d14 p5 q5'
  obtain ⟨c0, c1, c2, c3, c4, c5, c6, c7, c8, c9, c10, c11, c12, c13, c14⟩ := h5.fl.cells
  obtain ⟨s0, s1, s2, s3, s4, s5, s6⟩ := h5.sg.cells
  have hst := step_any f s (.slice a l c) side now W6 (HB.out _ h5.bel) (HL.out _ h5.bel)
  obtain ⟨g, hg⟩ : ∃ g, stpF f s side now = g := ⟨_, rfl⟩
  obtain ⟨z, hz⟩ : ∃ z, stpE f s side now = z := ⟨_, rfl⟩
  rw [hg, hz] at hst
  have HK := hidE (show z = 0 → Kept f g now by rw [← hg, ← hz]; exact fun h => step_keeps h)
  have HZ := hidE (show ¬ z = 0 → g = zeroF by rw [← hg, ← hz]; exact fun h => stpF_no rfl h)
  unfold flV segV at hst
  clear hg hz
  go_upto_region 7 with (go_at_call 13; go_must (refine hst.mono ?_; rintro e W7 ⟨rfl, b7⟩))
  have h7 := (h5.step b7).step ((Below.refl _ _).alloc (Nat.le_refl _) (.cells #[.int .i64 g.key.kind, .int .i64 g.key.src, .int .i64 g.key.frm, .int .i64 g.key.dst, .int .i64 g.key.too, .int .i64 g.st, .int .i64 g.unt, .int .i64 g.stp, .int .i64 g.h0, .int .i64 g.h1, .int .i64 g.w0, .int .i64 g.w1, .bool g.d0, .bool g.d1, .int .i64 g.num] 30))
  have g7 := FlAt.new W7 g
  obtain ⟨W8, hW8⟩ : ∃ W8, W7.alloc (.cells #[.int .i64 g.key.kind, .int .i64 g.key.src, .int .i64 g.key.frm, .int .i64 g.key.dst, .int .i64 g.key.too, .int .i64 g.st, .int .i64 g.unt, .int .i64 g.stp, .int .i64 g.h0, .int .i64 g.h1, .int .i64 g.w0, .int .i64 g.w1, .bool g.d0, .bool g.d1, .int .i64 g.num] 30) = W8 := ⟨_, rfl⟩
  obtain ⟨G, hG⟩ : ∃ G, W7.heap.size = G := ⟨_, rfl⟩
  rw [hW8] at h7 g7 ⊢
  rw [hG] at g7 ⊢
  have k8 : K2 w f g G W8 := ⟨h7.fl, g7, h7.bel⟩
  clear hW8 hG h5 b7 hst h7 g7 s0 s1 s2 s3 s4 s5 s6 c0 c1 c2 c3 c4 c5 c6 c7 c8 c9 c10 c11 c12 c13 c14
  by_cases z0 : z = 0
  case neg =>
    have hgz := HZ.out z0
    subst hgz
    rw [errV_no z0]
    clear HK HZ z0
    obtain ⟨d0, d1, d2, d3, d4, d5, d6, d7, d8, d9, d10, d11, d12, d13, d14⟩ := zero_cells k8.gl
    have hq := Tryd.flEql zeroF
    have hgd := Tryd.flGuard
    rw [show (Value.agg #[.int .i64 zeroF.key.kind, .int .i64 zeroF.key.src, .int .i64 zeroF.key.frm, .int .i64 zeroF.key.dst, .int .i64 zeroF.key.too, .int .i64 zeroF.st, .int .i64 zeroF.unt, .int .i64 zeroF.stp, .int .i64 zeroF.h0, .int .i64 zeroF.h1, .int .i64 zeroF.w0, .int .i64 zeroF.w1, .bool zeroF.d0, .bool zeroF.d1, .int .i64 zeroF.num]) = .agg #[.int .i64 0, .int .i64 0, .int .i64 0, .int .i64 0, .int .i64 0, .int .i64 0, .int .i64 0, .int .i64 0, .int .i64 0, .int .i64 0, .int .i64 0, .int .i64 0, .bool false, .bool false, .int .i64 0] from rfl] at hq
    have HF := hidE (HQ.out _ k8.bel)
    go_wp2_with fail
    exact HF.out
  have K := HK.out z0
  subst z0
  rw [errV_ok]
  have hck := check_any g W8 (HL.out _ k8.bel)
  rw [K.chk, errV_ok] at hck
  unfold flV at hck
  obtain ⟨d0, d1, d2, d3, d4, d5, d6, d7, d8, d9, d10, d11, d12, d13, d14⟩ := k8.gl.cells
  have KK := hidE K
  clear K HK HZ
  go_upto_region 10 with (go_at_call 10; go_must (refine hck.mono ?_; rintro e W9 ⟨rfl, b9⟩))
  have k9 := k8.step b9
  clear hck b9 k8 d0 d1 d2 d3 d4 d5 d6 d7 d8 d9 d10 d11 d12 d13 d14
  obtain ⟨d0, d1, d2, d3, d4, d5, d6, d7, d8, d9, d10, d11, d12, d13, d14⟩ := k9.gl.cells
  obtain ⟨c0, c1, c2, c3, c4, c5, c6, c7, c8, c9, c10, c11, c12, c13, c14⟩ := k9.fl.cells
  rw [KK.out.key] at d0 d1 d2 d3 d4
  rw [KK.out.num] at d14
  rw [KK.out.stp] at d7
  have hkn := Tryd.keyNeq f.key.kind f.key.src f.key.frm f.key.dst f.key.too
  have hp0 := KK.out.p
  have hu := KK.out.unt
  have ho := KK.out.old
  go_upto_region 12 with fail
  clear hkn hp0 hu ho c0 c1 c2 c3 c4 c5 c6 c7 c8 c9 c10 c11 c12 c13 c14 d0 d1 d2 d3 d4 d5 d6 d7 d8 d9 d10 d11 d12 d13 d14
  go_upto_region 13 with fail
  go_loopw [17, 18] (fun i _ wr => ∃ t : Nat, t ≤ 2 ∧ i = .int .i64 (t : Int) ∧ Hid (K2 w f g G wr)) (fun i _ _ => ((2 : Int) - intOf i).toNat)
  case atStart => exact ⟨0, by omega, rfl, k9⟩
  case round =>
    obtain ⟨t, ht, rfl, HW⟩ := hrel
    have kw := HW.out
    clear HW k9
    have ht3 : t = 0 ∨ t = 1 ∨ t = 2 := by omega
    clear ht
    rcases ht3 with rfl | rfl | rfl
    · obtain ⟨d0, d1, d2, d3, d4, d5, d6, d7, d8, d9, d10, d11, d12, d13, d14⟩ := kw.gl.cells
      obtain ⟨c0, c1, c2, c3, c4, c5, c6, c7, c8, c9, c10, c11, c12, c13, c14⟩ := kw.fl.cells
      have r0 := KK.out.r0
      have q0 := KK.out.q0
      have hdd := hidE KK.out.d0
      have hah := hidE KK.out.h0
      obtain ⟨x, hx⟩ : ∃ x, f.d0 = x := ⟨_, rfl⟩
      obtain ⟨y, hy⟩ : ∃ y, g.d0 = y := ⟨_, rfl⟩
      rw [hx, hy] at hdd
      rw [hx] at c12
      rw [hy] at d12
      clear hx hy
      rcases x with _ | _
      · go_upto_region 17 with fail
        go_big_quiet (fail)
        have k10 := kw.drewN nq
        obtain ⟨W10, hW10⟩ : ∃ W10, wr.drewN nq = W10 := ⟨_, rfl⟩
        rw [hW10] at k10 ⊢
        obtain ⟨dd, he⟩ : ∃ dd, (g.h0 - f.h0 + 4294967296) % 4294967296 = dd := ⟨_, rfl⟩
        rw [he]
        have HD := hidE (show ¬ f.st = 1 → dd < 2147483648 by intro h; have := hah.out h; unfold aheadB at this; rw [← he]; omega)
        have HK10 := hidE k10
        clear hW10 he hah hdd r0 q0 kw c0 c1 c2 c3 c4 c5 c6 c7 c8 c9 c10 c11 c12 c13 c14 d0 d1 d2 d3 d4 d5 d6 d7 d8 d9 d10 d11 d12 d13 d14
        have c5 := k10.fl.cells.2.2.2.2.2.1
        clear k10
        by_cases hlt : 2147483648 ≤ dd
        · have st1 : f.st = 1 := Decidable.byContradiction fun h => by have := HD.out h; omega
          have e1 : (f.st != 1) = false := by simp [st1]
          clear st1 HD
          go_wp2_with fail
          go_roundw
          case rel => exact ⟨1, by omega, by go_num, HK10⟩
          case measure => simp [intOf]
        · clear HD
          go_wp2_with fail
          go_roundw
          case rel => exact ⟨1, by omega, by go_num, HK10⟩
          case measure => simp [intOf]
      · obtain rfl : y = true := hdd.out rfl
        go_upto_region 17 with fail
        go_big_quiet (fail)
        have k10 := kw.drewN nq
        obtain ⟨W10, hW10⟩ : ∃ W10, wr.drewN nq = W10 := ⟨_, rfl⟩
        rw [hW10] at k10 ⊢
        obtain ⟨dd, he⟩ : ∃ dd, (g.h0 - f.h0 + 4294967296) % 4294967296 = dd := ⟨_, rfl⟩
        rw [he]
        have HD := hidE (show ¬ f.st = 1 → dd < 2147483648 by intro h; have := hah.out h; unfold aheadB at this; rw [← he]; omega)
        have HK10 := hidE k10
        clear hW10 he hah hdd r0 q0 kw c0 c1 c2 c3 c4 c5 c6 c7 c8 c9 c10 c11 c12 c13 c14 d0 d1 d2 d3 d4 d5 d6 d7 d8 d9 d10 d11 d12 d13 d14
        have c5 := k10.fl.cells.2.2.2.2.2.1
        clear k10
        by_cases hlt : 2147483648 ≤ dd
        · have st1 : f.st = 1 := Decidable.byContradiction fun h => by have := HD.out h; omega
          have e1 : (f.st != 1) = false := by simp [st1]
          clear st1 HD
          go_wp2_with fail
          go_roundw
          case rel => exact ⟨1, by omega, by go_num, HK10⟩
          case measure => simp [intOf]
        · clear HD
          go_wp2_with fail
          go_roundw
          case rel => exact ⟨1, by omega, by go_num, HK10⟩
          case measure => simp [intOf]
    · obtain ⟨d0, d1, d2, d3, d4, d5, d6, d7, d8, d9, d10, d11, d12, d13, d14⟩ := kw.gl.cells
      obtain ⟨c0, c1, c2, c3, c4, c5, c6, c7, c8, c9, c10, c11, c12, c13, c14⟩ := kw.fl.cells
      have r0 := KK.out.r1
      have q0 := KK.out.q1
      have hdd := hidE KK.out.d1
      have hah := hidE KK.out.h1
      obtain ⟨x, hx⟩ : ∃ x, f.d1 = x := ⟨_, rfl⟩
      obtain ⟨y, hy⟩ : ∃ y, g.d1 = y := ⟨_, rfl⟩
      rw [hx, hy] at hdd
      rw [hx] at c13
      rw [hy] at d13
      clear hx hy
      rcases x with _ | _
      · go_upto_region 17 with fail
        go_big_quiet (fail)
        have k10 := kw.drewN nq
        obtain ⟨W10, hW10⟩ : ∃ W10, wr.drewN nq = W10 := ⟨_, rfl⟩
        rw [hW10] at k10 ⊢
        obtain ⟨dd, he⟩ : ∃ dd, (g.h1 - f.h1 + 4294967296) % 4294967296 = dd := ⟨_, rfl⟩
        rw [he]
        have HD := hidE (show ¬ f.st = 1 → dd < 2147483648 by intro h; have := hah.out h; unfold aheadB at this; rw [← he]; omega)
        have HK10 := hidE k10
        clear hW10 he hah hdd r0 q0 kw c0 c1 c2 c3 c4 c5 c6 c7 c8 c9 c10 c11 c12 c13 c14 d0 d1 d2 d3 d4 d5 d6 d7 d8 d9 d10 d11 d12 d13 d14
        have c5 := k10.fl.cells.2.2.2.2.2.1
        clear k10
        by_cases hlt : 2147483648 ≤ dd
        · have st1 : f.st = 1 := Decidable.byContradiction fun h => by have := HD.out h; omega
          have e1 : (f.st != 1) = false := by simp [st1]
          clear st1 HD
          go_wp2_with fail
          go_roundw
          case rel => exact ⟨2, by omega, by go_num, HK10⟩
          case measure => simp [intOf]
        · clear HD
          go_wp2_with fail
          go_roundw
          case rel => exact ⟨2, by omega, by go_num, HK10⟩
          case measure => simp [intOf]
      · obtain rfl : y = true := hdd.out rfl
        go_upto_region 17 with fail
        go_big_quiet (fail)
        have k10 := kw.drewN nq
        obtain ⟨W10, hW10⟩ : ∃ W10, wr.drewN nq = W10 := ⟨_, rfl⟩
        rw [hW10] at k10 ⊢
        obtain ⟨dd, he⟩ : ∃ dd, (g.h1 - f.h1 + 4294967296) % 4294967296 = dd := ⟨_, rfl⟩
        rw [he]
        have HD := hidE (show ¬ f.st = 1 → dd < 2147483648 by intro h; have := hah.out h; unfold aheadB at this; rw [← he]; omega)
        have HK10 := hidE k10
        clear hW10 he hah hdd r0 q0 kw c0 c1 c2 c3 c4 c5 c6 c7 c8 c9 c10 c11 c12 c13 c14 d0 d1 d2 d3 d4 d5 d6 d7 d8 d9 d10 d11 d12 d13 d14
        have c5 := k10.fl.cells.2.2.2.2.2.1
        clear k10
        by_cases hlt : 2147483648 ≤ dd
        · have st1 : f.st = 1 := Decidable.byContradiction fun h => by have := HD.out h; omega
          have e1 : (f.st != 1) = false := by simp [st1]
          clear st1 HD
          go_wp2_with fail
          go_roundw
          case rel => exact ⟨2, by omega, by go_num, HK10⟩
          case measure => simp [intOf]
        · clear HD
          go_wp2_with fail
          go_roundw
          case rel => exact ⟨2, by omega, by go_num, HK10⟩
          case measure => simp [intOf]
    · obtain ⟨d0, d1, d2, d3, d4, d5, d6, d7, d8, d9, d10, d11, d12, d13, d14⟩ := kw.gl.cells
      obtain ⟨c0, c1, c2, c3, c4, c5, c6, c7, c8, c9, c10, c11, c12, c13, c14⟩ := kw.fl.cells
      have HF := hidE (HQ.out _ kw.bel)
      by_cases h4 : f.st = 4
      · have hg4 := KK.out.st h4
        rw [h4] at c5
        rw [hg4] at d5
        clear h4 hg4
        go_wp2_with fail
        exact HF.out
      · have e4 : (f.st != 4) = true := by simpa using h4
        clear h4
        go_wp2_with fail
        exact HF.out

theorem keeps_walk (f : Fl) (s : Sg) (bv : Value) (side now : Int) (w : World) (hb : Bytes w bv s.body) {p q : Prop} (_ : p) (_ : q) (hL : Lives w) :
    Calls Tryd.prog 5 #[flV f, segV s bv, .int .i64 side, .int .i64 now] w fun e w' => e = .returned (.bool true) ∧ Below w.heap.size w w' := by
  obtain ⟨a, c, rfl⟩ := len_body hb
  exact keeps_any f s a _ c side now w hb hL
end Go.Proofs.YtiigoeecklelpaaDoor
