/- What Add of the reference's pool answers (package portref2) of a packet that is no piece. -/
import Derived.Test.YtgodjaffmojhlaaDoorRefPl2
namespace Go.Proofs.YtgodjaffmojhlaaDoor
open Go.RowKit
set_option linter.unusedVariables false

set_option maxRecDepth 100000 in
set_option maxHeartbeats 8000000 in
theorem radd_whole (w0 : World) (F : Nat → Prop) (pb : Nat) (s : Po) (p : Pk) (bv : Value) (now : Int) (w : World) (hP : RPool w0 w F pb s) (hF : ∀ k, F k → k < w.heap.size) (hb0 : Bytes w0 bv p.body) (he : pkErr p = 0) (ht : tickE s now = 0) (hw : p.pos = 0 ∧ p.more = false) :
    Calls Tryd.prog 8 #[ptrV pb, pkV p bv, .int .i64 now] w (RAdds w0 F pb s p now w) := by
  have HEA := hidR (addA_whole he ht hw)
  obtain ⟨pk, pt, pi, ps, pd, po, pm, body⟩ := p
  obtain ⟨hw1, hw2⟩ := hw
  simp only at hw1 hw2
  subst hw1 hw2
  obtain ⟨mb0, gs0, hin0⟩ := hP
  have HNEW : Hid ((∀ k, F k → w0.heap.size ≤ k) ∧ w0.heap.size ≤ w.heap.size) := ⟨hin0.new, hin0.bel.size⟩
  have hb := hb0.below (Nat.le_refl _) hin0.bel
  have HB0 := hidR hb0
  have hbx := radd_boxes hin0 hF ⟨pk, pt, pi, ps, pd, 0, false, body⟩ bv hb
  obtain ⟨a, c, hbv⟩ := len_body hb
  simp only at hbv
  subst hbv
  obtain ⟨L, hLe⟩ : ∃ L, body.length = L := ⟨_, rfl⟩
  simp only at hbx HB0
  rw [hLe] at hbx HB0 ⊢
  obtain ⟨B2, hp2, hz2, hin2, hb2, hs2⟩ := hbx
  have hnf0 : ¬ F w.heap.size := fun hf => by have := hF _ hf; omega
  have hnf1 : ¬ F (w.heap.size + 1) := fun hf => by have := hF _ hf; omega
  unfold ptrV pkV
  simp only
  clear hb hb0 hLe hin0
  go_enter Tryd.func8, Tryd.ntmps8
  go_upto_region 1 with fail
  obtain ⟨W2, hW2⟩ : ∃ W2, ((w.alloc (.cells #[.int .i64 pk, .int .i64 pt, .int .i64 pi, .int .i64 ps, .int .i64 pd, .int .i64 0, .bool false, .slice a L c] 40)).alloc (.cells #[.int .i64 0, .int .i64 0, .int .i64 0, .int .i64 0, .int .i64 0, .int .i64 0, .bool false, .slice none 0 0] 40)) = W2 := ⟨_, rfl⟩
  rw [hW2] at B2 hp2 hz2 hin2 hb2 hs2 ⊢
  have hck := refPacket_any ⟨pk, pt, pi, ps, pd, 0, false, body⟩ (.slice a L c) W2 hb2
  rw [he] at hck
  unfold pkV at hck
  simp only at hck
  obtain ⟨x0, x1, x2, x3, x4, x5, x6, x7⟩ := hp2.cells
  simp only at x0 x1 x2 x3 x4 x5 x6 x7
  have HIN : Hid (RpIn w0 W2 F pb s mb0 gs0) := hin2
  clear hW2 hin2 he
  go_upto_region 4 with (go_at_call 17; go_must (refine hck.mono ?_; rintro e w3 ⟨rfl, bw3⟩))
  have hp3 := hp2.below hp2.lt bw3
  have hz3 := hz2.below hz2.lt bw3
  have bel3 := B2.trans (bw3.mono B2.size)
  have hs3 : w.heap.size + 2 ≤ w3.heap.size := by have := bw3.size; omega
  have hin3 := HIN.out.below (fun k hk => by have := hF k hk; omega) bw3
  have htk := rtick_any w0 F pb s now w3 ⟨mb0, gs0, hin3⟩ (fun k hk => by have := hF k hk; omega)
  unfold RTicks at htk
  rw [ht] at htk
  unfold ptrV at htk
  clear hck hp2 hz2 hb2 x0 x1 x2 x3 x4 x5 x6 x7 HIN bw3 hin3 B2 hs2 ht
  generalize hN : ((s.l.length : Int) - ((tickS s now).l.length : Int)) = N at htk
  clear hN
  go_upto_region 7 with (go_at_call 6; go_must (refine htk.mono ?_; rintro e w4 ⟨rfl, hP4, tr4⟩))
  have hp4 := hp3.turn tr4 hnf0
  have hZ4 := hz3.turn tr4 hnf1
  have HFI : Hid (∀ w9, Only (w.heap.size + 1) w4 w9 → RAdds w0 F pb s ⟨pk, pt, pi, ps, pd, 0, false, body⟩ now w (.returned (.tuple #[.agg #[.int .i64 pk, .int .i64 pt, .int .i64 pi, .int .i64 ps, .int .i64 pd, .int .i64 0, .bool false, .slice a L c], .bool true, .int .i64 0])) w9) := by
    intro w9 o9
    have hbl4 : Below w0.heap.size w0 w4 := by obtain ⟨_, _, h4⟩ := hP4; exact h4.bel
    have hsz4 := tr4.size
    have hbl9 := o9.below (by have := HNEW.out.2; omega) hbl4
    refine ⟨.slice a L c, by rw [HEA.out]; rfl, by rw [HEA.out]; exact HB0.out.below (Nat.le_refl _) hbl9, by rw [HEA.out]; exact RPool.moved hP4 (fun k hk => by rcases hk with hk | hk; exact .inl hk; exact .inr ⟨by omega, by have := o9.size; omega⟩) (fun k hk => o9.block k (by rcases hk with hk | hk; have := hF k hk; omega; omega)) HNEW.out.1 HNEW.out.2 hbl9, ?_⟩
    exact ⟨((Turn.of_below bel3 F).trans tr4).andThen (Turn.of_only (F := fun k => k = w.heap.size + 1) o9 rfl) (fun i hi => .inr (by omega)), Lies.old HB0.out⟩
  obtain ⟨y0, y1, y2, y3, y4, y5, y6, y7⟩ := hp4.cells
  simp only at y0 y1 y2 y3 y4 y5 y6 y7
  have f0 := hZ4.free 0
  have f1 := hZ4.free 1
  have f2 := hZ4.free 2
  have f3 := hZ4.free 3
  have f4 := hZ4.free 4
  have f5 := hZ4.free 5
  have f6 := hZ4.free 6
  have f7 := hZ4.free 7
  obtain ⟨z0, z1, z2, z3, z4, z5, z6, z7⟩ := hZ4.cells
  clear htk hp3 hz3 hP4 tr4
  go_wp2_with fail
  obtain ⟨w9, hw9, hp9, o9⟩ := hZ4.store pk pt pi ps pd 0 false (.slice a L c)
  rw [hw9]
  obtain ⟨r0, r1, r2, r3, r4, r5, r6, r7⟩ := hp9.cells
  simp only at r0 r1 r2 r3 r4 r5 r6 r7
  exact bodyPost_ret (v := .tuple #[.agg #[.int .i64 pk, .int .i64 pt, .int .i64 pi, .int .i64 ps, .int .i64 pd, .int .i64 0, .bool false, .slice a L c], .bool true, .int .i64 0]) (by simp [results, Tryd.results8, go_sem, r0, r1, r2, r3, r4, r5, r6, r7]) rfl (HFI.out w9 o9)
end Go.Proofs.YtgodjaffmojhlaaDoor
