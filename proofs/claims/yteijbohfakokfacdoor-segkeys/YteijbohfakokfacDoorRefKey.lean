/- What the reference's round, Near, Turn, Ahead and First return (package portref1), and Near of package seg, for every input. -/
import Derived.Test.YteijbohfakokfacDoorSegFst
import Derived.Test.YteijbohfakokfacDoorRefNum
namespace Go.Proofs.YteijbohfakokfacDoor
open Go.RowKit
set_option linter.unusedVariables false

theorem tmod_neg {n : Int} (h : n < 0) : n.tmod 4294967296 = -((-n) % 4294967296) := by
  have e : n = -(-n) := by omega
  rw [e, Int.neg_tmod, Int.tmod_eq_emod_of_nonneg (by omega)]
  simp
theorem round_any (n : Int) (w : World) :
    Calls Tryd.prog 29 #[.int .i64 n] w fun e w' => e = .returned (.int .i64 (n % 4294967296)) ∧ w' = w := by
  by_cases h : 0 ≤ n
  · have h1 : 0 ≤ n % 4294967296 := by omega
    go_enter Tryd.func29, Tryd.ntmps29
    go_wp2
    go_ret
    exact ⟨rfl, rfl⟩
  · have hn : n < 0 := by omega
    obtain ⟨r, hr⟩ : ∃ r, n.tmod 4294967296 = r := ⟨_, rfl⟩
    have e := tmod_neg hn
    rw [hr] at e
    obtain ⟨z, HZ⟩ : ∃ z, Hid (z = n % 4294967296) := ⟨_, rfl⟩
    rw [← HZ.out]
    have r1 : -4294967296 < r := by omega
    have r2 : r ≤ 0 := by omega
    by_cases h0 : r < 0
    · have E : Hid (r + 4294967296 = z) := by show r + 4294967296 = z; rw [HZ.out]; omega
      clear e
      go_enter Tryd.func29, Tryd.ntmps29
      go_wp2
      go_ret
      exact ⟨ret_int E.out, rfl⟩
    · have E : Hid (r = z) := by show r = z; rw [HZ.out]; omega
      clear e
      go_enter Tryd.func29, Tryd.ntmps29
      go_wp2
      go_ret
      exact ⟨ret_int E.out, rfl⟩
theorem near_eq (a b most : Int) (h0 : 0 ≤ most) (h1 : most ≤ 1073741824) : nearB a b most = (decide ((a % 4294967296 - b % 4294967296) % 4294967296 ≤ most) || decide ((b % 4294967296 - a % 4294967296) % 4294967296 ≤ most)) := by
  unfold nearB
  rw [upB_yes h0 h1, Bool.true_and, ← Bool.decide_or, decide_eq_decide]
  omega
theorem refNear_any (a b most : Int) (w : World) :
    Calls Tryd.prog 15 #[.int .i64 a, .int .i64 b, .int .i64 most] w fun e w' => e = .returned (.bool (nearB a b most)) ∧ w' = w := by
  by_cases h0 : most < 0
  · rw [show nearB a b most = false by unfold nearB; rw [show upB most 1073741824 = false by simp [upB]; omega]; rfl]
    go_enter Tryd.func15, Tryd.ntmps15
    go_wp2
    go_ret
    exact ⟨rfl, rfl⟩
  by_cases h1 : 1073741824 < most
  · rw [show nearB a b most = false by unfold nearB; rw [show upB most 1073741824 = false by simp [upB]; omega]; rfl]
    go_enter Tryd.func15, Tryd.ntmps15
    go_wp2
    go_ret
    exact ⟨rfl, rfl⟩
  · rw [near_eq a b most (by omega) (by omega)]
    have c1 := fun W => round_any a W
    have c2 := fun W => round_any b W
    have x1 : 0 ≤ a % 4294967296 ∧ a % 4294967296 < 4294967296 := by omega
    have y1 : 0 ≤ b % 4294967296 ∧ b % 4294967296 < 4294967296 := by omega
    generalize a % 4294967296 = x at *
    generalize b % 4294967296 = y at *
    have c3 := fun W => round_any (x - y) W
    have c4 := fun W => round_any (y - x) W
    generalize (x - y) % 4294967296 = d at *
    generalize (y - x) % 4294967296 = f at *
    have m0 : True := trivial
    by_cases hd : d ≤ most
    · rw [show (decide (d ≤ most) || decide (f ≤ most)) = true by simp [hd]]
      go_enter Tryd.func15, Tryd.ntmps15
      go_wp2_with (first
        | (go_at_call 29; have m1 : True := m0; clear m0; refine (c1 _).mono ?_; rintro e w' ⟨rfl, rfl⟩)
        | (go_at_call 29; have m2 : True := m1; clear m1; refine (c2 _).mono ?_; rintro e w' ⟨rfl, rfl⟩)
        | (go_at_call 29; have m3 : True := m2; clear m2; refine (c3 _).mono ?_; rintro e w' ⟨rfl, rfl⟩)
        | (go_at_call 29; have m4 : True := m3; clear m3; refine (c4 _).mono ?_; rintro e w' ⟨rfl, rfl⟩))
      go_ret
      exact ⟨rfl, rfl⟩
    · go_enter Tryd.func15, Tryd.ntmps15
      go_wp2_with (first
        | (go_at_call 29; have m1 : True := m0; clear m0; refine (c1 _).mono ?_; rintro e w' ⟨rfl, rfl⟩)
        | (go_at_call 29; have m2 : True := m1; clear m1; refine (c2 _).mono ?_; rintro e w' ⟨rfl, rfl⟩)
        | (go_at_call 29; have m3 : True := m2; clear m2; refine (c3 _).mono ?_; rintro e w' ⟨rfl, rfl⟩)
        | (go_at_call 29; have m4 : True := m3; clear m3; refine (c4 _).mono ?_; rintro e w' ⟨rfl, rfl⟩))
      go_ret
      exact ⟨rfl, rfl⟩
theorem near_any (a b most : Int) (w : World) :
    Calls Tryd.prog 14 #[.int .i64 a, .int .i64 b, .int .i64 most] w fun e w' => e = .returned (.bool (nearB a b most)) ∧ w' = w := by
  rcases hu : upB most 1073741824 with _ | _
  · rw [show nearB a b most = false by unfold nearB; rw [hu]; rfl]
    go_enter Tryd.func14, Tryd.ntmps14
    go_wp2_with (go_at_call 28; refine (sgUp_any _ _ _).mono ?_; rintro e w' ⟨rfl, rfl⟩)
    go_ret
    exact ⟨rfl, rfl⟩
  · have hm := of_upB hu
    obtain ⟨d, hd⟩ : ∃ d, IntKind.i64.wrap (a - b) = d := ⟨_, rfl⟩
    obtain ⟨f, hf⟩ : ∃ f, IntKind.i64.wrap (d + most) = f := ⟨_, rfl⟩
    obtain ⟨z, hz⟩ : ∃ z, IntKind.u32.wrap f = z := ⟨_, rfl⟩
    have h2 : IntKind.u32.wrap (2 * most) = 2 * most := by rw [IntKind.wrap_u32]; omega
    have E : Hid (z = (a - b + most) % 4294967296) := by
      show z = _
      rw [← hz, ← hf, ← hd, IntKind.wrap_u32, IntKind.wrap_i64, IntKind.wrap_i64]; omega
    have ER : nearB a b most = decide (z ≤ 2 * most) := by unfold nearB; rw [hu, E.out, Bool.true_and]
    rw [ER]
    clear E ER
    go_enter Tryd.func14, Tryd.ntmps14
    go_wp2_with (go_at_call 28; refine (sgUp_any _ _ _).mono ?_; rintro e w' ⟨rfl, rfl⟩)
    go_ret
    exact ⟨rfl, rfl⟩
theorem refTurn_any (k : Ky) (w : World) :
    Calls Tryd.prog 12 #[keyV k] w fun e w' => e = .returned (keyV (turnK k)) ∧ Below w.heap.size w w' := by
  unfold keyV turnK
  go_enter Tryd.func12, Tryd.ntmps12
  go_wp2
  exact bodyPost_ret (v := .agg #[.int .i64 k.kind, .int .i64 k.dst, .int .i64 k.too, .int .i64 k.src, .int .i64 k.frm]) (by simp [results, Tryd.results12, go_sem]) rfl ⟨rfl, ((Below.refl _ _).alloc (Nat.le_refl _) _).alloc (by simp) _⟩
theorem refAhead_raw (kind src frm dst too : Int) (w : World) :
    Calls Tryd.prog 27 #[.agg #[.int .i64 kind, .int .i64 dst, .int .i64 too, .int .i64 src, .int .i64 frm], .agg #[.int .i64 kind, .int .i64 src, .int .i64 frm, .int .i64 dst, .int .i64 too]] w fun e w' =>
      e = .returned (.bool (decide (dst < src ∨ (dst = src ∧ too < frm)))) ∧ Below w.heap.size w w' := by
  have b1 : Below w.heap.size w ((w.alloc (.cells #[.int .i64 kind, .int .i64 dst, .int .i64 too, .int .i64 src, .int .i64 frm] 26)).alloc (.cells #[.int .i64 kind, .int .i64 src, .int .i64 frm, .int .i64 dst, .int .i64 too] 26)) := ((Below.refl _ _).alloc (Nat.le_refl _) _).alloc (by simp) _
  have B1 : Hid _ := b1
  clear b1
  obtain ⟨r, HR⟩ : ∃ r, Hid (r = decide (dst < src ∨ (dst = src ∧ too < frm))) := ⟨_, rfl⟩
  rw [← HR.out]
  by_cases h1 : dst = src
  · have e1 : (dst != src) = false := by simp [h1]
    have e2 : (src != dst) = false := by simp [h1]
    by_cases h2 : too = frm
    · have e3 : (too != frm) = false := by simp [h2]
      have e4 : decide (frm < too) = false := by simp [h2]
      have e4' : ¬ frm < too := by omega
      have E : Hid (false = r) := by show false = r; rw [HR.out]; simp; omega
      clear h1 h2
      go_enter Tryd.func27, Tryd.ntmps27
      go_wp2
      go_ret
      exact ⟨ret_bool E.out, B1.out⟩
    · have e3 : (too != frm) = true := by simpa using h2
      have E : Hid (decide (too < frm) = r) := by show decide (too < frm) = r; rw [HR.out, decide_eq_decide]; omega
      clear h1 h2
      go_enter Tryd.func27, Tryd.ntmps27
      go_wp2
      go_ret
      exact ⟨ret_bool E.out, B1.out⟩
  · have e1 : (dst != src) = true := by simpa using h1
    have E : Hid (decide (dst < src) = r) := by show decide (dst < src) = r; rw [HR.out, decide_eq_decide]; omega
    clear h1
    go_enter Tryd.func27, Tryd.ntmps27
    go_wp2
    go_ret
    exact ⟨ret_bool E.out, B1.out⟩
set_option maxRecDepth 100000 in
set_option maxHeartbeats 4000000 in
theorem refFirst_any (k : Ky) (w : World) :
    Calls Tryd.prog 13 #[keyV k] w fun e w' => e = .returned (keyV (firstK k)) ∧ Below w.heap.size w w' := by
  have hK := KyAt.new w k
  have hS : KdS w k ((w.alloc (.cells #[.int .i64 k.kind, .int .i64 k.src, .int .i64 k.frm, .int .i64 k.dst, .int .i64 k.too] 26)).alloc (.cells #[.int .i64 0, .int .i64 0, .int .i64 0, .int .i64 0, .int .i64 0] 26)) := by
    refine ⟨hK.alloc _, ?_, ((Below.refl _ _).alloc (Nat.le_refl _) _).alloc (by simp) _⟩
    have := KyAt.zero (w.alloc (.cells #[.int .i64 k.kind, .int .i64 k.src, .int .i64 k.frm, .int .i64 k.dst, .int .i64 k.too] 26))
    rw [show (w.alloc (.cells #[.int .i64 k.kind, .int .i64 k.src, .int .i64 k.frm, .int .i64 k.dst, .int .i64 k.too] 26)).heap.size = w.heap.size + 1 by simp] at this
    exact this
  obtain ⟨f, HF⟩ : ∃ f, Hid (f = firstK k) := ⟨_, rfl⟩
  rw [← HF.out]
  have hA := fun W => refAhead_raw k.kind k.src k.frm k.dst k.too W
  obtain ⟨r, HR⟩ : ∃ r, Hid (r = decide (k.dst < k.src ∨ (k.dst = k.src ∧ k.too < k.frm))) := ⟨_, rfl⟩
  rw [← HR.out] at hA
  have hT : ∀ W, Calls Tryd.prog 12 #[.agg #[.int .i64 k.kind, .int .i64 k.src, .int .i64 k.frm, .int .i64 k.dst, .int .i64 k.too]] W fun e w' => e = .returned (.agg #[.int .i64 k.kind, .int .i64 k.dst, .int .i64 k.too, .int .i64 k.src, .int .i64 k.frm]) ∧ Below W.heap.size W w' := fun W => refTurn_any k W
  unfold keyV at *
  clear hK
  go_enter Tryd.func13, Tryd.ntmps13
  go_upto_region 1 with fail
  obtain ⟨W1, hW1⟩ : ∃ W1, (w.alloc (.cells #[.int .i64 k.kind, .int .i64 k.src, .int .i64 k.frm, .int .i64 k.dst, .int .i64 k.too] 26)).alloc (.cells #[.int .i64 0, .int .i64 0, .int .i64 0, .int .i64 0, .int .i64 0] 26) = W1 := ⟨_, rfl⟩
  rw [hW1] at hS ⊢
  clear hW1
  obtain ⟨c0, c1, c2, c3, c4⟩ := hS.1.cells
  go_upto_region 2 with (go_at_call 12; refine (hT _).mono ?_; rintro e w2 ⟨rfl, b2⟩)
  have hS2 : KdS w k w2 := ⟨hS.1.below hS.1.lt b2, hS.2.1.below hS.2.1.lt b2, hS.2.2.trans (b2.mono hS.2.2.size)⟩
  have hS3 := hS2.alloc (.cells #[.int .i64 k.kind, .int .i64 k.dst, .int .i64 k.too, .int .i64 k.src, .int .i64 k.frm] 26)
  have t3 := KyAt.new w2 { kind := k.kind, src := k.dst, frm := k.too, dst := k.src, too := k.frm }
  obtain ⟨W3, hW3⟩ : ∃ W3, w2.alloc (.cells #[.int .i64 k.kind, .int .i64 k.dst, .int .i64 k.too, .int .i64 k.src, .int .i64 k.frm] 26) = W3 := ⟨_, rfl⟩
  obtain ⟨T, hTt⟩ : ∃ T, T = w2.heap.size := ⟨_, rfl⟩
  simp only at t3
  rw [hW3] at hS3 t3 ⊢
  rw [← hTt] at t3 ⊢
  clear hW3 hTt hS hS2 b2 hT c0 c1 c2 c3 c4
  obtain ⟨c0, c1, c2, c3, c4⟩ := hS3.1.cells
  obtain ⟨t0, t1, t2, t3', t4⟩ := t3.cells
  simp only at t0 t1 t2 t3' t4
  rcases hr : r with _ | _
  · have EF : Hid (f = k) := by
      show f = k
      rw [HF.out]
      refine if_neg (fun h => ?_)
      have := HR.out
      rw [hr, decide_eq_true h] at this
      cases this
    subst hr
    go_upto_region 4 with (go_at_call 27; refine (hA _).mono ?_; rintro e w4 ⟨rfl, b4⟩)
    have hS4 : KdS w k w4 := ⟨hS3.1.below hS3.1.lt b4, hS3.2.1.below hS3.2.1.lt b4, hS3.2.2.trans (b4.mono hS3.2.2.size)⟩
    clear c0 c1 c2 c3 c4 t0 t1 t2 t3' t4 hA b4 hS3 t3
    obtain ⟨c0, c1, c2, c3, c4⟩ := hS4.1.cells
    have hz3 := hS4.2.1
    obtain ⟨q0, q1, q2, q3, q4⟩ := hz3.cells
    have f0 := hz3.free 0
    have f1 := hz3.free 1
    have f2 := hz3.free 2
    have f3 := hz3.free 3
    have f4 := hz3.free 4
    go_wp2_with fail
    obtain ⟨w5, hw5, hp5, ho5⟩ := hz3.store k
    rw [hw5]
    have b5 : Below w.heap.size w w5 := ho5.below (by omega) hS4.2.2
    clear hw5 q0 q1 q2 q3 q4 f0 f1 f2 f3 f4 c0 c1 c2 c3 c4
    obtain ⟨c0, c1, c2, c3, c4⟩ := hp5.cells
    refine bodyPost_ret (v := .agg #[.int .i64 k.kind, .int .i64 k.src, .int .i64 k.frm, .int .i64 k.dst, .int .i64 k.too]) (by simp [results, Tryd.results13, go_sem, c0, c1, c2, c3, c4]) rfl ⟨?_, b5⟩
    rw [EF.out]
  · have EF : Hid (f = turnK k) := by
      show f = turnK k
      rw [HF.out]
      refine if_pos ?_
      have := HR.out
      rw [hr] at this
      exact of_decide_eq_true this.symm
    subst hr
    go_upto_region 3 with (go_at_call 27; refine (hA _).mono ?_; rintro e w4 ⟨rfl, b4⟩)
    have hS4 : KdS w k w4 := ⟨hS3.1.below hS3.1.lt b4, hS3.2.1.below hS3.2.1.lt b4, hS3.2.2.trans (b4.mono hS3.2.2.size)⟩
    have t5 := t3.below t3.lt b4
    clear c0 c1 c2 c3 c4 t0 t1 t2 t3' t4 hA b4 hS3 t3
    obtain ⟨t0, t1, t2, t3', t4⟩ := t5.cells
    simp only at t0 t1 t2 t3' t4
    have hz3 := hS4.2.1
    obtain ⟨q0, q1, q2, q3, q4⟩ := hz3.cells
    have f0 := hz3.free 0
    have f1 := hz3.free 1
    have f2 := hz3.free 2
    have f3 := hz3.free 3
    have f4 := hz3.free 4
    go_wp2_with fail
    obtain ⟨w5, hw5, hp5, ho5⟩ := hz3.store { kind := k.kind, src := k.dst, frm := k.too, dst := k.src, too := k.frm }
    simp only at hw5
    rw [hw5]
    have b5 : Below w.heap.size w w5 := ho5.below (by omega) hS4.2.2
    clear hw5 q0 q1 q2 q3 q4 f0 f1 f2 f3 f4 t0 t1 t2 t3' t4
    obtain ⟨c0, c1, c2, c3, c4⟩ := hp5.cells
    simp only at c0 c1 c2 c3 c4
    refine bodyPost_ret (v := .agg #[.int .i64 k.kind, .int .i64 k.dst, .int .i64 k.too, .int .i64 k.src, .int .i64 k.frm]) (by simp [results, Tryd.results13, go_sem, c0, c1, c2, c3, c4]) rfl ⟨?_, b5⟩
    rw [EF.out]
    rfl
end Go.Proofs.YteijbohfakokfacDoor
