/- What the reference's Key, Fits and Trace return (package portref1). -/
import Derived.Test.YtfhchbpgpaljhaaDoorJudgeFit
import Derived.Test.YtfhchbpgpaljhaaDoorRuleEq
import Derived.Test.YtfhchbpgpaljhaaDoorRefSpn
import Derived.Test.YtfhchbpgpaljhaaDoorRefNum
import Derived.Deep.RegionHeld3
import Derived.Deep.DeepCutAuto
namespace Go.Proofs.YtfhchbpgpaljhaaDoor
open Go.RowKit
set_option linter.unusedVariables false
set_option maxRecDepth 10000

theorem wordB_up (n : Int) : wordB n = upQ n 65535 := rfl
theorem isAddr_up (n : Int) : isAddr n = upQ n 4294967295 := by unfold isAddr upQ; rw [Bool.decide_and]
set_option maxHeartbeats 16000000 in
theorem refKey_any (k : Ky) (way : Int) (w : World) : Calls Tryd.prog 5 #[keyV k, .int .i64 way] w fun e w' => e = .returned (.int .i64 (keyE k way)) ∧ Below w.heap.size w w' := by
  have b1 : Below w.heap.size w (w.alloc (.cells #[.int .i64 k.kind, .int .i64 k.src, .int .i64 k.frm, .int .i64 k.dst, .int .i64 k.too] 24)) := (Below.refl _ _).alloc (Nat.le_refl _) _
  have hky := KyAt.new w k
  obtain ⟨k0, k1, k2, k3, k4⟩ := hky.cells
  have u1 := refAddr_any k.src
  have u2 := refAddr_any k.dst
  have u3 := refWordS_any k.frm
  have u4 := refWordS_any k.too
  have hke : keyE k way = if (decide (0 ≤ k.kind) && decide (k.kind ≤ 15) && isAddr k.src && isAddr k.dst && wordB k.frm && wordB k.too && (way == 1 || way == 2)) = true then 0 else 1 := by
    unfold keyE keyB wordB; simp only [Bool.and_assoc]
  obtain ⟨z, hz⟩ : ∃ z, keyE k way = z := ⟨_, rfl⟩
  rw [hz]
  rw [hz] at hke
  clear hz hky
  unfold keyV
  obtain ⟨a, b, c, d, e⟩ := k
  simp only at u1 u2 u3 u4 b1 k0 k1 k2 k3 k4 hke ⊢
  generalize isAddr b = t1 at u1 hke
  generalize isAddr d = t2 at u2 hke
  generalize wordB c = t3 at u3 hke
  generalize wordB e = t4 at u4 hke
  have HZ := hidE hke
  clear hke
  obtain ⟨W1, hW1⟩ : ∃ W1, w.alloc (.cells #[.int .i64 a, .int .i64 b, .int .i64 c, .int .i64 d, .int .i64 e] 24) = W1 := ⟨_, rfl⟩
  have HW1 := hidE hW1
  rw [hW1] at b1 k0 k1 k2 k3 k4
  clear hW1
  go_enter Tryd.func5, Tryd.ntmps5
  go_upto_region 1 with fail
  rw [HW1.out]
  clear HW1
  go_upto_region 2 with (go_at_call 14; go_must (refine (u1 _).mono ?_; rintro e W1 ⟨rfl, rfl⟩))
  go_upto_region 3 with (go_at_call 14; go_must (refine (u2 _).mono ?_; rintro e W1 ⟨rfl, rfl⟩))
  go_upto_region 4 with (go_at_call 15; go_must (refine (u3 _).mono ?_; rintro e W1 ⟨rfl, rfl⟩))
  go_upto_region 5 with (go_at_call 15; go_must (refine (u4 _).mono ?_; rintro e W1 ⟨rfl, rfl⟩))
  clear u1 u2 u3 u4
  by_cases h0 : 0 ≤ a
  case neg =>
    have i0 : a < 0 := by omega
    obtain rfl : z = 1 := by have := HZ.out; rw [decide_eq_false h0] at this; simpa using this
    clear h0 HZ
    go_wp2_with fail; go_ret; exact ⟨rfl, b1⟩
  have i0 : ¬ a < 0 := by omega
  by_cases h1 : a ≤ 15
  case neg =>
    have i1 : a > 15 := by omega
    obtain rfl : z = 1 := by have := HZ.out; rw [decide_eq_false h1] at this; simpa using this
    clear h0 h1 HZ
    go_wp2_with fail; go_ret; exact ⟨rfl, b1⟩
  have i1 : ¬ a > 15 := by omega
  have HZ2 := hidE (show z = if (t1 && t2 && t3 && t4 && (way == 1 || way == 2)) = true then 0 else 1 by have := HZ.out; rw [decide_eq_true h0, decide_eq_true h1] at this; simpa only [Bool.true_and] using this)
  clear h0 h1 HZ
  cases t1 with
  | false =>
    obtain rfl : z = 1 := by have := HZ2.out; simpa using this
    go_wp2_with fail; go_ret; exact ⟨rfl, b1⟩
  | true =>
  cases t2 with
  | false =>
    obtain rfl : z = 1 := by have := HZ2.out; simpa using this
    go_wp2_with fail; go_ret; exact ⟨rfl, b1⟩
  | true =>
  cases t3 with
  | false =>
    obtain rfl : z = 1 := by have := HZ2.out; simpa using this
    go_wp2_with fail; go_ret; exact ⟨rfl, b1⟩
  | true =>
  cases t4 with
  | false =>
    obtain rfl : z = 1 := by have := HZ2.out; simpa using this
    go_wp2_with fail; go_ret; exact ⟨rfl, b1⟩
  | true =>
  rcases h3 : (way == 1) with _ | _
  · have j1 : (way != 1) = true := by rw [bne, h3]; rfl
    rcases h4 : (way == 2) with _ | _
    · have j2 : (way != 2) = true := by rw [bne, h4]; rfl
      obtain rfl : z = 1 := by have := HZ2.out; rw [h3, h4] at this; simpa using this
      clear h3 h4 HZ2
      go_wp2_with fail; go_ret; exact ⟨rfl, b1⟩
    · have j2 : (way != 2) = false := by rw [bne, h4]; rfl
      obtain rfl : z = 0 := by have := HZ2.out; rw [h3, h4] at this; simpa using this
      clear h3 h4 HZ2
      go_wp2_with fail; go_ret; exact ⟨rfl, b1⟩
  · have j1 : (way != 1) = false := by rw [bne, h3]; rfl
    obtain rfl : z = 0 := by have := HZ2.out; rw [h3] at this; simpa using this
    clear h3 HZ2
    go_wp2_with fail; go_ret; exact ⟨rfl, b1⟩
-- FITS
set_option maxHeartbeats 64000000 in
theorem refFits_any (r : Rl) (fv tv : Value) (k : Ky) (way : Int) (w : World) (hf : Spns w fv r.fr) (ht : Spns w tv r.tl) (hlf : r.fr.length ≤ 140737488355328) (hlt : r.tl.length ≤ 140737488355328) :
    Calls Tryd.prog 12 #[rlV r fv tv, keyV k, .int .i64 way] w fun e w' => e = .returned (.bool (fitsB r k way)) ∧ Below w.heap.size w w' := by
  have F0 := FitW.new w r k fv tv hf ht
  have u2 := refHas_any r.sa r.sl k.src
  have u3 := refHas_any r.da r.dl k.dst
  obtain ⟨af, cf, hfe⟩ := hf.len
  obtain ⟨at', ct, hte⟩ := ht.len
  have u4 := fun (W : World) (h : FitW w W r k fv tv) => refSpans_any fv r.fr W h.pf hlf
  have u5 := fun (W : World) (h : FitW w W r k fv tv) => refSpans_any tv r.tl W h.pt hlt
  have u6 := fun (W : World) (h : FitW w W r k fv tv) => refIn_any fv r.fr k.frm W h.pf hlf
  have u7 := fun (W : World) (h : FitW w W r k fv tv) => refIn_any tv r.tl k.too W h.pt hlt
  have hfb : fitsB r k way = ((r.way == 0 || r.way == way) && ((r.kind == 0 || r.kind == k.kind) && (hasB r.sa r.sl k.src && (hasB r.da r.dl k.dst && ((((r.fr.length : Int) == 0) || ((spE r.fr == 0) && inB r.fr k.frm)) && (((r.tl.length : Int) == 0) || ((spE r.tl == 0) && inB r.tl k.too))))))) := by
    have hd : ∀ n : Nat, decide (n = 0) = ((n : Int) == 0) := fun n => by
      by_cases h : n = 0
      · subst h; rfl
      · rw [decide_eq_false h]; symm; rw [beq_eq_false_iff_ne]; omega
    have hz : ∀ z : Int, decide (z = 0) = (z == 0) := fun z => by by_cases h : z = 0 <;> simp [h]
    unfold fitsB anyB portB
    rw [hd, hd, hz, hz]
  obtain ⟨z, hz⟩ : ∃ z, fitsB r k way = z := ⟨_, rfl⟩
  rw [hz]
  rw [hz] at hfb
  clear hz
  unfold keyV rlV
  generalize hasB r.sa r.sl k.src = t2 at u2 hfb
  generalize hasB r.da r.dl k.dst = t3 at u3 hfb
  generalize inB r.fr k.frm = t4 at u6 hfb
  generalize inB r.tl k.too = t5 at u7 hfb
  generalize spE r.fr = z1 at u4 hfb
  generalize spE r.tl = z2 at u5 hfb
  generalize r.fr.length = nf at hfe hfb
  generalize r.tl.length = nt at hte hfb
  subst hfe hte
  obtain ⟨W0, hW0⟩ : ∃ W0, (w.alloc (.cells #[.bool r.pass, .bool r.quick, .bool r.keep, .int .i64 r.way, .int .i64 r.kind, .int .i64 r.sa, .int .i64 r.sl, .int .i64 r.da, .int .i64 r.dl, .slice af nf cf, .slice at' nt ct] 29)).alloc (.cells #[.int .i64 k.kind, .int .i64 k.src, .int .i64 k.frm, .int .i64 k.dst, .int .i64 k.too] 24) = W0 := ⟨_, rfl⟩
  rw [hW0] at F0
  have HW0 := hidE hW0
  clear hW0 hf ht hlf hlt
  go_enter Tryd.func12, Tryd.ntmps12
  go_upto_region 1 with fail
  rw [HW0.out]
  clear HW0
  have F := F0
  clear F0
  obtain ⟨⟨c3, c4, c5, c6, c7, c8, c9, c10⟩, k0, k1, k2, k3, k4⟩ := id F.cells
  go_upto_region 2 with (go_at_call 22; go_must (refine (u2 _).mono ?_; rintro e w1 ⟨rfl, b1⟩; have F := F.step b1; clear c3 c4 c5 c6 c7 c8 c9 c10 k0 k1 k2 k3 k4; obtain ⟨⟨c3, c4, c5, c6, c7, c8, c9, c10⟩, k0, k1, k2, k3, k4⟩ := id F.cells))
  go_upto_region 3 with (go_at_call 22; go_must (refine (u3 _).mono ?_; rintro e w2 ⟨rfl, b2⟩; have F := F.step b2; clear c3 c4 c5 c6 c7 c8 c9 c10 k0 k1 k2 k3 k4; obtain ⟨⟨c3, c4, c5, c6, c7, c8, c9, c10⟩, k0, k1, k2, k3, k4⟩ := id F.cells))
  go_upto_region 4 with (go_at_call 23; go_must (refine (u4 _ F).mono ?_; rintro e w3 ⟨rfl, b3⟩; have F := F.step b3; clear c3 c4 c5 c6 c7 c8 c9 c10 k0 k1 k2 k3 k4; obtain ⟨⟨c3, c4, c5, c6, c7, c8, c9, c10⟩, k0, k1, k2, k3, k4⟩ := id F.cells))
  go_upto_region 5 with (go_at_call 23; go_must (refine (u5 _ F).mono ?_; rintro e w4 ⟨rfl, b4⟩; have F := F.step b4; clear c3 c4 c5 c6 c7 c8 c9 c10 k0 k1 k2 k3 k4; obtain ⟨⟨c3, c4, c5, c6, c7, c8, c9, c10⟩, k0, k1, k2, k3, k4⟩ := id F.cells))
  go_upto_region 6 with (go_at_call 24; go_must (refine (u6 _ F).mono ?_; rintro e w5 ⟨rfl, b5⟩; have F := F.step b5; clear c3 c4 c5 c6 c7 c8 c9 c10 k0 k1 k2 k3 k4; obtain ⟨⟨c3, c4, c5, c6, c7, c8, c9, c10⟩, k0, k1, k2, k3, k4⟩ := id F.cells))
  go_upto_region 7 with (go_at_call 24; go_must (refine (u7 _ F).mono ?_; rintro e w6 ⟨rfl, b6⟩; have F := F.step b6; clear c3 c4 c5 c6 c7 c8 c9 c10 k0 k1 k2 k3 k4; obtain ⟨⟨c3, c4, c5, c6, c7, c8, c9, c10⟩, k0, k1, k2, k3, k4⟩ := id F.cells))
  clear u2 u3 u4 u5 u6 u7 b1 b2 b3 b4 b5 b6 c5 c6 c7 c8 k1 k2 k3 k4
  generalize r.way = wy at c3 hfb ⊢
  generalize r.kind = kd at c4 hfb ⊢
  generalize k.kind = kk at k0 hfb ⊢
  have HZ := hidE hfb
  clear hfb
  rcases hw0 : (wy == 0) with _ | _
  · skip
    rcases hw1 : (wy == way) with _ | _
    · skip
      obtain rfl : z = false := by rw [HZ.out]; simp [hw0, hw1]
      clear HZ
      go_wp2_with fail; go_ret; exact ⟨rfl, F.bel⟩
    · skip
      rcases hk0 : (kd == 0) with _ | _
      · skip
        rcases hk1 : (kd == kk) with _ | _
        · skip
          obtain rfl : z = false := by rw [HZ.out]; simp [hw0, hw1, hk0, hk1]
          clear HZ
          go_wp2_with fail; go_ret; exact ⟨rfl, F.bel⟩
        · skip
          cases t2 with
          | false =>
            obtain rfl : z = false := by rw [HZ.out]; simp [hw0, hw1, hk0, hk1]
            clear HZ
            go_wp2_with fail; go_ret; exact ⟨rfl, F.bel⟩
          | true =>
            cases t3 with
            | false =>
              obtain rfl : z = false := by rw [HZ.out]; simp [hw0, hw1, hk0, hk1]
              clear HZ
              go_wp2_with fail; go_ret; exact ⟨rfl, F.bel⟩
            | true =>
              rcases hnf : ((nf : Int) == 0) with _ | _
              · skip
                cases t4 with
                | false =>
                  obtain rfl : z = false := by rw [HZ.out]; simp [hw0, hw1, hk0, hk1, hnf]
                  clear HZ
                  go_wp2_with fail; go_ret; exact ⟨rfl, F.bel⟩
                | true =>
                  rcases hz1 : (z1 == 0) with _ | _
                  · skip
                    obtain rfl : z = false := by rw [HZ.out]; simp [hw0, hw1, hk0, hk1, hnf, hz1]
                    clear HZ
                    go_wp2_with fail; go_ret; exact ⟨rfl, F.bel⟩
                  · skip
                    rcases hnt : ((nt : Int) == 0) with _ | _
                    · skip
                      cases t5 with
                      | false =>
                        obtain rfl : z = false := by rw [HZ.out]; simp [hw0, hw1, hk0, hk1, hnf, hz1, hnt]
                        clear HZ
                        go_wp2_with fail; go_ret; exact ⟨rfl, F.bel⟩
                      | true =>
                        obtain rfl : z = (z2 == 0) := by rw [HZ.out]; simp [hw0, hw1, hk0, hk1, hnf, hz1, hnt]
                        clear HZ
                        go_wp2_with fail; go_ret; exact ⟨rfl, F.bel⟩
                    · skip
                      obtain rfl : z = true := by rw [HZ.out]; simp [hw0, hw1, hk0, hk1, hnf, hz1, hnt]
                      clear HZ
                      go_wp2_with fail; go_ret; exact ⟨rfl, F.bel⟩
              · skip
                rcases hnt : ((nt : Int) == 0) with _ | _
                · skip
                  cases t5 with
                  | false =>
                    obtain rfl : z = false := by rw [HZ.out]; simp [hw0, hw1, hk0, hk1, hnf, hnt]
                    clear HZ
                    go_wp2_with fail; go_ret; exact ⟨rfl, F.bel⟩
                  | true =>
                    obtain rfl : z = (z2 == 0) := by rw [HZ.out]; simp [hw0, hw1, hk0, hk1, hnf, hnt]
                    clear HZ
                    go_wp2_with fail; go_ret; exact ⟨rfl, F.bel⟩
                · skip
                  obtain rfl : z = true := by rw [HZ.out]; simp [hw0, hw1, hk0, hk1, hnf, hnt]
                  clear HZ
                  go_wp2_with fail; go_ret; exact ⟨rfl, F.bel⟩
      · skip
        cases t2 with
        | false =>
          obtain rfl : z = false := by rw [HZ.out]; simp [hw0, hw1, hk0]
          clear HZ
          go_wp2_with fail; go_ret; exact ⟨rfl, F.bel⟩
        | true =>
          cases t3 with
          | false =>
            obtain rfl : z = false := by rw [HZ.out]; simp [hw0, hw1, hk0]
            clear HZ
            go_wp2_with fail; go_ret; exact ⟨rfl, F.bel⟩
          | true =>
            rcases hnf : ((nf : Int) == 0) with _ | _
            · skip
              cases t4 with
              | false =>
                obtain rfl : z = false := by rw [HZ.out]; simp [hw0, hw1, hk0, hnf]
                clear HZ
                go_wp2_with fail; go_ret; exact ⟨rfl, F.bel⟩
              | true =>
                rcases hz1 : (z1 == 0) with _ | _
                · skip
                  obtain rfl : z = false := by rw [HZ.out]; simp [hw0, hw1, hk0, hnf, hz1]
                  clear HZ
                  go_wp2_with fail; go_ret; exact ⟨rfl, F.bel⟩
                · skip
                  rcases hnt : ((nt : Int) == 0) with _ | _
                  · skip
                    cases t5 with
                    | false =>
                      obtain rfl : z = false := by rw [HZ.out]; simp [hw0, hw1, hk0, hnf, hz1, hnt]
                      clear HZ
                      go_wp2_with fail; go_ret; exact ⟨rfl, F.bel⟩
                    | true =>
                      obtain rfl : z = (z2 == 0) := by rw [HZ.out]; simp [hw0, hw1, hk0, hnf, hz1, hnt]
                      clear HZ
                      go_wp2_with fail; go_ret; exact ⟨rfl, F.bel⟩
                  · skip
                    obtain rfl : z = true := by rw [HZ.out]; simp [hw0, hw1, hk0, hnf, hz1, hnt]
                    clear HZ
                    go_wp2_with fail; go_ret; exact ⟨rfl, F.bel⟩
            · skip
              rcases hnt : ((nt : Int) == 0) with _ | _
              · skip
                cases t5 with
                | false =>
                  obtain rfl : z = false := by rw [HZ.out]; simp [hw0, hw1, hk0, hnf, hnt]
                  clear HZ
                  go_wp2_with fail; go_ret; exact ⟨rfl, F.bel⟩
                | true =>
                  obtain rfl : z = (z2 == 0) := by rw [HZ.out]; simp [hw0, hw1, hk0, hnf, hnt]
                  clear HZ
                  go_wp2_with fail; go_ret; exact ⟨rfl, F.bel⟩
              · skip
                obtain rfl : z = true := by rw [HZ.out]; simp [hw0, hw1, hk0, hnf, hnt]
                clear HZ
                go_wp2_with fail; go_ret; exact ⟨rfl, F.bel⟩
  · skip
    rcases hk0 : (kd == 0) with _ | _
    · skip
      rcases hk1 : (kd == kk) with _ | _
      · skip
        obtain rfl : z = false := by rw [HZ.out]; simp [hw0, hk0, hk1]
        clear HZ
        go_wp2_with fail; go_ret; exact ⟨rfl, F.bel⟩
      · skip
        cases t2 with
        | false =>
          obtain rfl : z = false := by rw [HZ.out]; simp [hw0, hk0, hk1]
          clear HZ
          go_wp2_with fail; go_ret; exact ⟨rfl, F.bel⟩
        | true =>
          cases t3 with
          | false =>
            obtain rfl : z = false := by rw [HZ.out]; simp [hw0, hk0, hk1]
            clear HZ
            go_wp2_with fail; go_ret; exact ⟨rfl, F.bel⟩
          | true =>
            rcases hnf : ((nf : Int) == 0) with _ | _
            · skip
              cases t4 with
              | false =>
                obtain rfl : z = false := by rw [HZ.out]; simp [hw0, hk0, hk1, hnf]
                clear HZ
                go_wp2_with fail; go_ret; exact ⟨rfl, F.bel⟩
              | true =>
                rcases hz1 : (z1 == 0) with _ | _
                · skip
                  obtain rfl : z = false := by rw [HZ.out]; simp [hw0, hk0, hk1, hnf, hz1]
                  clear HZ
                  go_wp2_with fail; go_ret; exact ⟨rfl, F.bel⟩
                · skip
                  rcases hnt : ((nt : Int) == 0) with _ | _
                  · skip
                    cases t5 with
                    | false =>
                      obtain rfl : z = false := by rw [HZ.out]; simp [hw0, hk0, hk1, hnf, hz1, hnt]
                      clear HZ
                      go_wp2_with fail; go_ret; exact ⟨rfl, F.bel⟩
                    | true =>
                      obtain rfl : z = (z2 == 0) := by rw [HZ.out]; simp [hw0, hk0, hk1, hnf, hz1, hnt]
                      clear HZ
                      go_wp2_with fail; go_ret; exact ⟨rfl, F.bel⟩
                  · skip
                    obtain rfl : z = true := by rw [HZ.out]; simp [hw0, hk0, hk1, hnf, hz1, hnt]
                    clear HZ
                    go_wp2_with fail; go_ret; exact ⟨rfl, F.bel⟩
            · skip
              rcases hnt : ((nt : Int) == 0) with _ | _
              · skip
                cases t5 with
                | false =>
                  obtain rfl : z = false := by rw [HZ.out]; simp [hw0, hk0, hk1, hnf, hnt]
                  clear HZ
                  go_wp2_with fail; go_ret; exact ⟨rfl, F.bel⟩
                | true =>
                  obtain rfl : z = (z2 == 0) := by rw [HZ.out]; simp [hw0, hk0, hk1, hnf, hnt]
                  clear HZ
                  go_wp2_with fail; go_ret; exact ⟨rfl, F.bel⟩
              · skip
                obtain rfl : z = true := by rw [HZ.out]; simp [hw0, hk0, hk1, hnf, hnt]
                clear HZ
                go_wp2_with fail; go_ret; exact ⟨rfl, F.bel⟩
    · skip
      cases t2 with
      | false =>
        obtain rfl : z = false := by rw [HZ.out]; simp [hw0, hk0]
        clear HZ
        go_wp2_with fail; go_ret; exact ⟨rfl, F.bel⟩
      | true =>
        cases t3 with
        | false =>
          obtain rfl : z = false := by rw [HZ.out]; simp [hw0, hk0]
          clear HZ
          go_wp2_with fail; go_ret; exact ⟨rfl, F.bel⟩
        | true =>
          rcases hnf : ((nf : Int) == 0) with _ | _
          · skip
            cases t4 with
            | false =>
              obtain rfl : z = false := by rw [HZ.out]; simp [hw0, hk0, hnf]
              clear HZ
              go_wp2_with fail; go_ret; exact ⟨rfl, F.bel⟩
            | true =>
              rcases hz1 : (z1 == 0) with _ | _
              · skip
                obtain rfl : z = false := by rw [HZ.out]; simp [hw0, hk0, hnf, hz1]
                clear HZ
                go_wp2_with fail; go_ret; exact ⟨rfl, F.bel⟩
              · skip
                rcases hnt : ((nt : Int) == 0) with _ | _
                · skip
                  cases t5 with
                  | false =>
                    obtain rfl : z = false := by rw [HZ.out]; simp [hw0, hk0, hnf, hz1, hnt]
                    clear HZ
                    go_wp2_with fail; go_ret; exact ⟨rfl, F.bel⟩
                  | true =>
                    obtain rfl : z = (z2 == 0) := by rw [HZ.out]; simp [hw0, hk0, hnf, hz1, hnt]
                    clear HZ
                    go_wp2_with fail; go_ret; exact ⟨rfl, F.bel⟩
                · skip
                  obtain rfl : z = true := by rw [HZ.out]; simp [hw0, hk0, hnf, hz1, hnt]
                  clear HZ
                  go_wp2_with fail; go_ret; exact ⟨rfl, F.bel⟩
          · skip
            rcases hnt : ((nt : Int) == 0) with _ | _
            · skip
              cases t5 with
              | false =>
                obtain rfl : z = false := by rw [HZ.out]; simp [hw0, hk0, hnf, hnt]
                clear HZ
                go_wp2_with fail; go_ret; exact ⟨rfl, F.bel⟩
              | true =>
                obtain rfl : z = (z2 == 0) := by rw [HZ.out]; simp [hw0, hk0, hnf, hnt]
                clear HZ
                go_wp2_with fail; go_ret; exact ⟨rfl, F.bel⟩
            · skip
              obtain rfl : z = true := by rw [HZ.out]; simp [hw0, hk0, hnf, hnt]
              clear HZ
              go_wp2_with fail; go_ret; exact ⟨rfl, F.bel⟩
end Go.Proofs.YtfhchbpgpaljhaaDoor
