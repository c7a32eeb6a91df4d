/- What the reference's ShowRule returns (package portref1): a rule's line. -/
import Derived.Test.YthnkjfgiclolaaaGreatDoorRuleBk0
import Derived.Test.YthnkjfgiclolaaaGreatDoorMgP
import Derived.Test.YthnkjfgiclolaaaGreatDoorMgP
import Derived.Deep.DeepCutAuto
import Derived.Deep.DeepMust
namespace Go.Proofs.YthnkjfgiclolaaaGreatDoor
open Go.RowKit
set_option linter.unusedVariables false
set_option maxRecDepth 10000

theorem sz_app {s l : ByteArray} {a b c : Nat} (h : s.size ≤ a) (hl : l.size ≤ b) (hc : a + b ≤ c) : (s ++ l).size ≤ c := by rw [ByteArray.size_append]; omega
set_option maxHeartbeats 16000000 in
theorem refShowR_any (r : Rl) (fv tv : Value) (w : World) (hf : Spns w fv r.fr) (ht : Spns w tv r.tl) (h : Writ r) :
    Calls Tryz.prog 8 #[rlV r fv tv] w fun e w' => e = .returned (.string (mkB (lineL r))) ∧ Below w.heap.size w w' := by
  obtain ⟨Q, hQ⟩ : ∃ Q : Ending → World → Prop, Q = fun e w' => e = .returned (.string (mkB (lineL r))) ∧ Below w.heap.size w w' := ⟨_, rfl⟩
  have HQ : Hid (∀ s w', s = mkB (lineL r) → Below w.heap.size w w' → Q (.returned (.string s)) w') := by rw [hQ]; exact fun s w' hs h => ⟨by rw [hs], h⟩
  rw [← hQ]
  clear hQ
  obtain ⟨af, cf, hfe⟩ := hf.len
  obtain ⟨at', ct, hte⟩ := ht.len
  obtain ⟨nf, hnf⟩ : ∃ n, r.fr.length = n := ⟨_, rfl⟩
  obtain ⟨nt, hnt⟩ : ∃ n, r.tl.length = n := ⟨_, rfl⟩
  rw [hnf] at hfe
  rw [hnt] at hte
  subst hfe hte
  have HF := hidE hf
  have HTT := hidE ht
  have HW := hidE h
  have HNF := hidE hnf
  have HNT := hidE hnt
  have hnf2 : nf ≤ 200 := by rw [← hnf]; exact h.frl
  have hnt2 : nt ≤ 200 := by rw [← hnt]; exact h.tll
  have b0 : Below w.heap.size w (w.alloc (.cells #[.bool r.pass, .bool r.quick, .bool r.keep, .int .i64 r.way, .int .i64 r.kind, .int .i64 r.sa, .int .i64 r.sl, .int .i64 r.da, .int .i64 r.dl, .slice af nf cf, .slice at' nt ct] 33)) := (Below.refl _ _).alloc (Nat.le_refl _) _
  have a0 := RlAt.new w r (.slice af nf cf) (.slice at' nt ct)
  obtain ⟨W0, hW0⟩ : ∃ W0, w.alloc (.cells #[.bool r.pass, .bool r.quick, .bool r.keep, .int .i64 r.way, .int .i64 r.kind, .int .i64 r.sa, .int .i64 r.sl, .int .i64 r.da, .int .i64 r.dl, .slice af nf cf, .slice at' nt ct] 33) = W0 := ⟨_, rfl⟩
  rw [hW0] at b0 a0
  obtain ⟨S, hS⟩ : ∃ S, w.heap.size = S := ⟨_, rfl⟩
  rw [hS] at a0
  have HW0 := hidE hW0
  have HS := hidE hS
  have HA := hidE a0
  have HBW0 := hidE b0
  have HB := hidE (Below.refl W0.heap.size W0)
  clear hf ht h hnf hnt b0 hW0
  unfold rlV
  go_enter Tryz.func8, Tryz.ntmps8
  go_upto_region 2 with fail
  rw [HW0.out]
  clear hS HW0
  obtain ⟨d0, d1, d2, d3, d4, d5, d6, d7, d8, d9, d10⟩ := a0.cells
  clear a0

  obtain ⟨pv, hpv⟩ : ∃ pv, r.pass = pv := ⟨_, rfl⟩
  rw [hpv] at d0
  have HPV := hidE hpv
  clear hpv
  go_upto_if 9 with fail
  go_cut [3] (fun x wr => (∃ s : ByteArray, x = .string s ∧ Hid (s = mkB (headL r)) ∧ s.size ≤ 5) ∧ wr = W0)
  case first =>
    cases pv with
    | true =>
      go_wp2_with fail
      go_meet
      case rel => exact ⟨⟨_, rfl, by unfold headL; rw [HPV.out]; rfl, by first | omega | (show (_ : Nat) ≤ _; decide) | exact sz_app z-1 (b := 12) (by decide) (by decide)⟩, rfl⟩
    | false =>
      go_wp2_with fail
      go_meet
      case rel => exact ⟨⟨_, rfl, by unfold headL; rw [HPV.out]; rfl, by first | omega | (show (_ : Nat) ≤ _; decide) | exact sz_app z-1 (b := 12) (by decide) (by decide)⟩, rfl⟩
  case rest =>
  obtain ⟨⟨s0, hx, HS0, z0⟩, hw⟩ := hcut
  subst hx
  rw [hw]
  clear hw
  obtain ⟨qv, hqv⟩ : ∃ pv, r.quick = pv := ⟨_, rfl⟩
  rw [hqv] at d1
  have HQV := hidE hqv
  clear hqv d0
  go_upto_if 11 with fail
  go_cut [3] (fun x wr => (∃ s : ByteArray, x = .string s ∧ Hid (s = mkB (headL r ++ quickL r)) ∧ s.size ≤ 17) ∧ wr = W0)
  case first =>
    cases qv with
    | true =>
      go_wp2_with fail
      go_meet
      case rel => exact ⟨⟨_, rfl, by rw [← mkB_append, ← HS0.out]; unfold quickL; rw [HQV.out]; rfl, by first | omega | (show (_ : Nat) ≤ _; decide) | exact sz_app z0 (b := 12) (by decide) (by decide)⟩, rfl⟩
    | false =>
      go_wp2_with fail
      go_meet
      case rel => exact ⟨⟨_, rfl, by unfold quickL; rw [HQV.out, if_neg (by simp), List.append_nil]; exact HS0, by first | omega | (show (_ : Nat) ≤ _; decide) | exact sz_app z0 (b := 12) (by decide) (by decide)⟩, rfl⟩
  case rest =>
  obtain ⟨⟨s1, hx, HS1, z1⟩, hw⟩ := hcut
  subst hx
  rw [hw]
  clear hw
  clear d1
  obtain ⟨y1, y2, y3, y4⟩ : 0 ≤ r.way ∧ r.way ≤ 2 ∧ 0 ≤ r.kind ∧ r.kind ≤ 3 := ⟨HW.out.w0, HW.out.w2, HW.out.k0, HW.out.k3⟩
  obtain ⟨wv, hwv⟩ : ∃ v, r.way = v := ⟨_, rfl⟩
  obtain ⟨kv, hkv⟩ : ∃ v, r.kind = v := ⟨_, rfl⟩
  rw [hwv] at d3 y1 y2
  rw [hkv] at d4 y3 y4
  have HWV := hidE hwv
  have HKV := hidE hkv
  clear hwv hkv
  go_upto_if 16 with fail
  go_cut [3] (fun x wr => (∃ s : ByteArray, x = .string s ∧ Hid (s = mkB (headL r ++ quickL r ++ (if r.way = 1 then [32, 105, 110] else []))) ∧ s.size ≤ 29) ∧ wr = W0)
  case first =>
    by_cases h1 : wv = 1
    · have i1 : (wv == 1) = true := by rw [h1]; rfl
      have HE : Hid (r.way = 1) := by rw [Hid, HWV.out]; exact h1
      clear h1
      go_wp2_with fail
      go_meet
      case rel => exact ⟨⟨_, rfl, by rw [if_pos HE.out, ← mkB_append, ← HS1.out]; rfl, by first | omega | (show (_ : Nat) ≤ _; decide) | exact sz_app z1 (b := 12) (by decide) (by decide)⟩, rfl⟩
    · have i1 : (wv == 1) = false := by rw [beq_eq_false_iff_ne]; exact h1
      have HE : Hid (¬ r.way = 1) := by rw [Hid, HWV.out]; exact h1
      clear h1
      go_wp2_with fail
      go_meet
      case rel => exact ⟨⟨_, rfl, by rw [if_neg HE.out, List.append_nil]; exact HS1, by first | omega | (show (_ : Nat) ≤ _; decide) | exact sz_app z1 (b := 12) (by decide) (by decide)⟩, rfl⟩
  case rest =>
  obtain ⟨⟨s2, hx, HS2, z2⟩, hw⟩ := hcut
  subst hx
  rw [hw]
  clear hw
  go_upto_if 21 with fail
  go_cut [3] (fun x wr => (∃ s : ByteArray, x = .string s ∧ Hid (s = mkB (headL r ++ quickL r ++ wayL r.way)) ∧ s.size ≤ 41) ∧ wr = W0)
  case first =>
    by_cases h1 : wv = 2
    · have i1 : (wv == 2) = true := by rw [h1]; rfl
      have HE : Hid (r.way = 2) := by rw [Hid, HWV.out]; exact h1
      clear h1
      go_wp2_with fail
      go_meet
      case rel => exact ⟨⟨_, rfl, by have := HS2.out; rw [if_neg (by rw [HE.out]; decide), List.append_nil] at this; rw [← mkB_append, ← this, HE.out]; rfl, by first | omega | (show (_ : Nat) ≤ _; decide) | exact sz_app z2 (b := 12) (by decide) (by decide)⟩, rfl⟩
    · have i1 : (wv == 2) = false := by rw [beq_eq_false_iff_ne]; exact h1
      have HE : Hid (¬ r.way = 2) := by rw [Hid, HWV.out]; exact h1
      clear h1
      go_wp2_with fail
      go_meet
      case rel => exact ⟨⟨_, rfl, by have := HS2.out; unfold wayL; rw [if_neg HE.out]; exact this, by first | omega | (show (_ : Nat) ≤ _; decide) | exact sz_app z2 (b := 12) (by decide) (by decide)⟩, rfl⟩
  case rest =>
  obtain ⟨⟨s3, hx, HS3, z3⟩, hw⟩ := hcut
  subst hx
  rw [hw]
  clear hw
  clear d3 y1 y2 HWV HS0 HS1 HS2 z0 z1 z2
  rcases (by omega : kv = 1 ∨ kv = 2 ∨ kv = 3 ∨ kv = 0) with h1 | h1 | h1 | h1
  · have HE : Hid (r.kind = 1) := by rw [Hid, HKV.out]; exact h1
    have i1 : (kv == 1) = true := by rw [h1]; rfl
    clear h1
    go_upto_region 17 with fail
    have HS4 := hidE (show s3 ++ ⟨#[32, 107, 105, 110, 100, 32, 115, 116, 114, 101, 97, 109]⟩ = mkB (headL r ++ quickL r ++ wayL r.way ++ kindL r.kind) by rw [← mkB_append, ← HS3.out, HE.out]; rfl)
    have z4 : (s3 ++ ⟨#[32, 107, 105, 110, 100, 32, 115, 116, 114, 101, 97, 109]⟩).size ≤ 53 := sz_app z3 (b := 12) (by decide) (by decide)
    generalize s3 ++ ⟨#[32, 107, 105, 110, 100, 32, 115, 116, 114, 101, 97, 109]⟩ = s4 at HS4 z4 ⊢
    clear i1 HE
    clear d4 y3 y4 HKV HS3 z3
    have HBW := hidE (fun (W : World) (b : Below W0.heap.size W0 W) => (show Spns W (.slice af nf cf) r.fr ∧ Spns W (.slice at' nt ct) r.tl from ⟨HF.out.below (HBW0.out.trans (b.mono HBW0.out.size)), HTT.out.below (HBW0.out.trans (b.mono HBW0.out.size))⟩))
    have HAT := hidE (fun (W : World) (b : Below W0.heap.size W0 W) => (show RlAt W S r (.slice af nf cf) (.slice at' nt ct) from HA.out.below HA.out.lt b))
    have g1 := showPrefix_any r.sa r.sl W0 (prefE_zero HW.out.src).1.1 (prefE_zero HW.out.src).1.2 (prefE_zero HW.out.src).2.1.1 (prefE_zero HW.out.src).2.1.2
    obtain ⟨u1, hu1⟩ : ∃ u, mkB (showPrefL r.sa r.sl) = u := ⟨_, rfl⟩
    have hzu1 : u1.size ≤ 3000 := by rw [← hu1, mkB_size]; exact showPref_len HW.out.src
    rw [hu1] at g1
    have HU1 := hidE hu1
    clear hu1
    go_upto_region 18 with (go_at_call 17; go_must (refine g1.mono ?_; rintro e W1 ⟨rfl, b1⟩))
    have HB1 := hidE (HB.out.trans (b1.mono HB.out.size))
    have ra1 := HAT.out W1 HB1.out
    obtain ⟨d0, d1, d2, d3, d4, d5, d6, d7, d8, d9, d10⟩ := ra1.cells
    clear g1 b1 ra1 d0 d1 d3 d4
    go_upto_if 48 with fail
    have HT1 := hidE (show s4 ++ ⟨#[32, 102, 114, 111, 109, 32]⟩ ++ u1 = mkB (headL r ++ quickL r ++ wayL r.way ++ kindL r.kind ++ (fromL ++ showPrefL r.sa r.sl)) by rw [HS4.out, ← HU1.out, show (⟨#[32, 102, 114, 111, 109, 32]⟩ : ByteArray) = mkB fromL from rfl, mkB_append, mkB_append, List.append_assoc])
    have hzt1 : (s4 ++ ⟨#[32, 102, 114, 111, 109, 32]⟩ ++ u1).size ≤ 3063 := sz_app (sz_app z4 (b := 6) (by decide) (Nat.le_refl _)) hzu1 (by decide)
    generalize s4 ++ ⟨#[32, 102, 114, 111, 109, 32]⟩ ++ u1 = t1 at HT1 hzt1 ⊢
    go_cut [3] (fun x wr => (∃ s : ByteArray, x = .string s ∧ Hid (s = mkB (headL r ++ quickL r ++ wayL r.way ++ kindL r.kind ++ sideL fromL r.sa r.sl r.fr)) ∧ s.size ≤ 5553) ∧ Hid (Below W0.heap.size W0 wr))
    case first =>
      by_cases h0 : nf = 0
      · have i1 : ¬ (nf : Int) > 0 := by omega
        have HP0 := hidE (show portsL r.fr = [] by unfold portsL; rw [if_pos (List.length_eq_zero_iff.1 (by rw [HNF.out]; exact h0))])
        clear h0
        go_wp2_with fail
        go_meet
        case rel => exact ⟨⟨_, rfl, by rw [Hid, HT1.out]; unfold sideL; rw [HP0.out, List.append_nil], by omega⟩, HB1⟩
      · have i1 : (nf : Int) > 0 := by omega
        have HP0 := hidE (show portsL r.fr = portL ++ textL r.fr by unfold portsL; rw [if_neg (fun e => h0 (by rw [← HNF.out, e]; rfl)), printL_nrm HW.out.fr])
        clear h0
        have f1 := refShow_any _ r.fr W1 (HBW.out _ HB1.out).1 HW.out.frl HW.out.fr.1
        obtain ⟨q1, hq1⟩ : ∃ u, mkB (textL r.fr) = u := ⟨_, rfl⟩
        have hzq1 : q1.size ≤ 2400 := by rw [← hq1, mkB_size]; exact text_short HW.out.fr.1 HW.out.frl
        rw [hq1] at f1
        have HV1 := hidE hq1
        clear hq1
        go_wp2_with (go_at_call 18; go_must (refine f1.mono ?_; rintro e W2 ⟨rfl, b1⟩))
        go_meet
        case rel => exact ⟨⟨_, rfl, by rw [Hid, HT1.out, ← HV1.out, show (⟨#[32, 112, 111, 114, 116, 32]⟩ : ByteArray) = mkB portL from rfl, mkB_append, mkB_append]; unfold sideL; rw [HP0.out]; simp only [List.append_assoc], sz_app (sz_app hzt1 (b := 6) (by decide) (Nat.le_refl _)) hzq1 (by decide)⟩, HB1.out.trans (b1.mono HB1.out.size)⟩
    case rest =>
    obtain ⟨⟨s5, hx, HS5, z5⟩, HB2⟩ := hcut
    subst hx
    obtain ⟨W2, hw1⟩ : ∃ W, wc = W := ⟨_, rfl⟩
    rw [hw1] at HB2 ⊢
    clear hw1 d2 d5 d6 d7 d8 d9 d10
    have ra1 := HAT.out W2 HB2.out
    obtain ⟨d0, d1, d2, d3, d4, d5, d6, d7, d8, d9, d10⟩ := ra1.cells
    clear ra1 d0 d1 d3 d4 hzt1 HT1 hzu1 HU1
    have g2 := showPrefix_any r.da r.dl W2 (prefE_zero HW.out.dst).1.1 (prefE_zero HW.out.dst).1.2 (prefE_zero HW.out.dst).2.1.1 (prefE_zero HW.out.dst).2.1.2
    obtain ⟨u2, hu2⟩ : ∃ u, mkB (showPrefL r.da r.dl) = u := ⟨_, rfl⟩
    have hzu2 : u2.size ≤ 3000 := by rw [← hu2, mkB_size]; exact showPref_len HW.out.dst
    rw [hu2] at g2
    have HU2 := hidE hu2
    clear hu2
    go_upto_region 23 with (go_at_call 17; go_must (refine g2.mono ?_; rintro e W3 ⟨rfl, b2⟩))
    have HB3 := hidE (HB2.out.trans (b2.mono HB2.out.size))
    have ra2 := HAT.out W3 HB3.out
    obtain ⟨d0, d1, d2, d3, d4, d5, d6, d7, d8, d9, d10⟩ := ra2.cells
    clear g2 b2 ra2 d0 d1 d3 d4
    go_upto_if 66 with fail
    have HT2 := hidE (show s5 ++ ⟨#[32, 116, 111, 32]⟩ ++ u2 = mkB (headL r ++ quickL r ++ wayL r.way ++ kindL r.kind ++ sideL fromL r.sa r.sl r.fr ++ (toL ++ showPrefL r.da r.dl)) by rw [HS5.out, ← HU2.out, show (⟨#[32, 116, 111, 32]⟩ : ByteArray) = mkB toL from rfl, mkB_append, mkB_append, List.append_assoc])
    have hzt2 : (s5 ++ ⟨#[32, 116, 111, 32]⟩ ++ u2).size ≤ 8563 := sz_app (sz_app z5 (b := 6) (by decide) (Nat.le_refl _)) hzu2 (by decide)
    generalize s5 ++ ⟨#[32, 116, 111, 32]⟩ ++ u2 = t2 at HT2 hzt2 ⊢
    go_cut [3] (fun x wr => (∃ s : ByteArray, x = .string s ∧ Hid (s = mkB (headL r ++ quickL r ++ wayL r.way ++ kindL r.kind ++ sideL fromL r.sa r.sl r.fr ++ sideL toL r.da r.dl r.tl)) ∧ s.size ≤ 11053) ∧ Hid (Below W0.heap.size W0 wr))
    case first =>
      by_cases h0 : nt = 0
      · have i1 : ¬ (nt : Int) > 0 := by omega
        have HP0 := hidE (show portsL r.tl = [] by unfold portsL; rw [if_pos (List.length_eq_zero_iff.1 (by rw [HNT.out]; exact h0))])
        clear h0
        go_wp2_with fail
        go_meet
        case rel => exact ⟨⟨_, rfl, by rw [Hid, HT2.out]; unfold sideL; rw [HP0.out, List.append_nil], by omega⟩, HB3⟩
      · have i1 : (nt : Int) > 0 := by omega
        have HP0 := hidE (show portsL r.tl = portL ++ textL r.tl by unfold portsL; rw [if_neg (fun e => h0 (by rw [← HNT.out, e]; rfl)), printL_nrm HW.out.tl])
        clear h0
        have f2 := refShow_any _ r.tl W3 (HBW.out _ HB3.out).2 HW.out.tll HW.out.tl.1
        obtain ⟨q2, hq2⟩ : ∃ u, mkB (textL r.tl) = u := ⟨_, rfl⟩
        have hzq2 : q2.size ≤ 2400 := by rw [← hq2, mkB_size]; exact text_short HW.out.tl.1 HW.out.tll
        rw [hq2] at f2
        have HV2 := hidE hq2
        clear hq2
        go_wp2_with (go_at_call 18; go_must (refine f2.mono ?_; rintro e W4 ⟨rfl, b2⟩))
        go_meet
        case rel => exact ⟨⟨_, rfl, by rw [Hid, HT2.out, ← HV2.out, show (⟨#[32, 112, 111, 114, 116, 32]⟩ : ByteArray) = mkB portL from rfl, mkB_append, mkB_append]; unfold sideL; rw [HP0.out]; simp only [List.append_assoc], sz_app (sz_app hzt2 (b := 6) (by decide) (Nat.le_refl _)) hzq2 (by decide)⟩, HB3.out.trans (b2.mono HB3.out.size)⟩
    case rest =>
    obtain ⟨⟨s6, hx, HS6, z6⟩, HB4⟩ := hcut
    subst hx
    obtain ⟨W4, hw2⟩ : ∃ W, wc = W := ⟨_, rfl⟩
    rw [hw2] at HB4 ⊢
    clear hw2 d2 d5 d6 d7 d8 d9 d10
    have ra2 := HAT.out W4 HB4.out
    obtain ⟨d0, d1, d2, d3, d4, d5, d6, d7, d8, d9, d10⟩ := ra2.cells
    clear ra2 d0 d1 d3 d4 hzt2 HT2 hzu2 HU2
    obtain ⟨kv, hkv⟩ : ∃ pv, r.keep = pv := ⟨_, rfl⟩
    rw [hkv] at d2
    have HKV := hidE hkv
    clear hkv
    have HL := hidE (show headL r ++ quickL r ++ wayL r.way ++ kindL r.kind ++ sideL fromL r.sa r.sl r.fr ++ sideL toL r.da r.dl r.tl ++ keepL r = lineL r by unfold lineL bothL; simp only [List.append_assoc])
    cases kv with
    | true =>
      have HK := hidE (show keepL r = [32, 107, 101, 101, 112] by unfold keepL; rw [HKV.out]; rfl)
      have hq := HQ.out (s6 ++ ⟨#[32, 107, 101, 101, 112]⟩) W4 (by rw [← HL.out, HK.out, ← mkB_append, ← HS6.out]; rfl) (HBW0.out.trans (HB4.out.mono HBW0.out.size))
      have HQQ := hidE hq
      clear hq
      go_wp2_with fail
      exact HQQ.out
    | false =>
      have HK := hidE (show keepL r = [] by unfold keepL; rw [HKV.out]; rfl)
      have hq := HQ.out s6 W4 (by rw [← HL.out, HK.out, List.append_nil]; exact HS6.out) (HBW0.out.trans (HB4.out.mono HBW0.out.size))
      have HQQ := hidE hq
      clear hq
      go_wp2_with fail
      exact HQQ.out
  · have HE : Hid (r.kind = 2) := by rw [Hid, HKV.out]; exact h1
    have i1 : (kv == 1) = false := by rw [h1]; rfl
    have i2 : (kv == 2) = true := by rw [h1]; rfl
    clear h1
    go_upto_region 17 with fail
    have HS4 := hidE (show s3 ++ ⟨#[32, 107, 105, 110, 100, 32, 115, 105, 110, 103, 108, 101]⟩ = mkB (headL r ++ quickL r ++ wayL r.way ++ kindL r.kind) by rw [← mkB_append, ← HS3.out, HE.out]; rfl)
    have z4 : (s3 ++ ⟨#[32, 107, 105, 110, 100, 32, 115, 105, 110, 103, 108, 101]⟩).size ≤ 53 := sz_app z3 (b := 12) (by decide) (by decide)
    generalize s3 ++ ⟨#[32, 107, 105, 110, 100, 32, 115, 105, 110, 103, 108, 101]⟩ = s4 at HS4 z4 ⊢
    clear i1 i2 HE
    clear d4 y3 y4 HKV HS3 z3
    have HBW := hidE (fun (W : World) (b : Below W0.heap.size W0 W) => (show Spns W (.slice af nf cf) r.fr ∧ Spns W (.slice at' nt ct) r.tl from ⟨HF.out.below (HBW0.out.trans (b.mono HBW0.out.size)), HTT.out.below (HBW0.out.trans (b.mono HBW0.out.size))⟩))
    have HAT := hidE (fun (W : World) (b : Below W0.heap.size W0 W) => (show RlAt W S r (.slice af nf cf) (.slice at' nt ct) from HA.out.below HA.out.lt b))
    have g1 := showPrefix_any r.sa r.sl W0 (prefE_zero HW.out.src).1.1 (prefE_zero HW.out.src).1.2 (prefE_zero HW.out.src).2.1.1 (prefE_zero HW.out.src).2.1.2
    obtain ⟨u1, hu1⟩ : ∃ u, mkB (showPrefL r.sa r.sl) = u := ⟨_, rfl⟩
    have hzu1 : u1.size ≤ 3000 := by rw [← hu1, mkB_size]; exact showPref_len HW.out.src
    rw [hu1] at g1
    have HU1 := hidE hu1
    clear hu1
    go_upto_region 18 with (go_at_call 17; go_must (refine g1.mono ?_; rintro e W1 ⟨rfl, b1⟩))
    have HB1 := hidE (HB.out.trans (b1.mono HB.out.size))
    have ra1 := HAT.out W1 HB1.out
    obtain ⟨d0, d1, d2, d3, d4, d5, d6, d7, d8, d9, d10⟩ := ra1.cells
    clear g1 b1 ra1 d0 d1 d3 d4
    go_upto_if 48 with fail
    have HT1 := hidE (show s4 ++ ⟨#[32, 102, 114, 111, 109, 32]⟩ ++ u1 = mkB (headL r ++ quickL r ++ wayL r.way ++ kindL r.kind ++ (fromL ++ showPrefL r.sa r.sl)) by rw [HS4.out, ← HU1.out, show (⟨#[32, 102, 114, 111, 109, 32]⟩ : ByteArray) = mkB fromL from rfl, mkB_append, mkB_append, List.append_assoc])
    have hzt1 : (s4 ++ ⟨#[32, 102, 114, 111, 109, 32]⟩ ++ u1).size ≤ 3063 := sz_app (sz_app z4 (b := 6) (by decide) (Nat.le_refl _)) hzu1 (by decide)
    generalize s4 ++ ⟨#[32, 102, 114, 111, 109, 32]⟩ ++ u1 = t1 at HT1 hzt1 ⊢
    go_cut [3] (fun x wr => (∃ s : ByteArray, x = .string s ∧ Hid (s = mkB (headL r ++ quickL r ++ wayL r.way ++ kindL r.kind ++ sideL fromL r.sa r.sl r.fr)) ∧ s.size ≤ 5553) ∧ Hid (Below W0.heap.size W0 wr))
    case first =>
      by_cases h0 : nf = 0
      · have i1 : ¬ (nf : Int) > 0 := by omega
        have HP0 := hidE (show portsL r.fr = [] by unfold portsL; rw [if_pos (List.length_eq_zero_iff.1 (by rw [HNF.out]; exact h0))])
        clear h0
        go_wp2_with fail
        go_meet
        case rel => exact ⟨⟨_, rfl, by rw [Hid, HT1.out]; unfold sideL; rw [HP0.out, List.append_nil], by omega⟩, HB1⟩
      · have i1 : (nf : Int) > 0 := by omega
        have HP0 := hidE (show portsL r.fr = portL ++ textL r.fr by unfold portsL; rw [if_neg (fun e => h0 (by rw [← HNF.out, e]; rfl)), printL_nrm HW.out.fr])
        clear h0
        have f1 := refShow_any _ r.fr W1 (HBW.out _ HB1.out).1 HW.out.frl HW.out.fr.1
        obtain ⟨q1, hq1⟩ : ∃ u, mkB (textL r.fr) = u := ⟨_, rfl⟩
        have hzq1 : q1.size ≤ 2400 := by rw [← hq1, mkB_size]; exact text_short HW.out.fr.1 HW.out.frl
        rw [hq1] at f1
        have HV1 := hidE hq1
        clear hq1
        go_wp2_with (go_at_call 18; go_must (refine f1.mono ?_; rintro e W2 ⟨rfl, b1⟩))
        go_meet
        case rel => exact ⟨⟨_, rfl, by rw [Hid, HT1.out, ← HV1.out, show (⟨#[32, 112, 111, 114, 116, 32]⟩ : ByteArray) = mkB portL from rfl, mkB_append, mkB_append]; unfold sideL; rw [HP0.out]; simp only [List.append_assoc], sz_app (sz_app hzt1 (b := 6) (by decide) (Nat.le_refl _)) hzq1 (by decide)⟩, HB1.out.trans (b1.mono HB1.out.size)⟩
    case rest =>
    obtain ⟨⟨s5, hx, HS5, z5⟩, HB2⟩ := hcut
    subst hx
    obtain ⟨W2, hw1⟩ : ∃ W, wc = W := ⟨_, rfl⟩
    rw [hw1] at HB2 ⊢
    clear hw1 d2 d5 d6 d7 d8 d9 d10
    have ra1 := HAT.out W2 HB2.out
    obtain ⟨d0, d1, d2, d3, d4, d5, d6, d7, d8, d9, d10⟩ := ra1.cells
    clear ra1 d0 d1 d3 d4 hzt1 HT1 hzu1 HU1
    have g2 := showPrefix_any r.da r.dl W2 (prefE_zero HW.out.dst).1.1 (prefE_zero HW.out.dst).1.2 (prefE_zero HW.out.dst).2.1.1 (prefE_zero HW.out.dst).2.1.2
    obtain ⟨u2, hu2⟩ : ∃ u, mkB (showPrefL r.da r.dl) = u := ⟨_, rfl⟩
    have hzu2 : u2.size ≤ 3000 := by rw [← hu2, mkB_size]; exact showPref_len HW.out.dst
    rw [hu2] at g2
    have HU2 := hidE hu2
    clear hu2
    go_upto_region 23 with (go_at_call 17; go_must (refine g2.mono ?_; rintro e W3 ⟨rfl, b2⟩))
    have HB3 := hidE (HB2.out.trans (b2.mono HB2.out.size))
    have ra2 := HAT.out W3 HB3.out
    obtain ⟨d0, d1, d2, d3, d4, d5, d6, d7, d8, d9, d10⟩ := ra2.cells
    clear g2 b2 ra2 d0 d1 d3 d4
    go_upto_if 66 with fail
    have HT2 := hidE (show s5 ++ ⟨#[32, 116, 111, 32]⟩ ++ u2 = mkB (headL r ++ quickL r ++ wayL r.way ++ kindL r.kind ++ sideL fromL r.sa r.sl r.fr ++ (toL ++ showPrefL r.da r.dl)) by rw [HS5.out, ← HU2.out, show (⟨#[32, 116, 111, 32]⟩ : ByteArray) = mkB toL from rfl, mkB_append, mkB_append, List.append_assoc])
    have hzt2 : (s5 ++ ⟨#[32, 116, 111, 32]⟩ ++ u2).size ≤ 8563 := sz_app (sz_app z5 (b := 6) (by decide) (Nat.le_refl _)) hzu2 (by decide)
    generalize s5 ++ ⟨#[32, 116, 111, 32]⟩ ++ u2 = t2 at HT2 hzt2 ⊢
    go_cut [3] (fun x wr => (∃ s : ByteArray, x = .string s ∧ Hid (s = mkB (headL r ++ quickL r ++ wayL r.way ++ kindL r.kind ++ sideL fromL r.sa r.sl r.fr ++ sideL toL r.da r.dl r.tl)) ∧ s.size ≤ 11053) ∧ Hid (Below W0.heap.size W0 wr))
    case first =>
      by_cases h0 : nt = 0
      · have i1 : ¬ (nt : Int) > 0 := by omega
        have HP0 := hidE (show portsL r.tl = [] by unfold portsL; rw [if_pos (List.length_eq_zero_iff.1 (by rw [HNT.out]; exact h0))])
        clear h0
        go_wp2_with fail
        go_meet
        case rel => exact ⟨⟨_, rfl, by rw [Hid, HT2.out]; unfold sideL; rw [HP0.out, List.append_nil], by omega⟩, HB3⟩
      · have i1 : (nt : Int) > 0 := by omega
        have HP0 := hidE (show portsL r.tl = portL ++ textL r.tl by unfold portsL; rw [if_neg (fun e => h0 (by rw [← HNT.out, e]; rfl)), printL_nrm HW.out.tl])
        clear h0
        have f2 := refShow_any _ r.tl W3 (HBW.out _ HB3.out).2 HW.out.tll HW.out.tl.1
        obtain ⟨q2, hq2⟩ : ∃ u, mkB (textL r.tl) = u := ⟨_, rfl⟩
        have hzq2 : q2.size ≤ 2400 := by rw [← hq2, mkB_size]; exact text_short HW.out.tl.1 HW.out.tll
        rw [hq2] at f2
        have HV2 := hidE hq2
        clear hq2
        go_wp2_with (go_at_call 18; go_must (refine f2.mono ?_; rintro e W4 ⟨rfl, b2⟩))
        go_meet
        case rel => exact ⟨⟨_, rfl, by rw [Hid, HT2.out, ← HV2.out, show (⟨#[32, 112, 111, 114, 116, 32]⟩ : ByteArray) = mkB portL from rfl, mkB_append, mkB_append]; unfold sideL; rw [HP0.out]; simp only [List.append_assoc], sz_app (sz_app hzt2 (b := 6) (by decide) (Nat.le_refl _)) hzq2 (by decide)⟩, HB3.out.trans (b2.mono HB3.out.size)⟩
    case rest =>
    obtain ⟨⟨s6, hx, HS6, z6⟩, HB4⟩ := hcut
    subst hx
    obtain ⟨W4, hw2⟩ : ∃ W, wc = W := ⟨_, rfl⟩
    rw [hw2] at HB4 ⊢
    clear hw2 d2 d5 d6 d7 d8 d9 d10
    have ra2 := HAT.out W4 HB4.out
    obtain ⟨d0, d1, d2, d3, d4, d5, d6, d7, d8, d9, d10⟩ := ra2.cells
    clear ra2 d0 d1 d3 d4 hzt2 HT2 hzu2 HU2
    obtain ⟨kv, hkv⟩ : ∃ pv, r.keep = pv := ⟨_, rfl⟩
    rw [hkv] at d2
    have HKV := hidE hkv
    clear hkv
    have HL := hidE (show headL r ++ quickL r ++ wayL r.way ++ kindL r.kind ++ sideL fromL r.sa r.sl r.fr ++ sideL toL r.da r.dl r.tl ++ keepL r = lineL r by unfold lineL bothL; simp only [List.append_assoc])
    cases kv with
    | true =>
      have HK := hidE (show keepL r = [32, 107, 101, 101, 112] by unfold keepL; rw [HKV.out]; rfl)
      have hq := HQ.out (s6 ++ ⟨#[32, 107, 101, 101, 112]⟩) W4 (by rw [← HL.out, HK.out, ← mkB_append, ← HS6.out]; rfl) (HBW0.out.trans (HB4.out.mono HBW0.out.size))
      have HQQ := hidE hq
      clear hq
      go_wp2_with fail
      exact HQQ.out
    | false =>
      have HK := hidE (show keepL r = [] by unfold keepL; rw [HKV.out]; rfl)
      have hq := HQ.out s6 W4 (by rw [← HL.out, HK.out, List.append_nil]; exact HS6.out) (HBW0.out.trans (HB4.out.mono HBW0.out.size))
      have HQQ := hidE hq
      clear hq
      go_wp2_with fail
      exact HQQ.out
  · have HE : Hid (r.kind = 3) := by rw [Hid, HKV.out]; exact h1
    have i1 : (kv == 1) = false := by rw [h1]; rfl
    have i2 : (kv == 2) = false := by rw [h1]; rfl
    have i3 : (kv == 3) = true := by rw [h1]; rfl
    clear h1
    go_upto_region 17 with fail
    have HS4 := hidE (show s3 ++ ⟨#[32, 107, 105, 110, 100, 32, 101, 99, 104, 111]⟩ = mkB (headL r ++ quickL r ++ wayL r.way ++ kindL r.kind) by rw [← mkB_append, ← HS3.out, HE.out]; rfl)
    have z4 : (s3 ++ ⟨#[32, 107, 105, 110, 100, 32, 101, 99, 104, 111]⟩).size ≤ 53 := sz_app z3 (b := 12) (by decide) (by decide)
    generalize s3 ++ ⟨#[32, 107, 105, 110, 100, 32, 101, 99, 104, 111]⟩ = s4 at HS4 z4 ⊢
    clear i1 i2 i3 HE
    clear d4 y3 y4 HKV HS3 z3
    have HBW := hidE (fun (W : World) (b : Below W0.heap.size W0 W) => (show Spns W (.slice af nf cf) r.fr ∧ Spns W (.slice at' nt ct) r.tl from ⟨HF.out.below (HBW0.out.trans (b.mono HBW0.out.size)), HTT.out.below (HBW0.out.trans (b.mono HBW0.out.size))⟩))
    have HAT := hidE (fun (W : World) (b : Below W0.heap.size W0 W) => (show RlAt W S r (.slice af nf cf) (.slice at' nt ct) from HA.out.below HA.out.lt b))
    have g1 := showPrefix_any r.sa r.sl W0 (prefE_zero HW.out.src).1.1 (prefE_zero HW.out.src).1.2 (prefE_zero HW.out.src).2.1.1 (prefE_zero HW.out.src).2.1.2
    obtain ⟨u1, hu1⟩ : ∃ u, mkB (showPrefL r.sa r.sl) = u := ⟨_, rfl⟩
    have hzu1 : u1.size ≤ 3000 := by rw [← hu1, mkB_size]; exact showPref_len HW.out.src
    rw [hu1] at g1
    have HU1 := hidE hu1
    clear hu1
    go_upto_region 18 with (go_at_call 17; go_must (refine g1.mono ?_; rintro e W1 ⟨rfl, b1⟩))
    have HB1 := hidE (HB.out.trans (b1.mono HB.out.size))
    have ra1 := HAT.out W1 HB1.out
    obtain ⟨d0, d1, d2, d3, d4, d5, d6, d7, d8, d9, d10⟩ := ra1.cells
    clear g1 b1 ra1 d0 d1 d3 d4
    go_upto_if 48 with fail
    have HT1 := hidE (show s4 ++ ⟨#[32, 102, 114, 111, 109, 32]⟩ ++ u1 = mkB (headL r ++ quickL r ++ wayL r.way ++ kindL r.kind ++ (fromL ++ showPrefL r.sa r.sl)) by rw [HS4.out, ← HU1.out, show (⟨#[32, 102, 114, 111, 109, 32]⟩ : ByteArray) = mkB fromL from rfl, mkB_append, mkB_append, List.append_assoc])
    have hzt1 : (s4 ++ ⟨#[32, 102, 114, 111, 109, 32]⟩ ++ u1).size ≤ 3063 := sz_app (sz_app z4 (b := 6) (by decide) (Nat.le_refl _)) hzu1 (by decide)
    generalize s4 ++ ⟨#[32, 102, 114, 111, 109, 32]⟩ ++ u1 = t1 at HT1 hzt1 ⊢
    go_cut [3] (fun x wr => (∃ s : ByteArray, x = .string s ∧ Hid (s = mkB (headL r ++ quickL r ++ wayL r.way ++ kindL r.kind ++ sideL fromL r.sa r.sl r.fr)) ∧ s.size ≤ 5553) ∧ Hid (Below W0.heap.size W0 wr))
    case first =>
      by_cases h0 : nf = 0
      · have i1 : ¬ (nf : Int) > 0 := by omega
        have HP0 := hidE (show portsL r.fr = [] by unfold portsL; rw [if_pos (List.length_eq_zero_iff.1 (by rw [HNF.out]; exact h0))])
        clear h0
        go_wp2_with fail
        go_meet
        case rel => exact ⟨⟨_, rfl, by rw [Hid, HT1.out]; unfold sideL; rw [HP0.out, List.append_nil], by omega⟩, HB1⟩
      · have i1 : (nf : Int) > 0 := by omega
        have HP0 := hidE (show portsL r.fr = portL ++ textL r.fr by unfold portsL; rw [if_neg (fun e => h0 (by rw [← HNF.out, e]; rfl)), printL_nrm HW.out.fr])
        clear h0
        have f1 := refShow_any _ r.fr W1 (HBW.out _ HB1.out).1 HW.out.frl HW.out.fr.1
        obtain ⟨q1, hq1⟩ : ∃ u, mkB (textL r.fr) = u := ⟨_, rfl⟩
        have hzq1 : q1.size ≤ 2400 := by rw [← hq1, mkB_size]; exact text_short HW.out.fr.1 HW.out.frl
        rw [hq1] at f1
        have HV1 := hidE hq1
        clear hq1
        go_wp2_with (go_at_call 18; go_must (refine f1.mono ?_; rintro e W2 ⟨rfl, b1⟩))
        go_meet
        case rel => exact ⟨⟨_, rfl, by rw [Hid, HT1.out, ← HV1.out, show (⟨#[32, 112, 111, 114, 116, 32]⟩ : ByteArray) = mkB portL from rfl, mkB_append, mkB_append]; unfold sideL; rw [HP0.out]; simp only [List.append_assoc], sz_app (sz_app hzt1 (b := 6) (by decide) (Nat.le_refl _)) hzq1 (by decide)⟩, HB1.out.trans (b1.mono HB1.out.size)⟩
    case rest =>
    obtain ⟨⟨s5, hx, HS5, z5⟩, HB2⟩ := hcut
    subst hx
    obtain ⟨W2, hw1⟩ : ∃ W, wc = W := ⟨_, rfl⟩
    rw [hw1] at HB2 ⊢
    clear hw1 d2 d5 d6 d7 d8 d9 d10
    have ra1 := HAT.out W2 HB2.out
    obtain ⟨d0, d1, d2, d3, d4, d5, d6, d7, d8, d9, d10⟩ := ra1.cells
    clear ra1 d0 d1 d3 d4 hzt1 HT1 hzu1 HU1
    have g2 := showPrefix_any r.da r.dl W2 (prefE_zero HW.out.dst).1.1 (prefE_zero HW.out.dst).1.2 (prefE_zero HW.out.dst).2.1.1 (prefE_zero HW.out.dst).2.1.2
    obtain ⟨u2, hu2⟩ : ∃ u, mkB (showPrefL r.da r.dl) = u := ⟨_, rfl⟩
    have hzu2 : u2.size ≤ 3000 := by rw [← hu2, mkB_size]; exact showPref_len HW.out.dst
    rw [hu2] at g2
    have HU2 := hidE hu2
    clear hu2
    go_upto_region 23 with (go_at_call 17; go_must (refine g2.mono ?_; rintro e W3 ⟨rfl, b2⟩))
    have HB3 := hidE (HB2.out.trans (b2.mono HB2.out.size))
    have ra2 := HAT.out W3 HB3.out
    obtain ⟨d0, d1, d2, d3, d4, d5, d6, d7, d8, d9, d10⟩ := ra2.cells
    clear g2 b2 ra2 d0 d1 d3 d4
    go_upto_if 66 with fail
    have HT2 := hidE (show s5 ++ ⟨#[32, 116, 111, 32]⟩ ++ u2 = mkB (headL r ++ quickL r ++ wayL r.way ++ kindL r.kind ++ sideL fromL r.sa r.sl r.fr ++ (toL ++ showPrefL r.da r.dl)) by rw [HS5.out, ← HU2.out, show (⟨#[32, 116, 111, 32]⟩ : ByteArray) = mkB toL from rfl, mkB_append, mkB_append, List.append_assoc])
    have hzt2 : (s5 ++ ⟨#[32, 116, 111, 32]⟩ ++ u2).size ≤ 8563 := sz_app (sz_app z5 (b := 6) (by decide) (Nat.le_refl _)) hzu2 (by decide)
    generalize s5 ++ ⟨#[32, 116, 111, 32]⟩ ++ u2 = t2 at HT2 hzt2 ⊢
    go_cut [3] (fun x wr => (∃ s : ByteArray, x = .string s ∧ Hid (s = mkB (headL r ++ quickL r ++ wayL r.way ++ kindL r.kind ++ sideL fromL r.sa r.sl r.fr ++ sideL toL r.da r.dl r.tl)) ∧ s.size ≤ 11053) ∧ Hid (Below W0.heap.size W0 wr))
    case first =>
      by_cases h0 : nt = 0
      · have i1 : ¬ (nt : Int) > 0 := by omega
        have HP0 := hidE (show portsL r.tl = [] by unfold portsL; rw [if_pos (List.length_eq_zero_iff.1 (by rw [HNT.out]; exact h0))])
        clear h0
        go_wp2_with fail
        go_meet
        case rel => exact ⟨⟨_, rfl, by rw [Hid, HT2.out]; unfold sideL; rw [HP0.out, List.append_nil], by omega⟩, HB3⟩
      · have i1 : (nt : Int) > 0 := by omega
        have HP0 := hidE (show portsL r.tl = portL ++ textL r.tl by unfold portsL; rw [if_neg (fun e => h0 (by rw [← HNT.out, e]; rfl)), printL_nrm HW.out.tl])
        clear h0
        have f2 := refShow_any _ r.tl W3 (HBW.out _ HB3.out).2 HW.out.tll HW.out.tl.1
        obtain ⟨q2, hq2⟩ : ∃ u, mkB (textL r.tl) = u := ⟨_, rfl⟩
        have hzq2 : q2.size ≤ 2400 := by rw [← hq2, mkB_size]; exact text_short HW.out.tl.1 HW.out.tll
        rw [hq2] at f2
        have HV2 := hidE hq2
        clear hq2
        go_wp2_with (go_at_call 18; go_must (refine f2.mono ?_; rintro e W4 ⟨rfl, b2⟩))
        go_meet
        case rel => exact ⟨⟨_, rfl, by rw [Hid, HT2.out, ← HV2.out, show (⟨#[32, 112, 111, 114, 116, 32]⟩ : ByteArray) = mkB portL from rfl, mkB_append, mkB_append]; unfold sideL; rw [HP0.out]; simp only [List.append_assoc], sz_app (sz_app hzt2 (b := 6) (by decide) (Nat.le_refl _)) hzq2 (by decide)⟩, HB3.out.trans (b2.mono HB3.out.size)⟩
    case rest =>
    obtain ⟨⟨s6, hx, HS6, z6⟩, HB4⟩ := hcut
    subst hx
    obtain ⟨W4, hw2⟩ : ∃ W, wc = W := ⟨_, rfl⟩
    rw [hw2] at HB4 ⊢
    clear hw2 d2 d5 d6 d7 d8 d9 d10
    have ra2 := HAT.out W4 HB4.out
    obtain ⟨d0, d1, d2, d3, d4, d5, d6, d7, d8, d9, d10⟩ := ra2.cells
    clear ra2 d0 d1 d3 d4 hzt2 HT2 hzu2 HU2
    obtain ⟨kv, hkv⟩ : ∃ pv, r.keep = pv := ⟨_, rfl⟩
    rw [hkv] at d2
    have HKV := hidE hkv
    clear hkv
    have HL := hidE (show headL r ++ quickL r ++ wayL r.way ++ kindL r.kind ++ sideL fromL r.sa r.sl r.fr ++ sideL toL r.da r.dl r.tl ++ keepL r = lineL r by unfold lineL bothL; simp only [List.append_assoc])
    cases kv with
    | true =>
      have HK := hidE (show keepL r = [32, 107, 101, 101, 112] by unfold keepL; rw [HKV.out]; rfl)
      have hq := HQ.out (s6 ++ ⟨#[32, 107, 101, 101, 112]⟩) W4 (by rw [← HL.out, HK.out, ← mkB_append, ← HS6.out]; rfl) (HBW0.out.trans (HB4.out.mono HBW0.out.size))
      have HQQ := hidE hq
      clear hq
      go_wp2_with fail
      exact HQQ.out
    | false =>
      have HK := hidE (show keepL r = [] by unfold keepL; rw [HKV.out]; rfl)
      have hq := HQ.out s6 W4 (by rw [← HL.out, HK.out, List.append_nil]; exact HS6.out) (HBW0.out.trans (HB4.out.mono HBW0.out.size))
      have HQQ := hidE hq
      clear hq
      go_wp2_with fail
      exact HQQ.out
  · have HE : Hid (r.kind = 0) := by rw [Hid, HKV.out]; exact h1
    have i1 : (kv == 1) = false := by rw [h1]; rfl
    have i2 : (kv == 2) = false := by rw [h1]; rfl
    have i3 : (kv == 3) = false := by rw [h1]; rfl
    clear h1
    go_upto_region 17 with fail
    have HS4 := hidE (show s3 = mkB (headL r ++ quickL r ++ wayL r.way ++ kindL r.kind) by rw [HE.out, show kindL 0 = [] from rfl, List.append_nil]; exact HS3.out)
    have z4 : s3.size ≤ 53 := by omega
    generalize hs34 : s3 = s4 at HS4 z4 ⊢
    clear hs34
    clear i1 i2 i3 HE
    clear d4 y3 y4 HKV HS3 z3
    have HBW := hidE (fun (W : World) (b : Below W0.heap.size W0 W) => (show Spns W (.slice af nf cf) r.fr ∧ Spns W (.slice at' nt ct) r.tl from ⟨HF.out.below (HBW0.out.trans (b.mono HBW0.out.size)), HTT.out.below (HBW0.out.trans (b.mono HBW0.out.size))⟩))
    have HAT := hidE (fun (W : World) (b : Below W0.heap.size W0 W) => (show RlAt W S r (.slice af nf cf) (.slice at' nt ct) from HA.out.below HA.out.lt b))
    have g1 := showPrefix_any r.sa r.sl W0 (prefE_zero HW.out.src).1.1 (prefE_zero HW.out.src).1.2 (prefE_zero HW.out.src).2.1.1 (prefE_zero HW.out.src).2.1.2
    obtain ⟨u1, hu1⟩ : ∃ u, mkB (showPrefL r.sa r.sl) = u := ⟨_, rfl⟩
    have hzu1 : u1.size ≤ 3000 := by rw [← hu1, mkB_size]; exact showPref_len HW.out.src
    rw [hu1] at g1
    have HU1 := hidE hu1
    clear hu1
    go_upto_region 18 with (go_at_call 17; go_must (refine g1.mono ?_; rintro e W1 ⟨rfl, b1⟩))
    have HB1 := hidE (HB.out.trans (b1.mono HB.out.size))
    have ra1 := HAT.out W1 HB1.out
    obtain ⟨d0, d1, d2, d3, d4, d5, d6, d7, d8, d9, d10⟩ := ra1.cells
    clear g1 b1 ra1 d0 d1 d3 d4
    go_upto_if 48 with fail
    have HT1 := hidE (show s4 ++ ⟨#[32, 102, 114, 111, 109, 32]⟩ ++ u1 = mkB (headL r ++ quickL r ++ wayL r.way ++ kindL r.kind ++ (fromL ++ showPrefL r.sa r.sl)) by rw [HS4.out, ← HU1.out, show (⟨#[32, 102, 114, 111, 109, 32]⟩ : ByteArray) = mkB fromL from rfl, mkB_append, mkB_append, List.append_assoc])
    have hzt1 : (s4 ++ ⟨#[32, 102, 114, 111, 109, 32]⟩ ++ u1).size ≤ 3063 := sz_app (sz_app z4 (b := 6) (by decide) (Nat.le_refl _)) hzu1 (by decide)
    generalize s4 ++ ⟨#[32, 102, 114, 111, 109, 32]⟩ ++ u1 = t1 at HT1 hzt1 ⊢
    go_cut [3] (fun x wr => (∃ s : ByteArray, x = .string s ∧ Hid (s = mkB (headL r ++ quickL r ++ wayL r.way ++ kindL r.kind ++ sideL fromL r.sa r.sl r.fr)) ∧ s.size ≤ 5553) ∧ Hid (Below W0.heap.size W0 wr))
    case first =>
      by_cases h0 : nf = 0
      · have i1 : ¬ (nf : Int) > 0 := by omega
        have HP0 := hidE (show portsL r.fr = [] by unfold portsL; rw [if_pos (List.length_eq_zero_iff.1 (by rw [HNF.out]; exact h0))])
        clear h0
        go_wp2_with fail
        go_meet
        case rel => exact ⟨⟨_, rfl, by rw [Hid, HT1.out]; unfold sideL; rw [HP0.out, List.append_nil], by omega⟩, HB1⟩
      · have i1 : (nf : Int) > 0 := by omega
        have HP0 := hidE (show portsL r.fr = portL ++ textL r.fr by unfold portsL; rw [if_neg (fun e => h0 (by rw [← HNF.out, e]; rfl)), printL_nrm HW.out.fr])
        clear h0
        have f1 := refShow_any _ r.fr W1 (HBW.out _ HB1.out).1 HW.out.frl HW.out.fr.1
        obtain ⟨q1, hq1⟩ : ∃ u, mkB (textL r.fr) = u := ⟨_, rfl⟩
        have hzq1 : q1.size ≤ 2400 := by rw [← hq1, mkB_size]; exact text_short HW.out.fr.1 HW.out.frl
        rw [hq1] at f1
        have HV1 := hidE hq1
        clear hq1
        go_wp2_with (go_at_call 18; go_must (refine f1.mono ?_; rintro e W2 ⟨rfl, b1⟩))
        go_meet
        case rel => exact ⟨⟨_, rfl, by rw [Hid, HT1.out, ← HV1.out, show (⟨#[32, 112, 111, 114, 116, 32]⟩ : ByteArray) = mkB portL from rfl, mkB_append, mkB_append]; unfold sideL; rw [HP0.out]; simp only [List.append_assoc], sz_app (sz_app hzt1 (b := 6) (by decide) (Nat.le_refl _)) hzq1 (by decide)⟩, HB1.out.trans (b1.mono HB1.out.size)⟩
    case rest =>
    obtain ⟨⟨s5, hx, HS5, z5⟩, HB2⟩ := hcut
    subst hx
    obtain ⟨W2, hw1⟩ : ∃ W, wc = W := ⟨_, rfl⟩
    rw [hw1] at HB2 ⊢
    clear hw1 d2 d5 d6 d7 d8 d9 d10
    have ra1 := HAT.out W2 HB2.out
    obtain ⟨d0, d1, d2, d3, d4, d5, d6, d7, d8, d9, d10⟩ := ra1.cells
    clear ra1 d0 d1 d3 d4 hzt1 HT1 hzu1 HU1
    have g2 := showPrefix_any r.da r.dl W2 (prefE_zero HW.out.dst).1.1 (prefE_zero HW.out.dst).1.2 (prefE_zero HW.out.dst).2.1.1 (prefE_zero HW.out.dst).2.1.2
    obtain ⟨u2, hu2⟩ : ∃ u, mkB (showPrefL r.da r.dl) = u := ⟨_, rfl⟩
    have hzu2 : u2.size ≤ 3000 := by rw [← hu2, mkB_size]; exact showPref_len HW.out.dst
    rw [hu2] at g2
    have HU2 := hidE hu2
    clear hu2
    go_upto_region 23 with (go_at_call 17; go_must (refine g2.mono ?_; rintro e W3 ⟨rfl, b2⟩))
    have HB3 := hidE (HB2.out.trans (b2.mono HB2.out.size))
    have ra2 := HAT.out W3 HB3.out
    obtain ⟨d0, d1, d2, d3, d4, d5, d6, d7, d8, d9, d10⟩ := ra2.cells
    clear g2 b2 ra2 d0 d1 d3 d4
    go_upto_if 66 with fail
    have HT2 := hidE (show s5 ++ ⟨#[32, 116, 111, 32]⟩ ++ u2 = mkB (headL r ++ quickL r ++ wayL r.way ++ kindL r.kind ++ sideL fromL r.sa r.sl r.fr ++ (toL ++ showPrefL r.da r.dl)) by rw [HS5.out, ← HU2.out, show (⟨#[32, 116, 111, 32]⟩ : ByteArray) = mkB toL from rfl, mkB_append, mkB_append, List.append_assoc])
    have hzt2 : (s5 ++ ⟨#[32, 116, 111, 32]⟩ ++ u2).size ≤ 8563 := sz_app (sz_app z5 (b := 6) (by decide) (Nat.le_refl _)) hzu2 (by decide)
    generalize s5 ++ ⟨#[32, 116, 111, 32]⟩ ++ u2 = t2 at HT2 hzt2 ⊢
    go_cut [3] (fun x wr => (∃ s : ByteArray, x = .string s ∧ Hid (s = mkB (headL r ++ quickL r ++ wayL r.way ++ kindL r.kind ++ sideL fromL r.sa r.sl r.fr ++ sideL toL r.da r.dl r.tl)) ∧ s.size ≤ 11053) ∧ Hid (Below W0.heap.size W0 wr))
    case first =>
      by_cases h0 : nt = 0
      · have i1 : ¬ (nt : Int) > 0 := by omega
        have HP0 := hidE (show portsL r.tl = [] by unfold portsL; rw [if_pos (List.length_eq_zero_iff.1 (by rw [HNT.out]; exact h0))])
        clear h0
        go_wp2_with fail
        go_meet
        case rel => exact ⟨⟨_, rfl, by rw [Hid, HT2.out]; unfold sideL; rw [HP0.out, List.append_nil], by omega⟩, HB3⟩
      · have i1 : (nt : Int) > 0 := by omega
        have HP0 := hidE (show portsL r.tl = portL ++ textL r.tl by unfold portsL; rw [if_neg (fun e => h0 (by rw [← HNT.out, e]; rfl)), printL_nrm HW.out.tl])
        clear h0
        have f2 := refShow_any _ r.tl W3 (HBW.out _ HB3.out).2 HW.out.tll HW.out.tl.1
        obtain ⟨q2, hq2⟩ : ∃ u, mkB (textL r.tl) = u := ⟨_, rfl⟩
        have hzq2 : q2.size ≤ 2400 := by rw [← hq2, mkB_size]; exact text_short HW.out.tl.1 HW.out.tll
        rw [hq2] at f2
        have HV2 := hidE hq2
        clear hq2
        go_wp2_with (go_at_call 18; go_must (refine f2.mono ?_; rintro e W4 ⟨rfl, b2⟩))
        go_meet
        case rel => exact ⟨⟨_, rfl, by rw [Hid, HT2.out, ← HV2.out, show (⟨#[32, 112, 111, 114, 116, 32]⟩ : ByteArray) = mkB portL from rfl, mkB_append, mkB_append]; unfold sideL; rw [HP0.out]; simp only [List.append_assoc], sz_app (sz_app hzt2 (b := 6) (by decide) (Nat.le_refl _)) hzq2 (by decide)⟩, HB3.out.trans (b2.mono HB3.out.size)⟩
    case rest =>
    obtain ⟨⟨s6, hx, HS6, z6⟩, HB4⟩ := hcut
    subst hx
    obtain ⟨W4, hw2⟩ : ∃ W, wc = W := ⟨_, rfl⟩
    rw [hw2] at HB4 ⊢
    clear hw2 d2 d5 d6 d7 d8 d9 d10
    have ra2 := HAT.out W4 HB4.out
    obtain ⟨d0, d1, d2, d3, d4, d5, d6, d7, d8, d9, d10⟩ := ra2.cells
    clear ra2 d0 d1 d3 d4 hzt2 HT2 hzu2 HU2
    obtain ⟨kv, hkv⟩ : ∃ pv, r.keep = pv := ⟨_, rfl⟩
    rw [hkv] at d2
    have HKV := hidE hkv
    clear hkv
    have HL := hidE (show headL r ++ quickL r ++ wayL r.way ++ kindL r.kind ++ sideL fromL r.sa r.sl r.fr ++ sideL toL r.da r.dl r.tl ++ keepL r = lineL r by unfold lineL bothL; simp only [List.append_assoc])
    cases kv with
    | true =>
      have HK := hidE (show keepL r = [32, 107, 101, 101, 112] by unfold keepL; rw [HKV.out]; rfl)
      have hq := HQ.out (s6 ++ ⟨#[32, 107, 101, 101, 112]⟩) W4 (by rw [← HL.out, HK.out, ← mkB_append, ← HS6.out]; rfl) (HBW0.out.trans (HB4.out.mono HBW0.out.size))
      have HQQ := hidE hq
      clear hq
      go_wp2_with fail
      exact HQQ.out
    | false =>
      have HK := hidE (show keepL r = [] by unfold keepL; rw [HKV.out]; rfl)
      have hq := HQ.out s6 W4 (by rw [← HL.out, HK.out, List.append_nil]; exact HS6.out) (HBW0.out.trans (HB4.out.mono HBW0.out.size))
      have HQQ := hidE hq
      clear hq
      go_wp2_with fail
      exact HQQ.out
end Go.Proofs.YthnkjfgiclolaaaGreatDoor
