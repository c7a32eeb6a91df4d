/- What tidy and Rule of the reference return (package portref1): 'tidyB', 'ruE'. -/
import Derived.Test.YthnkjfgiclolaaaGreatDoorRuleChk2
import Derived.Test.YthnkjfgiclolaaaGreatDoorMgM
namespace Go.Proofs.YthnkjfgiclolaaaGreatDoor
open Go.RowKit
set_option linter.unusedVariables false

set_option maxHeartbeats 4000000 in
theorem refTidy_any (v : Value) (l : List Sp) (w : World) (hv : Spns w v l) (hk : OkS l) :
    Calls Tryz.prog 33 #[v] w fun e w' => e = .returned (.bool (tidyB l)) ∧ Below w.heap.size w w' := by
  obtain ⟨ao, co, rfl⟩ := hv.len
  obtain ⟨T, hT⟩ : ∃ T, tidyB l = T := ⟨_, rfl⟩
  have HT : Hid ((∀ i (h : i + 1 < l.length), l[i].2 + 1 < l[i + 1].1) → T = true) := fun h => by rw [← hT]; exact tidyB_at.2 h
  have HNo : Hid (∀ i (h : i + 1 < l.length), ¬ l[i].2 + 1 < l[i + 1].1 → T = false) := fun i h hn => by
    cases T
    · rfl
    · exact absurd (tidyB_at.1 hT i h) hn
  obtain ⟨N, hN⟩ : ∃ N, l.length = N := ⟨_, rfl⟩
  rw [hN] at hv ⊢
  have HN := hidE hN
  have HV := hidE hv
  have HK := hidE hk
  obtain ⟨Q, hQ⟩ : ∃ Q : Ending → World → Prop, Q = fun e w' => e = .returned (.bool T) ∧ Below w.heap.size w w' := ⟨_, rfl⟩
  have HQ : Hid (∀ e w', (e = .returned (.bool T) ∧ Below w.heap.size w w') → Q e w') := by rw [hQ]; exact fun _ _ h => h
  rw [hT, ← hQ]
  clear hv hN hk hT hQ
  go_enter Tryz.func33, Tryz.ntmps33
  go_upto_region 2 with fail
  go_loopw [3] (fun i wr => ∃ k : Nat, i = .int .i64 ((k : Int) + 1) ∧ (k ≤ N) ∧ Below w.heap.size w wr ∧ Hid (∀ j (h : j + 1 < l.length), j < k → l[j].2 + 1 < l[j + 1].1)) (fun i _ => ((N : Int) - intOf i).toNat)
  case atStart => exact ⟨0, rfl, by omega, Below.refl _ _, fun j _ hj => by omega⟩
  case round =>
    obtain ⟨k, rfl, hkN, hb, HS⟩ := hrel
    have hb' := hidE hb
    by_cases hkn : k + 1 < N
    · have i1 : (k : Int) + 1 < (N : Int) := by omega
      have i2 : (0 : Int) ≤ (k : Int) + 1 := by omega
      have hkp : k + 1 < l.length := by have := HN.out; omega
      obtain ⟨b, o, e1, hb1, hl1, hx1, hc1⟩ := HV.out.shape (by omega)
      subst e1
      have hx1' : co ≤ 9223372036854775807 := by unfold maxLen at hx1; omega
      obtain ⟨x0, x1⟩ := (hc1 k (by omega)).keep (hb.block b hb1)
      obtain ⟨y0, y1⟩ := (hc1 (k + 1) hkp).keep (hb.block b hb1)
      have o1 := HK.out l[k] (List.getElem_mem _)
      have o2 := HK.out l[k + 1] (List.getElem_mem _)
      have HYES := hidE (fun (h : l[k].2 + 1 < l[k + 1].1) (j : Nat) (hj : j + 1 < l.length) (hjk : j < k + 1) => (show l[j].2 + 1 < l[j + 1].1 from by
        by_cases e : j = k
        · subst e; exact h
        · exact HS.out j hj (by omega)))
      have HNOT := hidE (fun h => HNo.out k hkp h)
      generalize l[k] = s at x0 x1 o1 HYES HNOT
      generalize l[k + 1] = t at y0 y1 o2 HYES HNOT
      obtain ⟨s1, s2⟩ := s
      obtain ⟨t1, t2⟩ := t
      simp only at x0 x1 y0 y1 o1 o2 HYES HNOT
      have m0 : (k : Int) + 1 - 1 = (k : Int) := by omega
      have i3 : (0 : Int) ≤ (k : Int) := by omega
      have i4 : (k : Int) < (N : Int) := by omega
      have y0' : wr.cell? ⟨b, o + (k * 2 + 2), none⟩ = some (.int .i64 t1) := by have := y0; rw [show o + (k + 1) * 2 = o + (k * 2 + 2) by omega] at this; exact this
      have tn : ((k : Int) + 1).toNat = k + 1 := by omega
      clear hc1 hx1 hb HS
      by_cases hlt : s2 + 1 < t1
      · have hge : ¬ s2 + 1 ≥ t1 := by omega
        have HY := hidE (HYES.out hlt)
        clear HYES HNOT HT HNo HQ
        go_upto_region 4 with fail
        go_region
        all_goals
          go_wp2_with fail
          go_roundw
          case rel => exact ⟨k + 1, by go_num, by omega, hb'.out.drew, HY.out⟩
          case measure => simp [intOf]; omega
      · have hge : s2 + 1 ≥ t1 := by omega
        have hTf := HNOT.out (by omega)
        subst hTf
        clear HYES HNOT HT HNo
        go_upto_region 4 with fail
        go_region
        all_goals
          go_wp2_with fail
          exact HQ.out _ _ ⟨rfl, hb'.out.drew⟩
    · have i1 : ¬ (k : Int) + 1 < (N : Int) := by omega
      have hTt := HT.out (fun i hi => HS.out i hi (by have := HN.out; omega))
      subst hTt
      clear HT HNo HS
      go_wp2_with fail
      exact HQ.out _ _ ⟨rfl, hb'.out⟩
end Go.Proofs.YthnkjfgiclolaaaGreatDoor

namespace Go.Proofs.YthnkjfgiclolaaaGreatDoor
open Go.RowKit
set_option linter.unusedVariables false

def xR (r : Rl) : Bool := !tidyB r.fr || !tidyB r.tl || ((decide (0 < r.fr.length) || decide (0 < r.tl.length)) && !decide (r.kind = 1) && !decide (r.kind = 2)) || (r.keep && !r.pass)
theorem ruE_x {r : Rl} (h : wayE r = false) (h1 : e1R r = 0) (h2 : e2R r = 0) (h3 : e3R r = 0) : ruE r = if xR r = true then 3 else 0 := by
  rw [ruE_4 h h1 h2 h3]
  have e : (badP r.kind r.fr = true ∨ badP r.kind r.tl = true ∨ (r.keep = true ∧ r.pass = false)) ↔ xR r = true := by
    unfold badP portsB xR
    cases tidyB r.fr <;> cases tidyB r.tl <;> cases r.keep <;> cases r.pass <;> by_cases a1 : 0 < r.fr.length <;> by_cases a2 : 0 < r.tl.length <;> by_cases a3 : r.kind = 1 <;> by_cases a4 : r.kind = 2 <;> simp [a1, a2, a3, a4]
  by_cases hx : xR r = true
  · rw [if_pos hx, if_pos (e.2 hx)]
  · rw [if_neg hx, if_neg (fun k => hx (e.1 k))]
theorem e2R_is (r : Rl) : e2R r = if (decide (10 < r.fr.length) || decide (10 < r.tl.length)) = true then 4 else 0 := by
  unfold e2R twoE
  by_cases h1 : 10 < r.fr.length <;> by_cases h2 : 10 < r.tl.length <;> simp [h1, h2]
set_option maxRecDepth 10000 in
set_option maxHeartbeats 8000000 in
theorem refRule_any (r : Rl) (fv tv : Value) (w : World) (hf : Spns w fv r.fr) (ht : Spns w tv r.tl) (hfl : r.fr.length ≤ 140737488355328) (htl : r.tl.length ≤ 140737488355328) :
    Calls Tryz.prog 14 #[rlV r fv tv] w fun e w' => e = .returned (.int .i64 (ruE r)) ∧ Below w.heap.size w w' := by
  have hR1 := RlAt.new w r fv tv
  have b1 : Below w.heap.size w (w.alloc (.cells #[.bool r.pass, .bool r.quick, .bool r.keep, .int .i64 r.way, .int .i64 r.kind, .int .i64 r.sa, .int .i64 r.sl, .int .i64 r.da, .int .i64 r.dl, fv, tv] 33)) := (Below.refl _ _).alloc (Nat.le_refl _) _
  obtain ⟨af, cf, hfe⟩ := hf.len
  obtain ⟨at', ct, hte⟩ := ht.len
  obtain ⟨nf, hnf⟩ : ∃ nf, r.fr.length = nf := ⟨_, rfl⟩
  obtain ⟨nt, hnt⟩ : ∃ nt, r.tl.length = nt := ⟨_, rfl⟩
  have HXD := hidE (show xR r = (!tidyB r.fr || !tidyB r.tl || ((decide (0 < r.fr.length) || decide (0 < r.tl.length)) && !decide (r.kind = 1) && !decide (r.kind = 2)) || (r.keep && !r.pass)) from rfl)
  have HE2 := hidE (e2R_is r)
  rw [hnf, hnt] at HXD HE2
  rw [hnf] at hfe
  rw [hnt] at hte
  subst hfe hte
  unfold rlV
  have HS1 := hidE (fun (W : World) (hW : Below w.heap.size w W) => refSpans_any _ r.fr W (hf.below hW) hfl)
  have HS2 := hidE (fun (W : World) (hW : Below w.heap.size w W) => refSpans_any _ r.tl W (ht.below hW) htl)
  have HT1 := hidE (fun (h : e3R r = 0) (W : World) (hW : Below w.heap.size w W) => refTidy_any _ r.fr W (hf.below hW) (of_spE (twoE_zero.1 h).1).2)
  have HT2 := hidE (fun (h : e3R r = 0) (W : World) (hW : Below w.heap.size w W) => refTidy_any _ r.tl W (ht.below hW) (of_spE (twoE_zero.1 h).2).2)
  have E1 := hidE (show e1R r = twoE (prefE r.sa r.sl) (prefE r.da r.dl) from rfl)
  have E3 := hidE (show e3R r = twoE (spE r.fr) (spE r.tl) from rfl)
  have K0 := hidE (@ruE_way r)
  have K1 := hidE (@ruE_1 r)
  have K2 := hidE (@ruE_2 r)
  have K3 := hidE (@ruE_3 r)
  have K4 := hidE (@ruE_x r)
  have HWD := hidE (show wayE r = (decide (r.way < 0) || decide (2 < r.way) || decide (r.kind < 0) || decide (3 < r.kind)) from rfl)
  obtain ⟨n, hn⟩ : ∃ n, ruE r = n := ⟨_, rfl⟩
  rw [hn] at K0 K1 K2 K3 K4 ⊢
  obtain ⟨Q, hQ⟩ : ∃ Q : Ending → World → Prop, Q = fun e w' => e = .returned (.int .i64 n) ∧ Below w.heap.size w w' := ⟨_, rfl⟩
  have HQ : Hid (∀ e w', (e = .returned (.int .i64 n) ∧ Below w.heap.size w w') → Q e w') := by rw [hQ]; exact fun _ _ h => h
  rw [← hQ]
  clear hf ht hfl htl hnf hnt hn hQ
  go_enter Tryz.func14, Tryz.ntmps14
  go_upto_region 1 with fail
  obtain ⟨W1, hW1⟩ : ∃ W1, w.alloc (.cells #[.bool r.pass, .bool r.quick, .bool r.keep, .int .i64 r.way, .int .i64 r.kind, .int .i64 r.sa, .int .i64 r.sl, .int .i64 r.da, .int .i64 r.dl, .slice af nf cf, .slice at' nt ct] 33) = W1 := ⟨_, rfl⟩
  obtain ⟨B, hB⟩ : ∃ B, w.heap.size = B := ⟨_, rfl⟩
  rw [hW1] at hR1 b1 ⊢
  rw [hB] at hR1 ⊢
  have HR1 := hidE hR1
  have HB1 := hidE b1
  obtain ⟨c0, c1, c2, c3, c4, c5, c6, c7, c8, c9, c10⟩ := hR1.cells
  clear hW1 hB hR1 b1
  obtain ⟨wb, hwb⟩ : ∃ wb, wayE r = wb := ⟨_, rfl⟩
  rw [hwb] at K0 K1 K2 K3 K4 HWD
  have HKD := hidE (show r.kind = r.kind from rfl)
  obtain ⟨wy, hwy⟩ : ∃ wy, r.way = wy := ⟨_, rfl⟩
  obtain ⟨kd, hkd⟩ : ∃ kd, r.kind = kd := ⟨_, rfl⟩
  have HKE := hidE hkd
  rw [hwy] at c3 HWD ⊢
  rw [hkd] at c4 HWD HXD ⊢
  clear hwb hwy hkd HKD
  go_cut [23] (fun x ww => x = .bool wb ∧ ww = W1)
  case first =>
    clear HQ K0 K1 K2 K3 K4 HS1 HS2 HT1 HT2
    by_cases a1 : wy < 0
    · have e := HWD.out
      rw [decide_eq_true a1] at e
      simp only [Bool.true_or] at e
      subst e
      go_wp2_with fail
      go_meet
      case rel => exact ⟨rfl, rfl⟩
    · by_cases a2 : wy > 2
      · have e := HWD.out
        rw [decide_eq_false a1, decide_eq_true (p := 2 < wy) a2] at e
        simp only [Bool.or_true, Bool.true_or] at e
        subst e
        go_wp2_with fail
        go_meet
        case rel => exact ⟨rfl, rfl⟩
      · by_cases a3 : kd < 0
        · have e := HWD.out
          rw [decide_eq_false a1, decide_eq_false (p := 2 < wy) a2, decide_eq_true a3] at e
          simp only [Bool.or_true, Bool.true_or] at e
          subst e
          go_wp2_with fail
          go_meet
          case rel => exact ⟨rfl, rfl⟩
        · by_cases a4 : kd > 3
          · have e := HWD.out
            rw [decide_eq_false a1, decide_eq_false (p := 2 < wy) a2, decide_eq_false a3, decide_eq_true (p := 3 < kd) a4] at e
            simp only [Bool.or_true] at e
            subst e
            go_wp2_with fail
            go_meet
            case rel => exact ⟨rfl, rfl⟩
          · have e := HWD.out
            rw [decide_eq_false a1, decide_eq_false (p := 2 < wy) a2, decide_eq_false a3, decide_eq_false (p := 3 < kd) a4] at e
            simp only [Bool.or_self] at e
            subst e
            go_wp2_with fail
            go_meet
            case rel => exact ⟨rfl, rfl⟩
  case rest =>
    obtain ⟨hx, hy⟩ := hcut
    subst hx hy
    rcases wb with _ | _
    · have k1 := hidE (K1.out rfl)
      have k2 := hidE (K2.out rfl)
      have k3 := hidE (K3.out rfl)
      have k4 := hidE (K4.out rfl)
      clear K0 K1 K2 K3 K4 HWD
      obtain ⟨W0, hW0⟩ : ∃ W0, W0 = wc := ⟨_, rfl⟩
      subst hW0
      have hp1 := refPrefix_any r.sa r.sl W0
      go_upto_if 28 with (go_at_call 31; go_must (refine hp1.mono ?_; rintro e w2 ⟨rfl, b2⟩))
      have HB2 := hidE (HB1.out.trans (b2.mono HB1.out.size))
      have HR2 := hidE (HR1.out.below HR1.out.lt b2)
      clear hp1 b2 c0 c1 c2 c3 c4 c5 c6 c7 c8 c9 c10 HR1 HB1
      go_cut [3] (fun e ww => e = .int .i64 (e1R r) ∧ Hid (RlAt ww B r (.slice af nf cf) (.slice at' nt ct)) ∧ Hid (Below w.heap.size w ww))
      case first =>
        clear HQ k1 k2 k3 k4 HS1 HS2 HT1 HT2
        obtain ⟨c0, c1, c2, c3, c4, c5, c6, c7, c8, c9, c10⟩ := HR2.out.cells
        by_cases z1 : prefE r.sa r.sl = 0
        · have e := E1.out
          unfold twoE at e
          rw [if_pos z1] at e
          have HEE := hidE e
          have hp2 := refPrefix_any r.da r.dl w2
          rw [z1]
          clear z1 e
          go_wp2_with (go_at_call 31; go_must (refine hp2.mono ?_; rintro e w3 ⟨rfl, b3⟩))
          go_meet
          case rel => exact ⟨by rw [HEE.out], HR2.out.below HR2.out.lt b3, HB2.out.trans (b3.mono HB2.out.size)⟩
        · have e := E1.out
          unfold twoE at e
          rw [if_neg z1] at e
          have HEE := hidE e
          have bz : (prefE r.sa r.sl == 0) = false := by rw [beq_eq_false_iff_ne]; exact z1
          clear e
          go_wp2_with fail
          go_meet
          case rel => exact ⟨by rw [HEE.out], HR2.out, HB2.out⟩
      case rest =>
        obtain ⟨he, HR3, HB3⟩ := hcut
        subst he
        obtain ⟨W3, hW3⟩ : ∃ W3, W3 = wc := ⟨_, rfl⟩
        subst hW3
        clear HR2 HB2 E1
        by_cases z1 : e1R r = 0
        · rw [z1]
          have Z1 := hidE z1
          obtain ⟨c0, c1, c2, c3, c4, c5, c6, c7, c8, c9, c10⟩ := HR3.out.cells
          clear z1 k1
          go_upto_region 8 with fail
          obtain ⟨X2, hX2⟩ : ∃ X2, (decide (10 < nf) || decide (10 < nt)) = X2 := ⟨_, rfl⟩
          have HX2 := hidE hX2
          rw [hX2] at HE2
          clear hX2
          go_cut [44] (fun x ww => x = .bool X2 ∧ ww = W3)
          case first =>
            clear HQ k2 k3 k4 HS1 HS2 HT1 HT2
            by_cases a1 : 10 < nf
            · have i1 : (nf : Int) > 10 := by omega
              have e := HX2.out
              rw [decide_eq_true a1, Bool.true_or] at e
              subst e
              go_wp2_with fail
              go_meet
              case rel => exact ⟨rfl, rfl⟩
            · have i1 : ¬ (nf : Int) > 10 := by omega
              by_cases a2 : 10 < nt
              · have i2 : (nt : Int) > 10 := by omega
                have e := HX2.out
                rw [decide_eq_false a1, decide_eq_true a2, Bool.or_true] at e
                subst e
                go_wp2_with fail
                go_meet
                case rel => exact ⟨rfl, rfl⟩
              · have i2 : ¬ (nt : Int) > 10 := by omega
                have e := HX2.out
                rw [decide_eq_false a1, decide_eq_false a2, Bool.or_self] at e
                subst e
                go_wp2_with fail
                go_meet
                case rel => exact ⟨rfl, rfl⟩
          case rest =>
            obtain ⟨hx, hy⟩ := hcut
            subst hx hy
            obtain ⟨W4, hW4⟩ : ∃ W4, W4 = wc := ⟨_, rfl⟩
            subst hW4
            rcases X2 with _ | _
            · have z2 : e2R r = 0 := by rw [HE2.out]; rfl
              have Z2 := hidE z2
              have hs1 := HS1.out W4 HB3.out
              clear z2 k2 HE2 HX2
              go_upto_if 49 with (go_at_call 32; go_must (refine hs1.mono ?_; rintro e w5 ⟨rfl, b5⟩))
              have HB5 := hidE (HB3.out.trans (b5.mono HB3.out.size))
              have HR5 := hidE (HR3.out.below HR3.out.lt b5)
              clear hs1 b5 c0 c1 c2 c3 c4 c5 c6 c7 c8 c9 c10 HR3 HB3
              go_cut [3] (fun e ww => e = .int .i64 (e3R r) ∧ Hid (RlAt ww B r (.slice af nf cf) (.slice at' nt ct)) ∧ Hid (Below w.heap.size w ww))
              case first =>
                clear HQ k3 k4 HT1 HT2
                obtain ⟨c0, c1, c2, c3, c4, c5, c6, c7, c8, c9, c10⟩ := HR5.out.cells
                by_cases z1 : spE r.fr = 0
                · have e := E3.out
                  unfold twoE at e
                  rw [if_pos z1] at e
                  have HEE := hidE e
                  have hs2 := HS2.out w5 HB5.out
                  rw [z1]
                  clear z1 e
                  go_wp2_with (go_at_call 32; go_must (refine hs2.mono ?_; rintro e w6 ⟨rfl, b6⟩))
                  go_meet
                  case rel => exact ⟨by rw [HEE.out], HR5.out.below HR5.out.lt b6, HB5.out.trans (b6.mono HB5.out.size)⟩
                · have e := E3.out
                  unfold twoE at e
                  rw [if_neg z1] at e
                  have HEE := hidE e
                  have bz : (spE r.fr == 0) = false := by rw [beq_eq_false_iff_ne]; exact z1
                  clear e
                  go_wp2_with fail
                  go_meet
                  case rel => exact ⟨by rw [HEE.out], HR5.out, HB5.out⟩
              case rest =>
                obtain ⟨he, HR6, HB6⟩ := hcut
                subst he
                obtain ⟨W6, hW6⟩ : ∃ W6, W6 = wc := ⟨_, rfl⟩
                subst hW6
                clear HR5 HB5 E3 HS1 HS2
                by_cases z3 : e3R r = 0
                · rw [z3]
                  have h4 := hidE (k4.out Z1.out Z2.out z3)
                  have ht1 := HT1.out z3 W6 HB6.out
                  have HT2' := hidE (HT2.out z3)
                  obtain ⟨c0, c1, c2, c3, c4, c5, c6, c7, c8, c9, c10⟩ := HR6.out.cells
                  clear z3 k3 k4 HT1 HT2
                  go_upto_region 16 with (go_at_call 33; go_must (refine ht1.mono ?_; rintro e w7 ⟨rfl, b7⟩))
                  have HB7 := hidE (HB6.out.trans (b7.mono HB6.out.size))
                  have HR7 := hidE (HR6.out.below HR6.out.lt b7)
                  have ht2 := HT2'.out w7 HB7.out
                  clear ht1 b7 c0 c1 c2 c3 c4 c5 c6 c7 c8 c9 c10 HR6 HB6 HT2'
                  obtain ⟨c0, c1, c2, c3, c4, c5, c6, c7, c8, c9, c10⟩ := HR7.out.cells
                  go_upto_region 17 with (go_at_call 33; go_must (refine ht2.mono ?_; rintro e w8 ⟨rfl, b8⟩))
                  have HB8 := hidE (HB7.out.trans (b8.mono HB7.out.size))
                  have HR8 := hidE (HR7.out.below HR7.out.lt b8)
                  clear ht2 b8 c0 c1 c2 c3 c4 c5 c6 c7 c8 c9 c10 HR7 HB7
                  obtain ⟨c0, c1, c2, c3, c4, c5, c6, c7, c8, c9, c10⟩ := HR8.out.cells
                  rw [HKE.out] at c4
                  obtain ⟨X, hX⟩ : ∃ X, xR r = X := ⟨_, rfl⟩
                  rw [hX] at HXD h4
                  generalize tidyB r.fr = Ta at HXD ⊢
                  generalize tidyB r.tl = Tb at HXD ⊢
                  generalize r.keep = kp at c2 HXD ⊢
                  generalize r.pass = ps at c0 HXD ⊢
                  clear hX
                  go_cut [98] (fun x ww => x = .bool X ∧ ww = w8)
                  case first =>
                    clear HQ h4 HR8 HB8
                    cases Ta
                    · skip
                      have e := HXD.out
                      simp at e
                      subst e
                      go_wp2_with fail
                      go_meet
                      case rel => exact ⟨rfl, rfl⟩
                    · cases Tb
                      · skip
                        have e := HXD.out
                        simp at e
                        subst e
                        go_wp2_with fail
                        go_meet
                        case rel => exact ⟨rfl, rfl⟩
                      · by_cases a1 : 0 < nf
                        · have i1 : (nf : Int) > 0 := by omega
                          by_cases a3 : kd = 1
                          · have m1 : (kd != 1) = false := by rw [a3]; rfl
                            cases kp
                            · skip
                              have e := HXD.out
                              simp [a1, a3] at e
                              subst e
                              clear a3
                              go_wp2_with fail
                              go_meet
                              case rel => exact ⟨rfl, rfl⟩
                            · cases ps
                              · skip
                                have e := HXD.out
                                simp [a1, a3] at e
                                subst e
                                clear a3
                                go_wp2_with fail
                                go_meet
                                case rel => exact ⟨rfl, rfl⟩
                              · skip
                                have e := HXD.out
                                simp [a1, a3] at e
                                subst e
                                clear a3
                                go_wp2_with fail
                                go_meet
                                case rel => exact ⟨rfl, rfl⟩
                          · have m1 : (kd != 1) = true := by rw [bne_iff_ne]; exact a3
                            by_cases a4 : kd = 2
                            · have m2 : (kd != 2) = false := by rw [a4]; rfl
                              cases kp
                              · skip
                                have e := HXD.out
                                simp [a1, a4] at e
                                subst e
                                clear a4
                                go_wp2_with fail
                                go_meet
                                case rel => exact ⟨rfl, rfl⟩
                              · cases ps
                                · skip
                                  have e := HXD.out
                                  simp [a1, a4] at e
                                  subst e
                                  clear a4
                                  go_wp2_with fail
                                  go_meet
                                  case rel => exact ⟨rfl, rfl⟩
                                · skip
                                  have e := HXD.out
                                  simp [a1, a4] at e
                                  subst e
                                  clear a4
                                  go_wp2_with fail
                                  go_meet
                                  case rel => exact ⟨rfl, rfl⟩
                            · have m2 : (kd != 2) = true := by rw [bne_iff_ne]; exact a4
                              have e := HXD.out
                              simp [a1, a3, a4] at e
                              subst e
                              go_wp2_with fail
                              go_meet
                              case rel => exact ⟨rfl, rfl⟩
                        · have i1 : ¬ (nf : Int) > 0 := by omega
                          by_cases a2 : 0 < nt
                          · have i2 : (nt : Int) > 0 := by omega
                            by_cases a3 : kd = 1
                            · have m1 : (kd != 1) = false := by rw [a3]; rfl
                              cases kp
                              · skip
                                have e := HXD.out
                                simp [a1, a2, a3] at e
                                subst e
                                clear a3
                                go_wp2_with fail
                                go_meet
                                case rel => exact ⟨rfl, rfl⟩
                              · cases ps
                                · skip
                                  have e := HXD.out
                                  simp [a1, a2, a3] at e
                                  subst e
                                  clear a3
                                  go_wp2_with fail
                                  go_meet
                                  case rel => exact ⟨rfl, rfl⟩
                                · skip
                                  have e := HXD.out
                                  simp [a1, a2, a3] at e
                                  subst e
                                  clear a3
                                  go_wp2_with fail
                                  go_meet
                                  case rel => exact ⟨rfl, rfl⟩
                            · have m1 : (kd != 1) = true := by rw [bne_iff_ne]; exact a3
                              by_cases a4 : kd = 2
                              · have m2 : (kd != 2) = false := by rw [a4]; rfl
                                cases kp
                                · skip
                                  have e := HXD.out
                                  simp [a1, a2, a4] at e
                                  subst e
                                  clear a4
                                  go_wp2_with fail
                                  go_meet
                                  case rel => exact ⟨rfl, rfl⟩
                                · cases ps
                                  · skip
                                    have e := HXD.out
                                    simp [a1, a2, a4] at e
                                    subst e
                                    clear a4
                                    go_wp2_with fail
                                    go_meet
                                    case rel => exact ⟨rfl, rfl⟩
                                  · skip
                                    have e := HXD.out
                                    simp [a1, a2, a4] at e
                                    subst e
                                    clear a4
                                    go_wp2_with fail
                                    go_meet
                                    case rel => exact ⟨rfl, rfl⟩
                              · have m2 : (kd != 2) = true := by rw [bne_iff_ne]; exact a4
                                have e := HXD.out
                                simp [a1, a2, a3, a4] at e
                                subst e
                                go_wp2_with fail
                                go_meet
                                case rel => exact ⟨rfl, rfl⟩
                          · have i2 : ¬ (nt : Int) > 0 := by omega
                            cases kp
                            · skip
                              have e := HXD.out
                              simp [a1, a2] at e
                              subst e
                              go_wp2_with fail
                              go_meet
                              case rel => exact ⟨rfl, rfl⟩
                            · cases ps
                              · skip
                                have e := HXD.out
                                simp [a1, a2] at e
                                subst e
                                go_wp2_with fail
                                go_meet
                                case rel => exact ⟨rfl, rfl⟩
                              · skip
                                have e := HXD.out
                                simp [a1, a2] at e
                                subst e
                                go_wp2_with fail
                                go_meet
                                case rel => exact ⟨rfl, rfl⟩
                  case rest =>
                    obtain ⟨hx, hy⟩ := hcut
                    subst hx hy
                    rcases X with _ | _
                    · have HN2 := hidE (show n = 0 by rw [h4.out]; rfl)
                      clear h4
                      go_wp2_with fail
                      exact HQ.out _ _ ⟨by rw [HN2.out]; rfl, HB8.out⟩
                    · have HN2 := hidE (show n = 3 by rw [h4.out]; rfl)
                      clear h4
                      go_wp2_with fail
                      exact HQ.out _ _ ⟨by rw [HN2.out]; rfl, HB8.out⟩
                · have bz : (e3R r != 0) = true := by rw [bne_iff_ne]; exact z3
                  have HN2 := hidE (k3.out Z1.out Z2.out z3)
                  generalize e3R r = z at bz HN2 z3 ⊢
                  clear k3 k4 HT1 HT2
                  go_wp2_with fail
                  exact HQ.out _ _ ⟨by rw [HN2.out]; rfl, HB6.out⟩
            · have z2 : e2R r = 4 := by rw [HE2.out]; rfl
              have HN2 := hidE (k2.out Z1.out (by rw [z2]; decide))
              rw [z2] at HN2
              clear z2 k2 k3 k4 HE2 HX2
              go_wp2_with fail
              exact HQ.out _ _ ⟨by rw [HN2.out]; rfl, HB3.out⟩
        · have bz : (e1R r != 0) = true := by rw [bne_iff_ne]; exact z1
          have HN2 := hidE (k1.out z1)
          generalize e1R r = z at bz HN2 z1 ⊢
          clear k1 k2 k3 k4
          go_wp2_with fail
          exact HQ.out _ _ ⟨by rw [HN2.out]; rfl, HB3.out⟩
    · have HN2 := hidE (K0.out rfl)
      clear K0 K1 K2 K3 K4 HWD
      go_wp2_with fail
      exact HQ.out _ _ ⟨by rw [HN2.out]; rfl, HB1.out⟩
end Go.Proofs.YthnkjfgiclolaaaGreatDoor
