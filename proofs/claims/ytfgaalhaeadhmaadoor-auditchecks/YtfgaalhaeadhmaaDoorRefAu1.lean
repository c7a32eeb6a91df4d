/- What the reference's Audit (portref3) returns: the first event that is wrong, and how. -/
import Derived.Test.YtfgaalhaeadhmaaDoorRefAu0
namespace Go.Proofs.YtfgaalhaeadhmaaDoor
open Go.RowKit
set_option linter.unusedVariables false

theorem wrN_of1 {p : Ev} {a b : Int} (h : evB p = false) : wrN p a b = 1 := by unfold wrN; rw [if_pos h]
theorem wrN_of6 {p : Ev} {a b : Int} (h : evB p = true) (h6 : p.time < a) : wrN p a b = 6 := by unfold wrN; rw [if_neg (by simp [h]), if_pos h6]
theorem wrN_of3 {p : Ev} {a b : Int} (h : evB p = true) (h6 : ¬ p.time < a) (h3 : suB p b = false) : wrN p a b = 3 := by unfold wrN; rw [if_neg (by simp [h]), if_neg h6, if_pos h3]
theorem wrN_of7 {p : Ev} {a b : Int} (h : evB p = true) (h6 : ¬ p.time < a) (h3 : suB p b = true) (h7 : p.what = 3 ∧ b ≠ -1) : wrN p a b = 7 := by unfold wrN; rw [if_neg (by simp [h]), if_neg h6, if_neg (by simp [h3]), if_pos h7]
theorem wrN_of0 {p : Ev} {a b : Int} (h : evB p = true) (h6 : ¬ p.time < a) (h3 : suB p b = true) (h7 : ¬ (p.what = 3 ∧ b ≠ -1)) : wrN p a b = 0 := by unfold wrN; rw [if_neg (by simp [h]), if_neg h6, if_neg (by simp [h3]), if_neg h7]
set_option maxRecDepth 100000 in
set_option maxHeartbeats 64000000 in
theorem refAudit_any (es : List Ev) (v : Value) (w : World) (hv : Evs w v es) : Calls Tryd.prog 15 #[v] w fun e w' => e = .returned (.tuple #[.int .i64 ((audR es).1 : Nat), .int .i64 (audR es).2]) ∧ Below w.heap.size w w' := by
  obtain ⟨Q, hQ⟩ : ∃ Q : Ending → World → Prop, Q = fun e w' => e = .returned (.tuple #[.int .i64 ((audR es).1 : Nat), .int .i64 (audR es).2]) ∧ Below w.heap.size w w' := ⟨_, rfl⟩
  have HQ : Hid (∀ (n : Nat) (c : Int) w', audR es = (n, c) → Below w.heap.size w w' → Q (.returned (.tuple #[.int .i64 n, .int .i64 c])) w') := by
    rw [hQ]; intro n c w' h1 h2; rw [h1]; exact ⟨rfl, h2⟩
  rw [← hQ]
  clear hQ
  obtain ⟨ao, co, rfl⟩ := hv.len
  have HV := hidA hv
  obtain ⟨N, hN⟩ : ∃ N, es.length = N := ⟨_, rfl⟩
  have HN := hidA hN
  rw [hN] at HV ⊢
  clear hv hN
  by_cases hl : 1000 < N
  · have h4 : audR es = (0, 4) := by unfold audR; rw [if_pos (by rw [HN.out]; exact hl)]
    have hl' : (1000 : Int) < (N : Int) := by omega
    clear hl
    go_enter Tryd.func15, Tryd.ntmps15
    go_wp2_with fail
    exact HQ.out 0 4 _ h4 (Below.refl _ _)
  · have HL := hidA hl
    have hl' : ¬ (1000 : Int) < (N : Int) := by omega
    have HLN := hidA (show (N : Int) ≤ 1000 by omega)
    clear hl
    go_enter Tryd.func15, Tryd.ntmps15
    go_wp2_with fail
    clear hl'
    go_loopw [4] (fun i wr => ∃ k : Nat, k ≤ N ∧ i = .int .i64 k ∧ Gd es k ∧ Below w.heap.size w wr) (fun i _ => N - (intOf i).toNat)
    case atStart => exact ⟨0, by omega, by go_num, Gd.zero es, Below.refl _ _⟩
    case round =>
      obtain ⟨k, hk, rfl, hg, hb⟩ := hrel
      have HG := hidA hg
      have HB := hidA hb
      clear hb hg
      by_cases hlt : k < N
      · obtain ⟨c1, c2, b, off, rfl⟩ := HV.out.capOk (by omega)
        have hlt' : (k : Int) < (N : Int) := by omega
        have hke : k < es.length := by rw [HN.out]; exact hlt
        have HCS := hidA (fun i hi => (HV.out.below HB.out).cells i hi)
        obtain ⟨q0, q1, q2, q3, q4, q5, q6, q7⟩ := HCS.out k hke
        obtain ⟨p, hp⟩ : ∃ p, es[k] = p := ⟨_, rfl⟩
        have HP := hidA hp
        rw [hp] at q0 q1 q2 q3 q4 q5 q6 q7
        obtain ⟨s, hs⟩ : ∃ s, stA es k = s := ⟨_, rfl⟩
        have HS := hidA hs
        have HM := hidA (hs ▸ st_m k (by omega) HG.out)
        have HST := hidA (show ∀ c, wrN p s.1 s.2 = c → c ≠ 0 → audR es = (k, c) by
          intro c h1 h2
          have := audR_stop (by rw [HN.out]; exact HL.out) HG.out hke (by rw [hp, hs, h1]; exact h2)
          rw [this, hp, hs, h1])
        have HSU := hidA (show wrN p s.1 s.2 = 0 → Gd es (k + 1) from fun h => HG.out.succ hke (by rw [hp, hs]; exact h))
        clear hs hp
        have n0 := EvAt.zero wr
        have ht := auTime_any p.time
        go_upto_region 7 with (first | (refine wpList_store_ev rfl rfl (.tmp 5) (.tmp 20) rfl wr.heap.size _ p rfl rfl n0 ?_; intro W1 n1 b1))
        have hb0 : Below wr.heap.size wr W1 := ((Below.refl _ _).alloc (Nat.le_refl _) _).trans b1
        have HB1 := hidA (HB.out.trans (hb0.mono HB.out.size))
        have HN1 := hidA n1
        clear b1 hb0 q0 q1 q2 q3 q4 q5 q6 q7 n0
        obtain ⟨c0, c1', c2', _⟩ := HN1.out.cells
        obtain ⟨d, hd⟩ : ∃ d, decide (0 ≤ p.time ∧ p.time ≤ 1000000) = d := ⟨_, rfl⟩
        rw [hd] at ht
        have HD := hidA hd
        clear hd n1
        go_upto_region 8 with (go_at_call 32; go_must ((with_reducible refine (ht _).mono ?_); rintro e W2 ⟨rfl, hW2⟩; rw [hW2]; clear hW2 W2))
        obtain ⟨bb, hbb0⟩ : ∃ bb, evB p = bb := ⟨_, rfl⟩
        have HEV := hidA hbb0
        clear hbb0
        go_cut [45] from 11 to 115 (fun v45 wx => v45 = .bool (!bb) ∧ wx = W1)
        case first =>
          have hbb := HEV.out
          clear HEV
          unfold evB at hbb
          obtain ⟨t, n, x, ky⟩ := p
          simp only at c0 c1' c2' hbb HD
          have HBB := hidA hbb
          clear hbb
          cases d
          · obtain rfl : bb = false := by
              rw [← HBB.out]; refine decide_eq_false ?_; rintro ⟨h1, h2, _⟩; exact absurd HD.out (by simp [h1, h2])
            clear HBB
            go_wp2_with fail
            go_meet
            exact ⟨by rfl, rfl⟩
          · have h01 : 0 ≤ t ∧ t ≤ 1000000 := by simpa using HD.out
            have H01 := hidA h01
            clear h01
            rcases (by omega : n = 0 ∨ n = 1 ∨ (¬ n = 0 ∧ ¬ n = 1)) with rfl | rfl | ⟨i0, i1⟩
            · by_cases h2 : 1 ≤ x
              · by_cases h3 : x ≤ 4
                · obtain rfl : bb = true := by rw [← HBB.out]; exact decide_eq_true (by have := H01.out; omega)
                  clear HBB
                  go_wp2_with fail
                  go_meet
                  exact ⟨by first | rfl | (simp; omega), rfl⟩
                · obtain rfl : bb = false := by rw [← HBB.out]; exact decide_eq_false (by omega)
                  clear HBB
                  go_wp2_with fail
                  go_meet
                  exact ⟨by first | rfl | (simp; omega), rfl⟩
              · obtain rfl : bb = false := by rw [← HBB.out]; exact decide_eq_false (by omega)
                clear HBB
                go_wp2_with fail
                go_meet
                exact ⟨by first | rfl | (simp; omega), rfl⟩
            · by_cases h2 : 1 ≤ x
              · by_cases h3 : x ≤ 4
                · obtain rfl : bb = true := by rw [← HBB.out]; exact decide_eq_true (by have := H01.out; omega)
                  clear HBB
                  go_wp2_with fail
                  go_meet
                  exact ⟨by first | rfl | (simp; omega), rfl⟩
                · obtain rfl : bb = false := by rw [← HBB.out]; exact decide_eq_false (by omega)
                  clear HBB
                  go_wp2_with fail
                  go_meet
                  exact ⟨by first | rfl | (simp; omega), rfl⟩
              · obtain rfl : bb = false := by rw [← HBB.out]; exact decide_eq_false (by omega)
                clear HBB
                go_wp2_with fail
                go_meet
                exact ⟨by first | rfl | (simp; omega), rfl⟩
            · have i0b : (n != 0) = true := by simpa using i0
              have i1b : (n != 1) = true := by simpa using i1
              obtain rfl : bb = false := by rw [← HBB.out]; exact decide_eq_false (by omega)
              clear i0 i1
              clear HBB
              go_wp2_with fail
              go_meet
              exact ⟨by first | rfl | (simp; omega), rfl⟩
        case rest =>
        obtain ⟨rfl, hwc⟩ := hcut
        have hwc' := hwc.symm
        clear hwc
        subst hwc'
        cases bb
        · have hau := HST.out 1 (wrN_of1 HEV.out) (by decide)
          have HF := hidA (HQ.out k 1 W1 hau HB1.out)
          go_wp2_with fail
          exact HF.out
        · go_upto_region 10 with fail
          obtain ⟨dd, hdd⟩ : ∃ dd, decide (p.time < s.1) = dd := ⟨_, rfl⟩
          have HDD := hidA hdd
          clear hdd
          go_cut [59] from 11 to 115 (fun v59 wx => v59 = .bool dd ∧ Hid (Below W1.heap.size W1 wx))
          case first =>
            rcases Nat.eq_zero_or_pos k with hk0 | hk0
            · subst hk0
              obtain rfl : dd = false := by
                rw [← HDD.out, ← HS.out]
                have := wrN_what (e := p) (now := 0) (m := 0)
                have h1 := HEV.out
                unfold evB at h1
                have h2 := of_decide_eq_true h1
                exact decide_eq_false (by simp [stA_zero]; omega)
              go_big_quiet (fail)
              go_wp2_with fail
              go_meet
              exact ⟨rfl, _root_.Go.below_drewN (Below.refl _ _) _⟩
            · obtain ⟨j, hj⟩ : ∃ j, k = j + 1 := ⟨k - 1, by omega⟩
              have hjl : j < es.length := by rw [HN.out]; omega
              obtain ⟨r0, _⟩ := (HV.out.below HB1.out).cells j hjl
              have hs1 : s.1 = es[j].time := by
                have h1 := HS.out
                subst hj
                rw [← h1, stA_succ hjl]; rfl
              rw [← hs1] at r0
              have hgt : decide ((0 : Int) < (k : Int)) = true := decide_eq_true (by omega)
              have hgt2 : decide (0 < k) = true := decide_eq_true (by omega)
              have hw1 : wrap64 ((k : Int) - 1) = (j : Int) := by have := HLN.out; unfold wrap64; omega
              have hjN : (j : Int) < (N : Int) := by omega
              have hjN' : j < N := by omega
              obtain ⟨x, hx⟩ : ∃ x, s.1 = x := ⟨_, rfl⟩
              have HX := hidA hx
              rw [hx] at r0
              have hdd := HDD.out
              rw [hx] at hdd
              clear hs1 hj hk0 hx HDD
              go_big_quiet (fail)
              go_wp2_with fail
              go_meet
              exact ⟨by first | rfl | (rw [hdd]), _root_.Go.below_drewN (Below.refl _ _) _⟩
          case rest =>
          obtain ⟨rfl, HB2'⟩ := hcut
          obtain ⟨W3, hW3⟩ : ∃ X, X = wc := ⟨_, rfl⟩
          subst hW3
          have HB2 := hidA (HB1.out.trans (HB2'.out.mono HB1.out.size))
          have HN2 := hidA (HN1.out.below HN1.out.lt HB2'.out)
          clear HB2' c0 c1' c2'
          cases dd
          · have H6 := hidA (show ¬ p.time < s.1 from of_decide_eq_false HDD.out)
            have hlk : (es.take k).length = k := by rw [List.length_take]; omega
            have hma := master_any (es.take k) _ W3 (by rw [hlk]; have := HL.out; omega) ((HV.out.below HB2.out).take k (by omega))
            rw [hlk, stA_take es k k (Nat.le_refl _), HS.out] at hma
            have hkc : k ≤ co := by omega
            obtain ⟨m, hm⟩ : ∃ m, s.2 = m := ⟨_, rfl⟩
            have HMM := hidA hm
            rw [hm] at hma HM
            clear hlk hm
            go_upto_region 13 with (go_at_call 33; go_must ((with_reducible refine hma.mono ?_); rintro e W4 ⟨rfl, b4⟩; have HB4 := hidA (HB2.out.trans (b4.mono HB2.out.size)); have HN4 := hidA (HN2.out.below HN2.out.lt b4); clear b4 hma))
            obtain ⟨e0, e1, e2, e3, e4, e5, e6, e7⟩ := HN4.out.cells
            obtain ⟨bs, hbs⟩ : ∃ bs, suB p m = bs := ⟨_, rfl⟩
            have HBS := hidA hbs
            clear hbs
            go_cut [106] from 11 to 115 (fun v106 wx => v106 = .bool (!bs) ∧ wx = W4)
            case first =>
              have hq := Tryd.keyNeqU p.key
              have hsu := HBS.out
              have hev := of_decide_eq_true (show decide _ = true from HEV.out)
              clear HBS HEV
              unfold suB at hsu
              obtain ⟨t, n, x, ky⟩ := p
              simp only at e0 e1 e2 e3 e4 e5 e6 e7 hq hsu hev
              generalize keyZ ky = z at hq hsu
              obtain ⟨_, _, _, hx1, hx4⟩ := hev
              have HSU2 := hidA hsu
              clear hsu
              rcases (by omega : n = m ∨ ¬ n = m) with hnm | hnm
              · subst hnm
                have hmm : (n == n) = true := by simp
                have hmm' : (n != n) = false := by simp
                rcases (by omega : x = 1 ∨ x = 2 ∨ x = 3 ∨ x = 4) with rfl | rfl | rfl | rfl
                · obtain rfl : bs = true := by rw [← HSU2.out]; simp
                  go_wp2_with fail
                  go_meet
                  exact ⟨by first | rfl | simp, rfl⟩
                · obtain rfl : bs = true := by rw [← HSU2.out]; simp
                  go_wp2_with fail
                  go_meet
                  exact ⟨by first | rfl | simp, rfl⟩
                · obtain rfl : bs = false := by rw [← HSU2.out]; simp
                  clear HSU2
                  cases z
                  · go_wp2_with fail
                    go_meet
                    exact ⟨by first | rfl | simp, rfl⟩
                  · go_wp2_with fail
                    go_meet
                    exact ⟨by first | rfl | simp, rfl⟩
                · obtain rfl : bs = z := by rw [← HSU2.out]; simp
                  clear HSU2
                  cases bs
                  · go_wp2_with fail
                    go_meet
                    exact ⟨by first | rfl | simp, rfl⟩
                  · go_wp2_with fail
                    go_meet
                    exact ⟨by first | rfl | simp, rfl⟩
              · have hmm : (m == n) = false := by simp; omega
                have hmm' : (m != n) = true := by simp; omega
                rcases (by omega : x = 1 ∨ x = 2 ∨ x = 3 ∨ x = 4) with rfl | rfl | rfl | rfl
                · obtain rfl : bs = false := by rw [← HSU2.out]; simp [hnm]
                  clear hnm
                  go_wp2_with fail
                  go_meet
                  exact ⟨by first | rfl | simp, rfl⟩
                · obtain rfl : bs = true := by rw [← HSU2.out]; simp
                  clear hnm
                  go_wp2_with fail
                  go_meet
                  exact ⟨by first | rfl | simp, rfl⟩
                · obtain rfl : bs = z := by rw [← HSU2.out]; simp [hnm]
                  clear HSU2 hnm
                  cases bs
                  · go_wp2_with fail
                    go_meet
                    exact ⟨by first | rfl | simp, rfl⟩
                  · go_wp2_with fail
                    go_meet
                    exact ⟨by first | rfl | simp, rfl⟩
                · obtain rfl : bs = false := by rw [← HSU2.out]; simp [hnm]
                  clear HSU2 hnm
                  cases z
                  · go_wp2_with fail
                    go_meet
                    exact ⟨by first | rfl | simp, rfl⟩
                  · go_wp2_with fail
                    go_meet
                    exact ⟨by first | rfl | simp, rfl⟩
            case rest =>
            obtain ⟨rfl, hwc⟩ := hcut
            have hwc' := hwc.symm
            clear hwc
            subst hwc'
            cases bs
            · have hau := HST.out 3 (wrN_of3 HEV.out (show ¬ p.time < s.1 by have := H6.out; omega) (by rw [HMM.out]; exact HBS.out)) (by decide)
              have HF := hidA (HQ.out k 3 W4 hau HB4.out)
              clear e0 e1 e2 e3 e4 e5 e6 e7
              go_wp2_with fail
              exact HF.out
            · obtain ⟨x, hx⟩ : ∃ x, p.what = x := ⟨_, rfl⟩
              have HX := hidA hx
              rw [hx] at e2
              clear hx e0 e1 e3 e4 e5 e6 e7
              by_cases h7 : x = 3 ∧ m ≠ -1
              · obtain ⟨rfl, hm1⟩ := h7
                have hau := HST.out 7 (wrN_of7 HEV.out (show ¬ p.time < s.1 by have := H6.out; omega) (by rw [HMM.out]; exact HBS.out) ⟨HX.out, by rw [HMM.out]; exact hm1⟩) (by decide)
                have HF := hidA (HQ.out k 7 W4 hau HB4.out)
                have hm0 : (0 : Int) ≤ m := by have := HM.out; omega
                clear hm1 hau
                go_wp2_with fail
                exact HF.out
              · have hok := HSU.out (wrN_of0 HEV.out (show ¬ p.time < s.1 by have := H6.out; omega) (by rw [HMM.out]; exact HBS.out) (by rw [HX.out, HMM.out]; exact h7))
                have HOK := hidA hok
                clear hok
                have hN1 := HLN.out
                by_cases hx3 : x = 3
                · subst hx3
                  have hm0 : ¬ (0 : Int) ≤ m := by have : m = -1 := Decidable.byContradiction fun h => h7 ⟨rfl, h⟩; omega
                  clear h7
                  go_wp2_with fail
                  go_roundw
                  case rel => exact ⟨k + 1, by omega, by go_num, HOK.out, HB4.out⟩
                  case measure => simp [intOf]; omega
                · have hx3b : (x == 3) = false := by simpa using hx3
                  clear h7 hx3
                  go_wp2_with fail
                  go_roundw
                  case rel => exact ⟨k + 1, by omega, by go_num, HOK.out, HB4.out⟩
                  case measure => simp [intOf]; omega
          · have hau := HST.out 6 (wrN_of6 HEV.out (of_decide_eq_true HDD.out)) (by decide)
            have HF := hidA (HQ.out k 6 W3 hau HB2.out)
            go_wp2_with fail
            exact HF.out
      · have hlt' : ¬ (k : Int) < (N : Int) := by omega
        obtain rfl : k = N := by omega
        have hau := audR_good (by rw [HN.out]; exact HL.out) (by rw [HN.out]; exact HG.out)
        have HF := hidA (HQ.out 0 0 wr hau HB.out)
        clear hau hlt
        go_wp2_with fail
        exact HF.out
end Go.Proofs.YtfgaalhaeadhmaaDoor
