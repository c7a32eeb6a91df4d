/- RuleTexts: the law's walk. Conditions: a text of at most 1048576 bytes; the library's variables and the words of package rule lie as listed. -/
import Derived.Test.YthnkjfgiclolaaaGreatDoorMgS
import Derived.Test.YthnkjfgiclolaaaGreatDoorRefShw
import Derived.Test.YthnkjfgiclolaaaGreatDoorRulePr
import Derived.Test.YthnkjfgiclolaaaGreatDoorMgL
import Derived.Test.YthnkjfgiclolaaaGreatDoorMgL
import Derived.Deep.DeepMust
namespace Go.Proofs.YthnkjfgiclolaaaGreatDoor
open Go.RowKit
set_option linter.unusedVariables false
set_option maxRecDepth 10000

theorem firstE_zeroT {l : List Rl} (h : firstE l = 0) : ∀ r ∈ l, ruE r = 0 := by
  induction l with
  | nil => intro r hr; cases hr
  | cons a l ih =>
    rw [firstE] at h
    split at h
    · rename_i h1
      intro r hr
      rcases List.mem_cons.1 hr with rfl | hr
      · exact h1
      · exact ih h r hr
    · rename_i h1; exact absurd h h1
theorem rusE_zeroT {l : List Rl} (h : rusE l = 0) : l.length ≤ 20 ∧ ∀ r ∈ l, ruE r = 0 := by
  unfold rusE at h
  split at h
  · cases h
  · exact ⟨by omega, firstE_zeroT h⟩
theorem erV_valR (n : Int) : ErrVal (erV n) n := by
  by_cases h : n = 0
  · subst h; exact .inl ⟨rfl, rfl⟩
  · rw [erV_ne h]; exact .inr rfl
theorem erV_sameR (n : Int) (w : World) (hg : ErrLaid w) : Calls Tryz.prog 6 #[erV n, .int .i64 n] w fun e w' => e = .returned (.bool true) ∧ Below w.heap.size w w' := by
  refine (error_val (erV_valR n) n w hg).mono ?_
  rintro e w' ⟨rfl, hb⟩
  exact ⟨by rw [beq_self_eq_true], hb⟩
theorem linesL_take {A : List Rl} {k : Nat} (hk : k < A.length) : linesL (A.take (k + 1)) = linesL (A.take k) ++ (lineL A[k] ++ [10]) := by
  rw [List.take_succ_eq_append_getElem hk, linesL_append]
  simp [linesL]
set_option maxHeartbeats 16000000 in
theorem rtexts_walk (v : Value) (rs : List Rx) (s : ByteArray) (w : World) (hv : Rls w v rs) (hs : s.size ≤ 1048576) (hL : ErrLaid w) (htx : TxE w) (hwd : Wrds w) :
    Calls Tryz.prog 3 #[v, .string s] w fun e w' => e = .returned (.bool true) ∧ Below w.heap.size w w' := by
  obtain ⟨ao, co, hve⟩ := hv.len
  obtain ⟨N, hN⟩ : ∃ N, rs.length = N := ⟨_, rfl⟩
  rw [hN] at hve
  subst hve
  obtain ⟨T, hT⟩ : ∃ T, s = mkB T := ⟨s.data.toList, (mkB_data s).symm⟩
  have HT := hidE hT
  rw [hT, mkB_size] at hs
  obtain ⟨Q, hQ⟩ : ∃ Q : Ending → World → Prop, Q = fun e w' => e = .returned (.bool true) ∧ Below w.heap.size w w' := ⟨_, rfl⟩
  have HQ : Hid (∀ w', Below w.heap.size w w' → Q (.returned (.bool true)) w') := by rw [hQ]; exact fun _ h => ⟨rfl, h⟩
  rw [← hQ]
  clear hQ hT
  obtain ⟨A, hA⟩ : ∃ A, rs.map Prod.fst = A := ⟨_, rfl⟩
  have HA := hidE hA
  have HNN := hidE hN
  have HAN := hidE (show A.length = N by rw [← hA, List.length_map]; exact hN)
  have HV := hidE hv
  have HSZ := hidE hs
  have HL := hidE hL
  have HTX := hidE htx
  have HWD := hidE hwd
  have g1 := refRules_any _ rs w hv
  rw [hA] at g1
  obtain ⟨z, hz⟩ : ∃ z, rusE A = z := ⟨_, rfl⟩
  rw [hz] at g1
  have HZ := hidE hz
  clear hv hs hL htx hwd hA hN hz
  go_enter Tryz.func3, Tryz.ntmps3
  go_upto_region 2 with (go_at_call 5; go_must (refine g1.mono ?_; rintro e w1 ⟨rfl, b1⟩))
  have HB1 := hidE b1
  have g2 := rusCheck_any _ rs w1 (HV.out.below b1)
  rw [HA.out, HZ.out] at g2
  have HG3 := hidE (fun (W : World) (b : Below w1.heap.size w1 W) => erV_sameR z W ((HL.out.below HB1.out).below b))
  generalize erV z = ev at g2 HG3
  clear g1 b1
  go_upto_region 3 with (first
    | (go_at_call 7; go_must (refine g2.mono ?_; rintro e w2 ⟨rfl, b2⟩; have g3 := HG3.out w2 b2))
    | (go_at_call 6; go_must (refine g3.mono ?_; rintro e w3 ⟨rfl, b3⟩)))
  have HB3 := hidE ((HB1.out.trans (b2.mono HB1.out.size)).trans (b3.mono (HB1.out.trans (b2.mono HB1.out.size)).size))
  clear g2 g3 b2 b3 HG3 HB1
  by_cases hz0 : z = 0
  case neg =>
    have hze : (z == 0) = false := by rw [beq_eq_false_iff_ne]; exact hz0
    have HTXT := hidE (show mkB (if z = 0 then linesL A else []) = ⟨#[]⟩ by rw [if_neg hz0]; rfl)
    clear hz0
    go_upto_region 5 with fail
    go_loopw [7, 8] (fun x i wr => x = .string ⟨#[]⟩ ∧ i = .int .i64 0 ∧ wr = w3) (fun _ i _ => 0)
    case atStart => exact ⟨rfl, rfl, rfl⟩
    case round =>
      obtain ⟨hx, hi, hw⟩ := hrel
      subst hx hi
      rw [hw]
      clear hw
      obtain ⟨W, hW⟩ : ∃ W, w3 = W := ⟨_, rfl⟩
      have HBW : Hid (Below w.heap.size w W) := by rw [← hW]; exact HB3
      rw [hW]
      clear hW HB3
      by_cases hN0 : (0 : Int) < (N : Int)
      · have p1 := ruPrint_any _ rs W (HV.out.below HBW.out) (HTX.out.below HBW.out) (HWD.out.below HBW.out)
        rw [HA.out, HZ.out, HTXT.out] at p1
        have HP2 := hidE (fun (W' : World) (b : Below w.heap.size w W') => erV_sameR z W' (HL.out.below b))
        generalize erV z = ev at p1 HP2
        go_upto_region 10 with (go_at_call 9; go_must (refine p1.mono ?_; rintro e w5 ⟨rfl, b5⟩))
        have HB5 := hidE (HBW.out.trans (b5.mono HBW.out.size))
        have p2 := HP2.out w5 HB5.out
        clear p1 b5 HP2 HBW
        go_upto_region 11 with (go_at_call 6; go_must (refine p2.mono ?_; rintro e w6 ⟨rfl, b6⟩))
        have HB6 := hidE (HB5.out.trans (b6.mono HB5.out.size))
        clear p2 b6 HB5
        obtain ⟨m, hm⟩ : ∃ m, (parS [] (lnsL T)).2.1 = m := ⟨_, rfl⟩
        obtain ⟨y, hy⟩ : ∃ y, (parS [] (lnsL T)).2.2 = y := ⟨_, rfl⟩
        obtain ⟨LL, hLL⟩ : ∃ l, (parS [] (lnsL T)).1 = l := ⟨_, rfl⟩
        have p3 : Calls Tryz.prog 10 #[.string s] w6 fun e w' => ∃ rs7 a7 n7 c7, e = .returned (.tuple #[.slice a7 n7 c7, .int .i64 (m : Int), .int .i64 y]) ∧ Hid (rs7.map Prod.fst = LL ∧ Rls w' (.slice a7 n7 c7) rs7) ∧ Below w6.heap.size w6 w' := by
          rw [HT.out]
          refine (refReadRs_any T w6 HSZ.out).mono ?_
          rintro e w' ⟨rs7, v7, h1, rfl, h3, h4, h5⟩
          obtain ⟨a, n, c, rfl⟩ := h3.is
          rw [hm, hy]
          exact ⟨rs7, a, n, c, rfl, ⟨h1.trans hLL, h3.rls h4.pts⟩, h5⟩
        have p4 : ∀ W, Below w.heap.size w W → Calls Tryz.prog 11 #[.string s] W fun e w' => ∃ rs8 a8 n8 c8, e = .returned (.tuple #[.slice a8 n8 c8, .int .i64 (m : Int), erV y]) ∧ Hid (rs8.map Prod.fst = LL ∧ Rls w' (.slice a8 n8 c8) rs8) ∧ Below W.heap.size W w' := by
          intro W hW
          rw [HT.out]
          refine (ruParse_any T W (by have := HSZ.out; omega) (fun x hx => Nat.le_trans (lnsL_len hx) HSZ.out) (HTX.out.below hW) (HWD.out.below hW)).mono ?_
          rintro e w' ⟨rs7, v7, h1, rfl, h3, h4, h5⟩
          obtain ⟨a, n, c, rfl⟩ := h3.is
          rw [hm, hy]
          exact ⟨rs7, a, n, c, rfl, ⟨h1.trans hLL, h3.rls h4.pts⟩, h5⟩
        have HP4 := hidE p4
        have HP5 := hidE (fun (W' : World) (b : Below w.heap.size w W') => erV_sameR y W' (HL.out.below b))
        clear p4 hm hy hLL
        generalize erV y = ey at HP4 HP5
        go_upto_region 12 with (go_at_call 10; go_must (refine p3.mono ?_; rintro e w7 ⟨rs7, a7, n7, c7, rfl, H7, b7⟩))
        have HB7 := hidE (HB6.out.trans (b7.mono HB6.out.size))
        have p4 := HP4.out w7 HB7.out
        clear p3 b7 HP4 HB6
        go_upto_region 13 with (go_at_call 11; go_must (refine p4.mono ?_; rintro e w8 ⟨rs8, a8, n8, c8, rfl, H8, b8⟩))
        have HB8 := hidE (HB7.out.trans (b8.mono HB7.out.size))
        have H78 := hidE (H7.out.2.below b8)
        have p5 := HP5.out w8 HB8.out
        clear p4 b8 HP5 HB7
        go_upto_region 14 with (go_at_call 6; go_must (refine p5.mono ?_; rintro e w9 ⟨rfl, b9⟩))
        have HB9 := hidE (HB8.out.trans (b9.mono HB8.out.size))
        have p6 := sameRls (.slice a8 n8 c8) (.slice a7 n7 c7) rs8 rs7 w9 (H8.out.2.below b9) (H78.out.below b9) (H8.out.1.trans H7.out.1.symm)
        clear p5 b9 HB8 H7 H8 H78
        go_wp2_with (go_at_call 12; go_must (refine p6.mono ?_; rintro e w10 ⟨rfl, b10⟩))
        exact HQ.out _ (HB9.out.trans (b10.mono HB9.out.size))
      · have p1 := ruPrint_any _ rs W (HV.out.below HBW.out) (HTX.out.below HBW.out) (HWD.out.below HBW.out)
        rw [HA.out, HZ.out, HTXT.out] at p1
        have HP2 := hidE (fun (W' : World) (b : Below w.heap.size w W') => erV_sameR z W' (HL.out.below b))
        generalize erV z = ev at p1 HP2
        go_upto_region 10 with (go_at_call 9; go_must (refine p1.mono ?_; rintro e w5 ⟨rfl, b5⟩))
        have HB5 := hidE (HBW.out.trans (b5.mono HBW.out.size))
        have p2 := HP2.out w5 HB5.out
        clear p1 b5 HP2 HBW
        go_upto_region 11 with (go_at_call 6; go_must (refine p2.mono ?_; rintro e w6 ⟨rfl, b6⟩))
        have HB6 := hidE (HB5.out.trans (b6.mono HB5.out.size))
        clear p2 b6 HB5
        obtain ⟨m, hm⟩ : ∃ m, (parS [] (lnsL T)).2.1 = m := ⟨_, rfl⟩
        obtain ⟨y, hy⟩ : ∃ y, (parS [] (lnsL T)).2.2 = y := ⟨_, rfl⟩
        obtain ⟨LL, hLL⟩ : ∃ l, (parS [] (lnsL T)).1 = l := ⟨_, rfl⟩
        have p3 : Calls Tryz.prog 10 #[.string s] w6 fun e w' => ∃ rs7 a7 n7 c7, e = .returned (.tuple #[.slice a7 n7 c7, .int .i64 (m : Int), .int .i64 y]) ∧ Hid (rs7.map Prod.fst = LL ∧ Rls w' (.slice a7 n7 c7) rs7) ∧ Below w6.heap.size w6 w' := by
          rw [HT.out]
          refine (refReadRs_any T w6 HSZ.out).mono ?_
          rintro e w' ⟨rs7, v7, h1, rfl, h3, h4, h5⟩
          obtain ⟨a, n, c, rfl⟩ := h3.is
          rw [hm, hy]
          exact ⟨rs7, a, n, c, rfl, ⟨h1.trans hLL, h3.rls h4.pts⟩, h5⟩
        have p4 : ∀ W, Below w.heap.size w W → Calls Tryz.prog 11 #[.string s] W fun e w' => ∃ rs8 a8 n8 c8, e = .returned (.tuple #[.slice a8 n8 c8, .int .i64 (m : Int), erV y]) ∧ Hid (rs8.map Prod.fst = LL ∧ Rls w' (.slice a8 n8 c8) rs8) ∧ Below W.heap.size W w' := by
          intro W hW
          rw [HT.out]
          refine (ruParse_any T W (by have := HSZ.out; omega) (fun x hx => Nat.le_trans (lnsL_len hx) HSZ.out) (HTX.out.below hW) (HWD.out.below hW)).mono ?_
          rintro e w' ⟨rs7, v7, h1, rfl, h3, h4, h5⟩
          obtain ⟨a, n, c, rfl⟩ := h3.is
          rw [hm, hy]
          exact ⟨rs7, a, n, c, rfl, ⟨h1.trans hLL, h3.rls h4.pts⟩, h5⟩
        have HP4 := hidE p4
        have HP5 := hidE (fun (W' : World) (b : Below w.heap.size w W') => erV_sameR y W' (HL.out.below b))
        clear p4 hm hy hLL
        generalize erV y = ey at HP4 HP5
        go_upto_region 12 with (go_at_call 10; go_must (refine p3.mono ?_; rintro e w7 ⟨rs7, a7, n7, c7, rfl, H7, b7⟩))
        have HB7 := hidE (HB6.out.trans (b7.mono HB6.out.size))
        have p4 := HP4.out w7 HB7.out
        clear p3 b7 HP4 HB6
        go_upto_region 13 with (go_at_call 11; go_must (refine p4.mono ?_; rintro e w8 ⟨rs8, a8, n8, c8, rfl, H8, b8⟩))
        have HB8 := hidE (HB7.out.trans (b8.mono HB7.out.size))
        have H78 := hidE (H7.out.2.below b8)
        have p5 := HP5.out w8 HB8.out
        clear p4 b8 HP5 HB7
        go_upto_region 14 with (go_at_call 6; go_must (refine p5.mono ?_; rintro e w9 ⟨rfl, b9⟩))
        have HB9 := hidE (HB8.out.trans (b9.mono HB8.out.size))
        have p6 := sameRls (.slice a8 n8 c8) (.slice a7 n7 c7) rs8 rs7 w9 (H8.out.2.below b9) (H78.out.below b9) (H8.out.1.trans H7.out.1.symm)
        clear p5 b9 HB8 H7 H8 H78
        go_wp2_with (go_at_call 12; go_must (refine p6.mono ?_; rintro e w10 ⟨rfl, b10⟩))
        exact HQ.out _ (HB9.out.trans (b10.mono HB9.out.size))
  have hze : (z == 0) = true := by rw [hz0]; rfl
  have HZ0 := hidE hz0
  obtain ⟨hA20, hAok⟩ := rusE_zeroT (HZ.out.trans hz0)
  clear hz0
  have HOK := hidE hAok
  have hN20 : N ≤ 20 := by have := HAN.out; omega
  clear hAok hA20
  go_upto_region 5 with fail
  go_loopw [7, 8] (fun x i wr => ∃ (k : Nat) (u : ByteArray), k ≤ N ∧ i = .int .i64 (k : Int) ∧ x = .string u ∧ u.size ≤ 1048576 ∧ Hid (u = mkB (linesL (A.take k))) ∧ Hid (Below w.heap.size w wr)) (fun _ i _ => ((N : Int) - intOf i).toNat)
  case atStart => exact ⟨0, ⟨#[]⟩, by omega, rfl, rfl, by decide, by rw [Hid, List.take_zero]; rfl, HB3⟩
  case round =>
    obtain ⟨k, u, hk, hi, hx, hu, HU, HBW⟩ := hrel
    subst hi hx
    by_cases hkn : k < N
    · have j1 : (k : Int) < (N : Int) := by omega
      have j2 : (0 : Int) ≤ (k : Int) := by omega
      have hkl : k < rs.length := by have := HNN.out; omega
      have hkA : k < A.length := by have := HAN.out; omega
      obtain ⟨b1, o1, e1, hb1, hl1, hx1, hc1⟩ := HV.out.shape (by omega)
      subst e1
      have hx1' : co ≤ 9223372036854775807 := by unfold maxLen at hx1; omega
      have hC := (hc1 k hkl).below hb1 HBW.out
      have HE := hidE (show rs[k].1 = A[k] by have := HA.out; subst this; rw [List.getElem_map])
      have HWT := hidE (show Writ rs[k].1 from by rw [HE.out]; exact writ_of (HOK.out _ (List.getElem_mem _)))
      have HLN := hidE (linesL_take hkA)
      rw [← HE.out] at HLN
      have HSH := hidE (lines_short0 (rs := A.take (k + 1)) (fun r hr => HOK.out r (List.mem_of_mem_take hr)) (by rw [List.length_take]; have := HAN.out; omega))
      generalize rs[k].1 = r at hC HWT HLN
      generalize rs[k].2.1 = fv at hC
      generalize rs[k].2.2 = tv at hC
      obtain ⟨af, cf, hfe⟩ := hC.2.1.len
      obtain ⟨at', ct, hte⟩ := hC.2.2.1.len
      have g4 := refShowR_any r fv tv wr hC.2.1 hC.2.2.1 HWT.out
      generalize r.fr.length = nf at hfe
      generalize r.tl.length = nt at hte
      subst hfe hte
      clear hc1 hx1
      obtain ⟨⟨c0, c1, c2, c3, c4, c5, c6, c7, c8, c9, c10⟩, s1, s2, s3, s4⟩ := hC
      clear s1 s2 s3 s4
      unfold rlV at g4
      obtain ⟨lb, hlb⟩ : ∃ b, mkB (lineL r) = b := ⟨_, rfl⟩
      have hlz : lb.size ≤ 20000 := by rw [← hlb, mkB_size]; exact line_short HWT.out
      rw [hlb] at g4
      have HLB := hidE hlb
      clear hlb
      have HNU := hidE (show u ++ lb ++ ⟨#[10]⟩ = mkB (linesL (A.take (k + 1))) by rw [HLN.out, HU.out, ← HLB.out, show (⟨#[10]⟩ : ByteArray) = mkB [10] from rfl, mkB_append, mkB_append, List.append_assoc])
      have hNZ : (u ++ lb ++ ⟨#[10]⟩).size ≤ 1048576 := by rw [HNU.out, mkB_size]; exact HSH.out
      have HNZ := hidE hNZ
      clear hNZ
      go_wp2_with (go_at_call 8; go_must (refine g4.mono ?_; rintro e w4 ⟨rfl, b4⟩))
      go_roundw
      case rel => exact ⟨k + 1, _, by omega, by go_num, rfl, HNZ.out, HNU, HBW.out.trans (b4.mono HBW.out.size)⟩
      case measure => simp [intOf]; omega
    · have j1 : ¬ (k : Int) < (N : Int) := by omega
      obtain rfl : k = N := by omega
      have HTXT := hidE (show mkB (if z = 0 then linesL A else []) = u by rw [if_pos HZ0.out, HU.out, List.take_of_length_le (Nat.le_of_eq HAN.out)])
      obtain ⟨W, hW⟩ : ∃ W, wr = W := ⟨_, rfl⟩
      rw [hW] at HBW ⊢
      clear hW HB3
      have p1 := ruPrint_any _ rs W (HV.out.below HBW.out) (HTX.out.below HBW.out) (HWD.out.below HBW.out)
      rw [HA.out, HZ.out, HTXT.out] at p1
      have HP2 := hidE (fun (W' : World) (b : Below w.heap.size w W') => erV_sameR z W' (HL.out.below b))
      generalize erV z = ev at p1 HP2
      go_upto_region 10 with (go_at_call 9; go_must (refine p1.mono ?_; rintro e w5 ⟨rfl, b5⟩))
      have HB5 := hidE (HBW.out.trans (b5.mono HBW.out.size))
      have p2 := HP2.out w5 HB5.out
      clear p1 b5 HP2 HBW
      go_upto_region 11 with (go_at_call 6; go_must (refine p2.mono ?_; rintro e w6 ⟨rfl, b6⟩))
      have HB6 := hidE (HB5.out.trans (b6.mono HB5.out.size))
      clear p2 b6 HB5
      obtain ⟨m, hm⟩ : ∃ m, (parS [] (lnsL T)).2.1 = m := ⟨_, rfl⟩
      obtain ⟨y, hy⟩ : ∃ y, (parS [] (lnsL T)).2.2 = y := ⟨_, rfl⟩
      obtain ⟨LL, hLL⟩ : ∃ l, (parS [] (lnsL T)).1 = l := ⟨_, rfl⟩
      have p3 : Calls Tryz.prog 10 #[.string s] w6 fun e w' => ∃ rs7 a7 n7 c7, e = .returned (.tuple #[.slice a7 n7 c7, .int .i64 (m : Int), .int .i64 y]) ∧ Hid (rs7.map Prod.fst = LL ∧ Rls w' (.slice a7 n7 c7) rs7) ∧ Below w6.heap.size w6 w' := by
        rw [HT.out]
        refine (refReadRs_any T w6 HSZ.out).mono ?_
        rintro e w' ⟨rs7, v7, h1, rfl, h3, h4, h5⟩
        obtain ⟨a, n, c, rfl⟩ := h3.is
        rw [hm, hy]
        exact ⟨rs7, a, n, c, rfl, ⟨h1.trans hLL, h3.rls h4.pts⟩, h5⟩
      have p4 : ∀ W, Below w.heap.size w W → Calls Tryz.prog 11 #[.string s] W fun e w' => ∃ rs8 a8 n8 c8, e = .returned (.tuple #[.slice a8 n8 c8, .int .i64 (m : Int), erV y]) ∧ Hid (rs8.map Prod.fst = LL ∧ Rls w' (.slice a8 n8 c8) rs8) ∧ Below W.heap.size W w' := by
        intro W hW
        rw [HT.out]
        refine (ruParse_any T W (by have := HSZ.out; omega) (fun x hx => Nat.le_trans (lnsL_len hx) HSZ.out) (HTX.out.below hW) (HWD.out.below hW)).mono ?_
        rintro e w' ⟨rs7, v7, h1, rfl, h3, h4, h5⟩
        obtain ⟨a, n, c, rfl⟩ := h3.is
        rw [hm, hy]
        exact ⟨rs7, a, n, c, rfl, ⟨h1.trans hLL, h3.rls h4.pts⟩, h5⟩
      have HP4 := hidE p4
      have HP5 := hidE (fun (W' : World) (b : Below w.heap.size w W') => erV_sameR y W' (HL.out.below b))
      clear p4 hm hy hLL
      generalize erV y = ey at HP4 HP5
      go_upto_region 12 with (go_at_call 10; go_must (refine p3.mono ?_; rintro e w7 ⟨rs7, a7, n7, c7, rfl, H7, b7⟩))
      have HB7 := hidE (HB6.out.trans (b7.mono HB6.out.size))
      have p4 := HP4.out w7 HB7.out
      clear p3 b7 HP4 HB6
      go_upto_region 13 with (go_at_call 11; go_must (refine p4.mono ?_; rintro e w8 ⟨rs8, a8, n8, c8, rfl, H8, b8⟩))
      have HB8 := hidE (HB7.out.trans (b8.mono HB7.out.size))
      have H78 := hidE (H7.out.2.below b8)
      have p5 := HP5.out w8 HB8.out
      clear p4 b8 HP5 HB7
      go_upto_region 14 with (go_at_call 6; go_must (refine p5.mono ?_; rintro e w9 ⟨rfl, b9⟩))
      have HB9 := hidE (HB8.out.trans (b9.mono HB8.out.size))
      have p6 := sameRls (.slice a8 n8 c8) (.slice a7 n7 c7) rs8 rs7 w9 (H8.out.2.below b9) (H78.out.below b9) (H8.out.1.trans H7.out.1.symm)
      clear p5 b9 HB8 H7 H8 H78
      go_wp2_with (go_at_call 12; go_must (refine p6.mono ?_; rintro e w10 ⟨rfl, b10⟩))
      exact HQ.out _ (HB9.out.trans (b10.mono HB9.out.size))
end Go.Proofs.YthnkjfgiclolaaaGreatDoor
