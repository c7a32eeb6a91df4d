/- RuleLines: the law's walk. Conditions: a text of at most 1048576 bytes; the library's variables and the words of package rule lie as listed. -/
import Derived.Test.YtlpgppjdmjcooaaGreatDoorRuleBk0
import Derived.Test.YtlpgppjdmjcooaaGreatDoorRulePa2
import Derived.Test.YtlpgppjdmjcooaaGreatDoorRulePr
import Derived.Test.YtlpgppjdmjcooaaGreatDoorMgL
import Derived.Test.YtlpgppjdmjcooaaGreatDoorMgL
import Derived.Deep.DeepMust
namespace Go.Proofs.YtlpgppjdmjcooaaGreatDoor
open Go.RowKit
set_option linter.unusedVariables false
set_option maxRecDepth 10000

theorem parS_le (ls : List (List UInt8)) : ∀ (acc : List Rl), acc.length ≤ 20 → (parS acc ls).2.1 ≤ 20 := by
  induction ls with
  | nil => intro acc _; rw [parS_end]; exact Nat.zero_le _
  | cons x ls ih =>
    intro acc h
    by_cases h0 : lineE acc.length x = 0
    · rw [parS, if_pos h0]
      refine ih _ ?_
      have hn : acc.length ≠ 20 := fun e => by
        unfold lineE at h0
        rw [e] at h0
        split at h0
        · cases h0
        · rw [if_pos rfl] at h0; cases h0
      rw [List.length_append, List.length_singleton]
      omega
    · rw [parS_bad h0]; exact h
theorem lns_two {A B : List Rl} (hA : ∀ r ∈ A, ruE r = 0) (hB : ∀ r ∈ B, ruE r = 0) : lnsL (linesL A ++ linesL B) = ((A ++ B).map fun r => lineL r ++ [10]) ++ [] := by
  rw [lnsL_lines (fun r hr => writ_of (hA r hr))]
  have := lnsL_lines (t := []) (rs := B) (fun r hr => writ_of (hB r hr))
  rw [List.append_nil] at this
  rw [this, lnsL_nil, List.append_nil, List.append_nil, List.map_append]
theorem PtsO.below {w w' : World} {b : Nat} {rs : List Rx} (h : PtsO w b rs) (hb : Below w.heap.size w w') : PtsO w' b rs := fun x hx => ⟨(h x hx).1.below hb, (h x hx).2.1.below hb, (h x hx).2.2⟩
theorem parse_full {A B : List Rl} (hA : rusE A = 0) (hB : rusE B = 0) (hn : 20 < A.length + B.length) (w : World) (htx : TxE w) (hwd : Wrds w) :
    Calls Tryz.prog 5 #[.string (mkB (linesL A) ++ mkB (linesL B))] w fun e w' => ∃ a n c, e = .returned (.tuple #[.slice a n c, .int .i64 20, .iface 51 (.int .i64 4)]) ∧ Below w.heap.size w w' := by
  obtain ⟨a1, a2⟩ := rusE_zero.1 hA
  obtain ⟨b1, b2⟩ := rusE_zero.1 hB
  obtain ⟨s1, s2⟩ := lines_short (t := linesL B) a2 a1 (lines_short0 b2 b1)
  have e : parS [] (lnsL (linesL A ++ linesL B)) = ([], 20, 4) := by
    rw [lns_two a2 b2]
    exact parS_full _ _ (fun r hr => (List.mem_append.1 hr).elim (a2 r) (b2 r)) (by simp) (by simp only [List.length_nil, List.length_append]; omega)
  rw [mkB_append]
  refine (ruParse_any _ w s1 s2 htx hwd).mono ?_
  rintro e' w' ⟨rs, v, h1, rfl, h3, h4, h5⟩
  rw [e]
  obtain ⟨a, n, c, rfl⟩ := h3.is
  exact ⟨a, n, c, rfl, h5⟩
theorem parse_both {A B : List Rl} (hA : rusE A = 0) (hB : rusE B = 0) (hn : A.length + B.length ≤ 20) (w : World) (htx : TxE w) (hwd : Wrds w) :
    Calls Tryz.prog 5 #[.string (mkB (linesL A) ++ mkB (linesL B))] w fun e w' => ∃ rs a n c, e = .returned (.tuple #[.slice a n c, .int .i64 0, .nilIface]) ∧ rs.map Prod.fst = A ++ B ∧ Rls w' (.slice a n c) rs ∧ Below w.heap.size w w' := by
  obtain ⟨a1, a2⟩ := rusE_zero.1 hA
  obtain ⟨b1, b2⟩ := rusE_zero.1 hB
  obtain ⟨s1, s2⟩ := lines_short (t := linesL B) a2 a1 (lines_short0 b2 b1)
  have e : parS [] (lnsL (linesL A ++ linesL B)) = (A ++ B, 0, 0) := by
    rw [lns_two a2 b2, parS_lines _ _ (fun r hr => (List.mem_append.1 hr).elim (a2 r) (b2 r)) (by simp only [List.length_nil, List.length_append]; omega), List.nil_append, parS_end]
  rw [mkB_append]
  refine (ruParse_any _ w s1 s2 htx hwd).mono ?_
  rintro e' w' ⟨rs, v, h1, rfl, h3, h4, h5⟩
  rw [e] at h1 ⊢
  obtain ⟨a, n, c, rfl⟩ := h3.is
  exact ⟨rs, a, n, c, rfl, h1, h3.rls h4.pts, h5⟩
theorem parse_text {T : List UInt8} (hT : T.length ≤ 1048576) (w : World) (htx : TxE w) (hwd : Wrds w) :
    Calls Tryz.prog 5 #[.string (mkB T)] w fun e w' => ∃ a n c, e = .returned (.tuple #[.slice a n c, .int .i64 ((parS [] (lnsL T)).2.1 : Int), erV (parS [] (lnsL T)).2.2]) ∧ Below w.heap.size w w' := by
  refine (ruParse_any _ w (by omega) (fun x hx => Nat.le_trans (lnsL_len hx) hT) htx hwd).mono ?_
  rintro e' w' ⟨rs, v, h1, rfl, h3, h4, h5⟩
  obtain ⟨a, n, c, rfl⟩ := h3.is
  exact ⟨a, n, c, rfl, h5⟩
theorem parse_behind {A : List Rl} {T : List UInt8} {m : Nat} (hA : rusE A = 0) (hT : T.length ≤ 1048576) (hm : (parS [] (lnsL T)).2.1 = m) (hz : (parS [] (lnsL T)).2.2 ≠ 0) (h20 : A.length + m < 20) (w : World) (htx : TxE w) (hwd : Wrds w) :
    Calls Tryz.prog 5 #[.string (mkB (linesL A) ++ mkB T)] w fun e w' => ∃ a n c z, e = .returned (.tuple #[.slice a n c, .int .i64 ((A.length : Int) + (m : Int)), .iface 51 (.int .i64 z)]) ∧ Below w.heap.size w w' := by
  obtain ⟨a1, a2⟩ := rusE_zero.1 hA
  obtain ⟨s1, s2⟩ := lines_short (t := T) a2 a1 hT
  have e : parS [] (lnsL (linesL A ++ T)) = parS A (lnsL T) := by
    rw [lnsL_lines (fun r hr => writ_of (a2 r hr)), parS_lines _ _ a2 (by simpa using a1), List.nil_append]
  obtain ⟨f1, f2⟩ := parS_shift (lnsL T) [] A A.length (by simp) hz (by rw [hm]; exact h20)
  rw [mkB_append]
  refine (ruParse_any _ w s1 s2 htx hwd).mono ?_
  rintro e' w' ⟨rs, v, h1, rfl, h3, h4, h5⟩
  obtain ⟨a, n, c, rfl⟩ := h3.is
  refine ⟨a, n, c, (parS A (lnsL T)).2.2, ?_, h5⟩
  rw [e, f2, hm, erV_ne f1]
  simp
set_option maxHeartbeats 16000000 in
theorem lines_walk (va : Value) (al : List Rx) (vb : Value) (bl : List Rx) (s : ByteArray) (w : World) (ha : Rls w va al) (hb : Rls w vb bl) (hs : s.size ≤ 1048576) (hL : ErrLaid w) (htx : TxE w) (hwd : Wrds w) :
    Calls Tryz.prog 3 #[va, vb, .string s] w fun e w' => e = .returned (.bool true) ∧ Below w.heap.size w w' := by
  obtain ⟨ao, co, hve⟩ := ha.len
  obtain ⟨N, hN⟩ : ∃ N, al.length = N := ⟨_, rfl⟩
  rw [hN] at hve
  subst hve
  obtain ⟨bo, ko, hvb⟩ := hb.len
  obtain ⟨M, hM⟩ : ∃ M, bl.length = M := ⟨_, rfl⟩
  rw [hM] at hvb
  subst hvb
  obtain ⟨T, hT⟩ : ∃ T, s = mkB T := ⟨s.data.toList, (mkB_data s).symm⟩
  have HT := hidE hT
  have hs1 : s.size ≤ 1048576 := hs
  rw [hT, mkB_size] at hs
  obtain ⟨Q, hQ⟩ : ∃ Q : Ending → World → Prop, Q = fun e w' => e = .returned (.bool true) ∧ Below w.heap.size w w' := ⟨_, rfl⟩
  have HQ : Hid (∀ w', Below w.heap.size w w' → Q (.returned (.bool true)) w') := by rw [hQ]; exact fun _ h => ⟨rfl, h⟩
  rw [← hQ]
  clear hQ
  obtain ⟨A, hA⟩ : ∃ A, al.map Prod.fst = A := ⟨_, rfl⟩
  obtain ⟨B, hB⟩ : ∃ B, bl.map Prod.fst = B := ⟨_, rfl⟩
  have HAN := hidE (show A.length = N by rw [← hA, List.length_map]; exact hN)
  have HBM := hidE (show B.length = M by rw [← hB, List.length_map]; exact hM)
  have HAS := hidE ha
  have HBS := hidE hb
  have HS := hidE hs
  have HL := hidE hL
  have HTX := hidE htx
  have HWD := hidE hwd
  have HA := hidE hA
  have HB := hidE hB
  have HN := hidE hN
  have HM := hidE hM
  have p1 := ruPrint_any _ al w ha htx hwd
  have p2 := fun W (hW : Below w.heap.size w W) => ruPrint_any _ bl W (hb.below hW) (htx.below hW) (hwd.below hW)
  rw [hA] at p1
  rw [hB] at p2
  clear ha hb hs hL htx hwd hA hB hN hM hT
  by_cases e1 : rusE A = 0
  case neg =>
    rw [erV_ne e1, if_neg e1] at p1
    generalize rusE A = z at p1
    clear e1
    go_enter Tryz.func3, Tryz.ntmps3
    go_upto_region 2 with (go_at_call 4; go_must (refine p1.mono ?_; rintro e w1 ⟨rfl, b1⟩))
    have p3 := p2 w1 b1
    generalize erV (rusE B) = y at p3
    generalize mkB (if rusE B = 0 then linesL B else []) = u at p3
    clear p1 p2
    have HB1 := hidE b1
    clear b1
    go_wp2_with (go_at_call 4; go_must (refine p3.mono ?_; rintro e w2 ⟨rfl, b2⟩))
    exact HQ.out _ (HB1.out.trans (b2.mono HB1.out.size))
  rw [e1, if_pos rfl, show erV 0 = .nilIface from rfl] at p1
  have HE1 := hidE e1
  have hN20 : N ≤ 20 := by have := (rusE_zero.1 e1).1; have := HAN.out; omega
  obtain ⟨LA, hLA⟩ : ∃ LA, mkB (linesL A) = LA := ⟨_, rfl⟩
  have hzA : LA.size ≤ 1048576 := by
    have h20 := rusE_zero.1 e1
    rw [← hLA, mkB_size]; exact lines_short0 h20.2 h20.1
  rw [hLA] at p1
  have HLA := hidE hLA
  clear e1 hLA
  go_enter Tryz.func3, Tryz.ntmps3
  go_upto_region 2 with (go_at_call 4; go_must (refine p1.mono ?_; rintro e w1 ⟨rfl, b1⟩))
  have p3 := p2 w1 b1
  have HB1 := hidE b1
  clear p1 p2 b1
  by_cases e2 : rusE B = 0
  case neg =>
    rw [erV_ne e2, if_neg e2] at p3
    generalize rusE B = z at p3
    clear e2
    go_wp2_with (go_at_call 4; go_must (refine p3.mono ?_; rintro e w2 ⟨rfl, b2⟩))
    exact HQ.out _ (HB1.out.trans (b2.mono HB1.out.size))
  rw [e2, if_pos rfl, show erV 0 = .nilIface from rfl] at p3
  have HE2 := hidE e2
  have hM20 : M ≤ 20 := by have := (rusE_zero.1 e2).1; have := HBM.out; omega
  obtain ⟨LB, hLB⟩ : ∃ LB, mkB (linesL B) = LB := ⟨_, rfl⟩
  have hzB : LB.size ≤ 1048576 := by
    have h20 := rusE_zero.1 e2
    rw [← hLB, mkB_size]; exact lines_short0 h20.2 h20.1
  rw [hLB] at p3
  have HLB := hidE hLB
  clear e2 hLB
  go_upto_region 5 with (go_at_call 4; go_must (refine p3.mono ?_; rintro e w2 ⟨rfl, b2⟩))
  have HB2 := hidE (HB1.out.trans (b2.mono HB1.out.size))
  clear p3 b2 HB1
  by_cases hn : 20 < N + M
  case pos =>
    have q1 := parse_full HE1.out HE2.out (by have := HAN.out; have := HBM.out; omega) w2 (HTX.out.below HB2.out) (HWD.out.below HB2.out)
    rw [HLA.out, HLB.out] at q1
    have i1 : (N : Int) + (M : Int) > 20 := by omega
    clear hn
    go_upto_region 6 with (go_at_call 5; go_must (refine q1.mono ?_; rintro e w3 ⟨a3, n3, c3, rfl, b3⟩))
    have HB3 := hidE (HB2.out.trans (b3.mono HB2.out.size))
    have q2 := error_val (v := .iface 51 (.int .i64 4)) (k := 4) (.inr rfl) 4 w3 (HL.out.below HB3.out)
    rw [show ((4 : Int) == 4) = true from rfl] at q2
    clear q1 b3 HB2
    go_wp2_with (go_at_call 6; go_must (refine q2.mono ?_; rintro e w4 ⟨rfl, b4⟩))
    exact HQ.out _ (HB3.out.trans (b4.mono HB3.out.size))
  have q1 := parse_both HE1.out HE2.out (by have := HAN.out; have := HBM.out; omega) w2 (HTX.out.below HB2.out) (HWD.out.below HB2.out)
  rw [HLA.out, HLB.out] at q1
  have i1 : ¬ (N : Int) + (M : Int) > 20 := by omega
  clear hn
  go_upto_region 6 with (go_at_call 5; go_must (refine q1.mono ?_; rintro e w3 ⟨rs, a3, n3, c3, rfl, hrs, rl3, b3⟩))
  have HRS := hidE hrs
  have HR3 := hidE rl3
  have HB3 := hidE (HB2.out.trans (b3.mono HB2.out.size))
  have hv3 := HAS.out.below HB3.out
  have hln : ([] : List Rx).length + al.length ≤ 1000000 := by have := HN.out; simp; omega
  clear q1 b3 HB2 hrs rl3
  go_upto_region 11 with (at_builtin; go_must (refine wpList_append_rls rfl (.tmp 60) (.tmp 61) rfl w3.heap.size (.slice none 0 0) [] rfl (OwnRl.nil _ _) (.slice ao N co) al rfl hv3 hln (Nat.le_refl _) ?_; intro v4 w4 own4 gr4 lie4))
  have G4 : Below w3.heap.size w3 w4 := grown_below gr4 (Nat.le_refl _) (fun k hk => by simp [Value.ownBlock] at hk)
  rw [List.nil_append] at own4
  have HB4 := hidE (HB3.out.trans (G4.mono HB3.out.size))
  have HG4 := hidE G4
  have HO4 := hidE own4
  have hv4 := HBS.out.below HB4.out
  have hln2 : al.length + bl.length ≤ 1000000 := by have := HN.out; have := HM.out; omega
  have hs4 : w3.heap.size ≤ w4.heap.size := G4.size
  clear hv3 hln gr4 lie4 G4
  go_upto_region 12 with (at_builtin; go_must (refine wpList_append_rls rfl (.tmp 63) (.tmp 64) rfl w3.heap.size v4 al rfl own4 (.slice bo M ko) bl rfl hv4 hln2 hs4 ?_; intro v5 w5 own5 gr5 lie5))
  have G5 : Below w3.heap.size w3 w5 := HG4.out.trans (grown_below gr5 hs4 (fun k hk => (HO4.out.block k hk).1))
  have HB5 := hidE (HB3.out.trans (G5.mono HB3.out.size))
  have sm := sameRls (.slice a3 n3 c3) v5 rs (al ++ bl) w5 (HR3.out.below G5) (own5.rls (((HAS.out.below HB5.out).pts).append ((HBS.out.below HB5.out).pts))) (by rw [List.map_append, HA.out, HB.out]; exact HRS.out)
  clear own4 hv4 hln2 hs4 own5 gr5 lie5 G5 HO4 HG4 HB4 HR3 HRS
  go_upto_region 15 with (go_at_call 7; go_must (refine sm.mono ?_; rintro e w6 ⟨rfl, b6⟩))
  have HB6 := hidE (HB5.out.trans (b6.mono HB5.out.size))
  clear sm b6 HB5 HB3
  have q2 := parse_text HS.out w6 (HTX.out.below HB6.out) (HWD.out.below HB6.out)
  rw [← HT.out] at q2
  obtain ⟨m, hm⟩ : ∃ m, (parS [] (lnsL T)).2.1 = m := ⟨_, rfl⟩
  have hm20 : m ≤ 20 := by rw [← hm]; exact parS_le _ _ (by simp)
  rw [hm] at q2
  have HMM := hidE hm
  clear hm
  by_cases hz : (parS [] (lnsL T)).2.2 = 0
  case pos =>
    rw [hz, show erV 0 = .nilIface from rfl] at q2
    clear hz
    go_wp2_with (go_at_call 5; go_must (refine q2.mono ?_; rintro e w7 ⟨a7, n7, c7, rfl, b7⟩))
    exact HQ.out _ (HB6.out.trans (b7.mono HB6.out.size))
  rw [erV_ne hz] at q2
  have HZ := hidE hz
  generalize (parS [] (lnsL T)).2.2 = z at q2
  clear hz
  by_cases h20 : 20 ≤ N + m
  case pos =>
    have i2 : (N : Int) + (m : Int) ≥ 20 := by omega
    clear h20
    go_wp2_with (go_at_call 5; go_must (refine q2.mono ?_; rintro e w7 ⟨a7, n7, c7, rfl, b7⟩))
    exact HQ.out _ (HB6.out.trans (b7.mono HB6.out.size))
  have i2 : ¬ (N : Int) + (m : Int) ≥ 20 := by omega
  have H20 := hidE (show A.length + m < 20 by have := HAN.out; omega)
  clear h20
  go_upto_region 18 with (go_at_call 5; go_must (refine q2.mono ?_; rintro e w7 ⟨a7, n7, c7, rfl, b7⟩))
  have HB7 := hidE (HB6.out.trans (b7.mono HB6.out.size))
  have q3 := parse_behind HE1.out HS.out HMM.out HZ.out H20.out w7 (HTX.out.below HB7.out) (HWD.out.below HB7.out)
  rw [HLA.out, HAN.out, ← HT.out] at q3
  clear q2 b7 HB6
  go_wp2_with (go_at_call 5; go_must (refine q3.mono ?_; rintro e w8 ⟨a8, n8, c8, z8, rfl, b8⟩))
  exact HQ.out _ (HB7.out.trans (b8.mono HB7.out.size))
end Go.Proofs.YtlpgppjdmjcooaaGreatDoor
