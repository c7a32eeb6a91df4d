/- What the reference's ReadRules returns (package portref1): what Parse returns. -/
import Derived.Test.YthnkjfgiclolaaaGreatDoorMgR
import Derived.Test.YthnkjfgiclolaaaGreatDoorRefRr
import Derived.Test.YthnkjfgiclolaaaGreatDoorRulePa2
import Derived.Test.YthnkjfgiclolaaaGreatDoorMgN
import Derived.Deep.DeepMust
namespace Go.Proofs.YthnkjfgiclolaaaGreatDoor
open Go.RowKit
set_option linter.unusedVariables false
set_option maxRecDepth 10000

theorem readO_is {x : List UInt8} {r : Rl} (h : readO x = some r) : lineL r ++ [10] = x := by
  unfold readO at h
  split at h
  · rename_i h1
    cases h
    exact h1.2
  · cases h
theorem refR_readO (p : List UInt8) : refR (cutL 32 p) = readO (p ++ [10]) := by
  cases h : refR (cutL 32 p) with
  | some r =>
    obtain ⟨h1, h2⟩ := refR_sound h
    rw [join_cut 32 _ p (Nat.le_refl _)] at h2
    rw [h2, readO_line h1]
  | none =>
    cases h' : readO (p ++ [10]) with
    | none => rfl
    | some r =>
      have e := List.append_cancel_right (readO_is h')
      rw [← e, refR_back (readO_writ h')] at h
      cases h
/-- The rules of pieces, behind others. -/
def refRs : List Rl → List (List UInt8) → List Rl × Nat × Int
  | acc, [] => (acc, 0, 0)
  | acc, [x] => if x = [] then (acc, 0, 0) else ([], acc.length, 2)
  | acc, x :: y :: t => if lineE acc.length (x ++ [10]) = 0 then refRs (acc ++ [(readO (x ++ [10])).getD nilR]) (y :: t) else ([], acc.length, lineE acc.length (x ++ [10]))
theorem refRs_one (acc : List Rl) (x : List UInt8) : refRs acc [x] = if x = [] then (acc, 0, 0) else ([], acc.length, 2) := by rw [refRs]
theorem refRs_more (acc : List Rl) (x : List UInt8) {t : List (List UInt8)} (h : t ≠ []) : refRs acc (x :: t) = if lineE acc.length (x ++ [10]) = 0 then refRs (acc ++ [(readO (x ++ [10])).getD nilR]) t else ([], acc.length, lineE acc.length (x ++ [10])) := by
  cases t with
  | nil => exact absurd rfl h
  | cons y t => rw [refRs]
theorem refRs_is (n : Nat) : ∀ (s : List UInt8) (acc : List Rl), s.length ≤ n → refRs acc (cutL 10 s) = parS acc (lnsL s) := by
  induction n with
  | zero =>
    intro s acc h
    have : s = [] := List.length_eq_zero_iff.1 (by omega)
    subst this
    rw [cutL_splitX, lnsL_nil, parS_end]
    show refRs acc [[]] = _
    rw [refRs_one, if_pos rfl]
  | succ n ih =>
    intro s acc h
    by_cases hs : s = []
    · subst hs
      exact ih [] acc (Nat.zero_le _)
    rw [cutL_splitX]
    rcases splitC_index 10 s with ⟨h1, h2⟩ | ⟨k, h1, h2, h3⟩
    · rw [h2, lnsL_last hs h1]
      show refRs acc [s] = _
      have hr : readO s = none := by
        cases hr : readO s with
        | none => rfl
        | some r =>
          have e := readO_is hr
          have := index_at (t := []) (line_ten (readO_writ hr))
          rw [e] at this
          omega
      have he : lineE acc.length s = 2 := by unfold lineE; rw [hr]
      rw [refRs_one, if_neg hs, parS_bad (by rw [he]; decide), he]
    · have hj := splitC_joinX (c := 10) (l := s) (by rw [h3])
      rw [h3] at hj ⊢
      simp only at hj
      rw [lnsL_cut hs h2]
      have et : s.take (k + 1) = s.take k ++ [10] := by
        conv => lhs; rw [hj]
        rw [List.take_append, List.length_take, Nat.min_eq_left (by omega)]
        rw [List.take_of_length_le (by rw [List.length_take]; omega)]
        simp
      have ih' := fun acc => ih (s.drop (k + 1)) acc (by rw [List.length_drop]; omega)
      simp only [if_true]
      rw [et, refRs_more _ _ (cutL_ne _ _)]
      by_cases h0 : lineE acc.length (s.take k ++ [10]) = 0
      · rw [if_pos h0, ih', parS, if_pos h0]
      · rw [if_neg h0, parS_bad h0]
end Go.Proofs.YthnkjfgiclolaaaGreatDoor

namespace Go.Proofs.YthnkjfgiclolaaaGreatDoor
open Go.RowKit
set_option linter.unusedVariables false
set_option maxRecDepth 10000

theorem emptyB (x : List UInt8) : ((mkB x).toList == ([] : List UInt8)) = decide (x = []) := eqB x []
set_option maxHeartbeats 16000000 in
theorem refReadRs_any (T : List UInt8) (w : World) (hs : T.length ≤ 1048576) :
    Calls Tryz.prog 10 #[.string (mkB T)] w fun e w' => ∃ rs v, rs.map Prod.fst = (parS [] (lnsL T)).1 ∧ e = .returned (.tuple #[v, .int .i64 ((parS [] (lnsL T)).2.1 : Int), .int .i64 (parS [] (lnsL T)).2.2]) ∧ OwnRl w' w.heap.size v rs ∧ PtsO w' w.heap.size rs ∧ Below w.heap.size w w' := by
  rw [← refRs_is _ T [] (Nat.le_refl _)]
  have hcut := cut_any (mkB T) 10 w (by rw [mkB_size]; exact hs)
  rw [mkB_toList, show (((10 : UInt8).toNat : Nat) : Int) = 10 from rfl] at hcut
  have HZ := hidE (show ∀ x ∈ cutL 10 T, x.length ≤ 1048576 from fun x hx => Nat.le_trans (cut_sizes 10 _ T (Nat.le_refl _) x hx) hs)
  have HNE := hidE (cutL_ne 10 T)
  have hNl : (cutL 10 T).length ≤ 1048577 := by
    have := cutG_len 10 T []
    unfold cutL
    omega
  obtain ⟨ps, hps⟩ : ∃ ps, cutL 10 T = ps := ⟨_, rfl⟩
  rw [hps] at hcut HZ HNE hNl ⊢
  clear hps
  obtain ⟨N, hN⟩ : ∃ N, ps.length = N := ⟨_, rfl⟩
  have HN := hidE hN
  rw [hN] at hNl
  obtain ⟨RR, hRR⟩ : ∃ RR, refRs [] ps = RR := ⟨_, rfl⟩
  rw [hRR]
  have HRR := hidE hRR
  obtain ⟨Q, hQ⟩ : ∃ Q : Ending → World → Prop, Q = fun e w' => ∃ rs v, rs.map Prod.fst = RR.1 ∧ e = .returned (.tuple #[v, .int .i64 (RR.2.1 : Int), .int .i64 RR.2.2]) ∧ OwnRl w' w.heap.size v rs ∧ PtsO w' w.heap.size rs ∧ Below w.heap.size w w' := ⟨_, rfl⟩
  have HYES : Hid (∀ v rs w', RR = (rs.map Prod.fst, 0, 0) → OwnRl w' w.heap.size v rs → PtsO w' w.heap.size rs → Below w.heap.size w w' → Q (.returned (.tuple #[v, .int .i64 0, .int .i64 0])) w') := by
    rw [hQ]
    intro v rs w' h1 h2 h3 h4
    rw [h1]
    exact ⟨rs, v, rfl, rfl, h2, h3, h4⟩
  have HERR : Hid (∀ (k : Nat) (e : Int) w', RR = ([], k, e) → Below w.heap.size w w' → Q (.returned (.tuple #[.slice none 0 0, .int .i64 (k : Int), .int .i64 e])) w') := by
    rw [hQ]
    intro k e w' h1 h2
    rw [h1]
    exact ⟨[], _, rfl, rfl, OwnRl.nil _ _, (fun x hx => by cases hx), h2⟩
  rw [← hQ]
  clear hQ hRR
  have hcut := hcut.mono (R' := fun e w' => ∃ g c, e = .returned (.slice (some ⟨g, 0, none⟩) N c) ∧ N ≤ c ∧ c ≤ 9223372036854775807 ∧ g < w'.heap.size ∧ Hid (∀ j (hj : j < ps.length), w'.cell? ⟨g, j, none⟩ = some (.string (mkB ps[j]))) ∧ Below w.heap.size w w') (fun e w' h => by
    obtain ⟨v, rfl, own, hb⟩ := h
    obtain ⟨g, c, rfl, _, h2, h3, h4⟩ := own.shape (by rw [List.length_map]; exact List.length_pos_iff.2 HNE.out)
    unfold maxLen at h4
    refine ⟨g, c, by rw [List.length_map, hN], by rw [List.length_map] at h3; omega, by omega, h2, fun j hj => ?_, hb⟩
    have := own.cell rfl j (by rw [List.length_map]; exact hj)
    rw [this]; simp)
  clear hN hs
  generalize mkB T = tb at hcut ⊢
  go_enter Tryz.func10, Tryz.ntmps10
  go_wp2_with (go_at_call 22; go_must (refine hcut.mono ?_; rintro e wS ⟨gW, cW, rfl, hNc, hcW, hgW, HCW, bS⟩))
  have HBS := hidE bS
  clear hcut bS
  go_loopw [5, 7] (fun v5 i wr => ∃ (k : Nat) (rs : List Rx), k ≤ N ∧ i = .int .i64 (k : Int) ∧ Hid (OwnRl wr wS.heap.size v5 rs) ∧ Hid (PtsO wr wS.heap.size rs ∧ rs.length ≤ 20) ∧ Hid (Below wS.heap.size wS wr) ∧ Hid (k < N → rs.length = k ∧ refRs (rs.map Prod.fst) (ps.drop k) = RR) ∧ Hid (k = N → RR = (rs.map Prod.fst, 0, 0))) (fun _ i _ => ((N : Int) - intOf i).toNat)
  case atStart => exact ⟨0, [], by omega, rfl, OwnRl.nil _ _, ⟨(fun x hx => by cases hx), by simp⟩, Below.refl _ _, (fun _ => ⟨rfl, by rw [List.drop_zero]; exact HRR.out⟩), (fun h => absurd (List.length_eq_zero_iff.1 (by rw [HN.out]; exact h.symm)) HNE.out)⟩
  case round =>
    obtain ⟨k, rs, hk, rfl, HOW, HPT, HB, HF, HE⟩ := hrel
    have HBW := hidE (HBS.out.trans (HB.out.mono HBS.out.size))
    by_cases hlt : k < N
    case neg =>
      have hlt' : ¬ (k : Int) < (N : Int) := by omega
      have HQ := hidE (HYES.out u5 rs wr (HE.out (by omega)) (HOW.out.base HBS.out.size) (fun x hx => ⟨(HPT.out.1 x hx).1.base HBS.out.size, (HPT.out.1 x hx).2.1.base HBS.out.size, (HPT.out.1 x hx).2.2⟩) HBW.out)
      clear HOW HPT HB HF HE HYES HERR
      go_wp2_with fail
      refine bodyPost_ret (v := .tuple #[u5, .int .i64 0, .int .i64 0]) (by simp [results, Tryz.results10, go_sem]) rfl ?_
      exact HQ.out
    have hlt' : (k : Int) < (N : Int) := by omega
    have hk0 : (0 : Int) ≤ (k : Int) := by omega
    have hkl : k < ps.length := by rw [HN.out]; exact hlt
    have hcw := (HB.out.cell (p := ⟨gW, k, none⟩) hgW).trans (HCW.out k hkl)
    have hwz := HZ.out ps[k] (List.getElem_mem _)
    have HD := hidE (List.drop_eq_getElem_cons hkl)
    obtain ⟨HL, HFK⟩ := HF.out hlt
    have HRL := hidE HL
    have HFF := hidE HFK
    clear HL HFK HF HE
    generalize ps[k] = x at hcw hwz HD
    rw [HD.out] at HFF
    have p1 := emptyB x
    have g1 := refReadR_any x
    have HX1 := hidE (refR_readO x)
    obtain ⟨eb, heb⟩ : ∃ b, decide (x = []) = b := ⟨_, rfl⟩
    rw [heb] at p1
    have HEB := hidE heb
    have g2 := g1 wr hwz
    unfold RrEnd at g2
    rw [HX1.out] at g2
    generalize mkB x = xb at hcw p1 g2
    clear heb g1 hwz
    by_cases hla : k + 1 = N
    · -- the last piece
      have i1 : ((k : Int) == (N : Int) - 1) = true := by rw [beq_iff_eq]; omega
      have hd0 : ps.drop (k + 1) = [] := List.drop_of_length_le (by rw [HN.out]; omega)
      rw [hd0, refRs_one] at HFF
      cases eb with
      | true =>
        have HRE : Hid (RR = (rs.map Prod.fst, 0, 0)) := by
          rw [Hid, ← HFF.out, if_pos (of_decide_eq_true HEB.out)]
        clear hd0 HFF g2 HYES HERR
        go_wp2_with fail
        go_roundw
        case rel => exact ⟨k + 1, rs, by omega, by go_num, HOW, HPT, HB, (fun h => by omega), (fun _ => HRE.out)⟩
        case measure => simp [intOf]; omega
      | false =>
        have HRE : Hid (RR = ([], k, 2)) := by
          rw [Hid, ← HFF.out, if_neg (of_decide_eq_false HEB.out), List.length_map, HRL.out]
        have g3 : Calls Tryz.prog 23 #[.string xb] wr fun e w' => ∃ (r : Rl) (a8 : Option Addr) (n8 c8 : Nat) (a9 : Option Addr) (n9 c9 : Nat) (ok : Bool), e = .returned (.tuple #[.agg #[.bool r.pass, .bool r.quick, .bool r.keep, .int .i64 r.way, .int .i64 r.kind, .int .i64 r.sa, .int .i64 r.sl, .int .i64 r.da, .int .i64 r.dl, .slice a8 n8 c8, .slice a9 n9 c9], .bool ok]) ∧ Below wr.heap.size wr w' := by
          refine g2.mono ?_
          rintro e w' ⟨h | h, hb⟩
          · obtain ⟨r, fv, tv, _, rfl, h2, h3⟩ := h
            obtain ⟨a8, n8, c8, rfl⟩ := h2.form
            obtain ⟨a9, n9, c9, rfl⟩ := h3.form
            exact ⟨r, a8, n8, c8, a9, n9, c9, true, rfl, hb⟩
          · obtain ⟨_, r, a, n, c, a', n', c', rfl⟩ := h
            exact ⟨r, a, n, c, a', n', c', false, rfl, hb⟩
        clear hd0 HFF g2
        go_wp2_with (go_at_call 23; go_must (refine g3.mono ?_; rintro e w2 ⟨r, a8, n8, c8, a9, n9, c9, ok, rfl, b2⟩))
        refine bodyPost_ret (v := .tuple #[.slice none 0 0, .int .i64 (k : Int), .int .i64 2]) (by simp [results, Tryz.results10, go_sem]) rfl ?_
        refine HERR.out k 2 _ HRE.out ?_
        exact (HBW.out.trans (b2.mono HBW.out.size)).alloc (by have := b2.size; have := HBW.out.size; omega) _
    · have i1 : ((k : Int) == (N : Int) - 1) = false := by rw [beq_eq_false_iff_ne]; omega
      have hd0 : ps.drop (k + 1) ≠ [] := fun e => by
        have := congrArg List.length e
        rw [List.length_drop, HN.out, List.length_nil] at this
        omega
      rw [refRs_more _ _ hd0, List.length_map, HRL.out] at HFF
      clear hd0
      cases hro : readO (x ++ [10]) with
      | none =>
        have hle : lineE k (x ++ [10]) = 2 := by unfold lineE; rw [hro]
        have HRE : Hid (RR = ([], k, 2)) := by rw [Hid, ← HFF.out, hle, if_neg (by decide)]
        have g3 : Calls Tryz.prog 23 #[.string xb] wr fun e w' => ∃ (r : Rl) (a8 : Option Addr) (n8 c8 : Nat) (a9 : Option Addr) (n9 c9 : Nat), e = .returned (.tuple #[.agg #[.bool r.pass, .bool r.quick, .bool r.keep, .int .i64 r.way, .int .i64 r.kind, .int .i64 r.sa, .int .i64 r.sl, .int .i64 r.da, .int .i64 r.dl, .slice a8 n8 c8, .slice a9 n9 c9], .bool false]) ∧ Below wr.heap.size wr w' := by
          refine g2.mono ?_
          rintro e w' ⟨h | h, hb⟩
          · obtain ⟨r, fv, tv, h1, _⟩ := h
            rw [hro] at h1; cases h1
          · obtain ⟨_, r, a, n, c, a', n', c', rfl⟩ := h
            exact ⟨r, a, n, c, a', n', c', rfl, hb⟩
        clear hle HFF g2 hro
        go_wp2_with (go_at_call 23; go_must (refine g3.mono ?_; rintro e w2 ⟨r, a8, n8, c8, a9, n9, c9, rfl, b2⟩))
        refine bodyPost_ret (v := .tuple #[.slice none 0 0, .int .i64 (k : Int), .int .i64 2]) (by simp [results, Tryz.results10, go_sem]) rfl ?_
        refine HERR.out k 2 _ HRE.out ?_
        exact (HBW.out.trans (b2.mono HBW.out.size)).alloc (by have := b2.size; have := HBW.out.size; omega) _
      | some r =>
        have HWT := hidE (readO_writ hro)
        have HRO := hidE hro
        have g3 : Calls Tryz.prog 23 #[.string xb] wr fun e w' => ∃ (a8 : Option Addr) (n8 c8 : Nat) (a9 : Option Addr) (n9 c9 : Nat), e = .returned (.tuple #[.agg #[.bool r.pass, .bool r.quick, .bool r.keep, .int .i64 r.way, .int .i64 r.kind, .int .i64 r.sa, .int .i64 r.sl, .int .i64 r.da, .int .i64 r.dl, .slice a8 n8 c8, .slice a9 n9 c9], .bool true]) ∧ OwnSp w' wr.heap.size (.slice a8 n8 c8) r.fr ∧ OwnSp w' wr.heap.size (.slice a9 n9 c9) r.tl ∧ Below wr.heap.size wr w' := by
          refine g2.mono ?_
          rintro e w' ⟨h | h, hb⟩
          · obtain ⟨r', fv, tv, h1, rfl, h2, h3⟩ := h
            rw [hro] at h1
            cases h1
            obtain ⟨a8, n8, c8, rfl⟩ := h2.form
            obtain ⟨a9, n9, c9, rfl⟩ := h3.form
            exact ⟨a8, n8, c8, a9, n9, c9, rfl, h2, h3, hb⟩
          · rw [hro] at h; cases h.1
        clear hro g2 HX1
        go_upto_region 11 with (go_at_call 23; go_must (refine g3.mono ?_; rintro e w2 ⟨a8, n8, c8, a9, n9, c9, rfl, of2, ot2, b2⟩))
        have b3 : Below w2.heap.size w2 (w2.alloc (.cells #[.bool r.pass, .bool r.quick, .bool r.keep, .int .i64 r.way, .int .i64 r.kind, .int .i64 r.sa, .int .i64 r.sl, .int .i64 r.da, .int .i64 r.dl, .slice a8 n8 c8, .slice a9 n9 c9] 33)) := (Below.refl _ _).alloc (Nat.le_refl _) _
        have hR3 := RlAt.new w2 r (.slice a8 n8 c8) (.slice a9 n9 c9)
        have B3 := b2.trans (b3.mono b2.size)
        have of3 := of2.below b3
        have ot3 := ot2.below b3
        obtain ⟨w3, hw3⟩ : ∃ W, w2.alloc (.cells #[.bool r.pass, .bool r.quick, .bool r.keep, .int .i64 r.way, .int .i64 r.kind, .int .i64 r.sa, .int .i64 r.sl, .int .i64 r.da, .int .i64 r.dl, .slice a8 n8 c8, .slice a9 n9 c9] 33) = W := ⟨_, rfl⟩
        rw [hw3] at hR3 B3 of3 ot3 ⊢
        obtain ⟨P, hP⟩ : ∃ P, w2.heap.size = P := ⟨_, rfl⟩
        rw [hP] at hR3 ⊢
        have HB3 := hidE B3
        have HOF := hidE of3
        have HOT := hidE ot3
        have HR3 := hidE hR3
        clear g3 of2 ot2 b2 b3 hw3 hP B3 of3 ot3
        obtain ⟨d0, d1, d2, d3, d4, d5, d6, d7, d8, d9, d10⟩ := hR3.cells
        clear hR3
        by_cases h20 : k = 20
        · have i2 : ((k : Int) == 20) = true := by rw [h20]; rfl
          have hle : lineE k (x ++ [10]) = 4 := by unfold lineE; rw [HRO.out]; simp only; rw [if_pos h20]
          have HQ := hidE (HERR.out k 4 w3 (by rw [← HFF.out, hle, if_neg (by decide)]) (HBW.out.trans (HB3.out.mono HBW.out.size)))
          clear hle h20 HFF
          go_wp2_with fail
          refine bodyPost_ret (v := .tuple #[.slice none 0 0, .int .i64 (k : Int), .int .i64 4]) (by simp [results, Tryz.results10, go_sem]) rfl ?_
          exact HQ.out
        have i2 : ((k : Int) == 20) = false := by rw [beq_eq_false_iff_ne]; omega
        have hle : lineE k (x ++ [10]) = ruE r := by unfold lineE; rw [HRO.out]; simp only; rw [if_neg h20]
        have g4 := refRule_any r (.slice a8 n8 c8) (.slice a9 n9 c9) w3 HOF.out.spns HOT.out.spns (by have := HWT.out.frl; omega) (by have := HWT.out.tll; omega)
        unfold rlV at g4
        have hB3 := HBW.out.trans (HB3.out.mono HBW.out.size)
        have HBB3 := hidE hB3
        clear hB3 h20
        by_cases hr0 : ruE r = 0
        · rw [hr0] at g4
          have HNX := hidE (show refRs ((rs ++ [(r, Value.slice a8 n8 c8, Value.slice a9 n9 c9)]).map Prod.fst) (ps.drop (k + 1)) = RR by rw [← HFF.out, hle, if_pos hr0, HRO.out, List.map_append]; rfl)
          clear hle hr0 HFF
          go_upto_region 16 with (go_at_call 14; go_must (refine g4.mono ?_; rintro e w4 ⟨rfl, b4⟩))
          have hR4 := HR3.out.below HR3.out.lt b4
          have B4 := HB3.out.trans (b4.mono HB3.out.size)
          have HB4 := hidE B4
          have HOF4 := hidE (HOF.out.below b4)
          have HOT4 := hidE (HOT.out.below b4)
          clear d0 d1 d2 d3 d4 d5 d6 d7 d8 d9 d10 g4
          obtain ⟨d0, d1, d2, d3, d4, d5, d6, d7, d8, d9, d10⟩ := hR4.cells
          have HO4 := hidE (HOW.out.below B4)
          have ha4 : Below w4.heap.size w4 (w4.alloc (.cells #[.bool r.pass, .bool r.quick, .bool r.keep, .int .i64 r.way, .int .i64 r.kind, .int .i64 r.sa, .int .i64 r.sl, .int .i64 r.da, .int .i64 r.dl, .slice a8 n8 c8, .slice a9 n9 c9] 33)) := (Below.refl _ _).alloc (Nat.le_refl _) _
          have own5 : OwnRl (w4.alloc (.cells #[.bool r.pass, .bool r.quick, .bool r.keep, .int .i64 r.way, .int .i64 r.kind, .int .i64 r.sa, .int .i64 r.sl, .int .i64 r.da, .int .i64 r.dl, .slice a8 n8 c8, .slice a9 n9 c9] 33)) wS.heap.size u5 rs := HO4.out.alloc _
          have ox5 := OwnRl.box (base := 0) (x := (r, .slice a8 n8 c8, .slice a9 n9 c9)) (heap_alloc_new w4 (.cells #[.bool r.pass, .bool r.quick, .bool r.keep, .int .i64 r.way, .int .i64 r.kind, .int .i64 r.sa, .int .i64 r.sl, .int .i64 r.da, .int .i64 r.dl, .slice a8 n8 c8, .slice a9 n9 c9] 33)) (Nat.zero_le _)
          have hfl : r.fr.length ≤ 140737488355328 ∧ r.tl.length ≤ 140737488355328 := ⟨by have := HWT.out.frl; omega, by have := HWT.out.tll; omega⟩
          have hx5 := ox5.rls (Pts.one (show PtsOf (w4.alloc (.cells #[.bool r.pass, .bool r.quick, .bool r.keep, .int .i64 r.way, .int .i64 r.kind, .int .i64 r.sa, .int .i64 r.sl, .int .i64 r.da, .int .i64 r.dl, .slice a8 n8 c8, .slice a9 n9 c9] 33)) (r, .slice a8 n8 c8, .slice a9 n9 c9) from ⟨(HOF4.out.below ha4).spns, (HOT4.out.below ha4).spns, hfl.1, hfl.2⟩))
          have hln : rs.length + [((r, Value.slice a8 n8 c8, Value.slice a9 n9 c9) : Rx)].length ≤ 1000000 := by have := HPT.out.2; simp; omega
          have hs5 : wS.heap.size ≤ (w4.alloc (.cells #[.bool r.pass, .bool r.quick, .bool r.keep, .int .i64 r.way, .int .i64 r.kind, .int .i64 r.sa, .int .i64 r.sl, .int .i64 r.da, .int .i64 r.dl, .slice a8 n8 c8, .slice a9 n9 c9] 33)).heap.size := by have := HB.out.size; have := HB4.out.size; rw [World.size_alloc]; omega
          have HX5 := hidE hx5
          have HO5 := hidE own5
          have HA4 := hidE ha4
          have HK20 := hidE (show k + 1 ≤ 20 by have := HPT.out.2; have := HRL.out; rw [beq_eq_false_iff_ne] at i2; omega)
          clear ox5 ha4
          go_wp2_with (at_builtin; go_must (refine wpList_append_rls rfl (.tmp 56) (.tmp 58) rfl wS.heap.size u5 rs rfl own5 (.slice (some ⟨w4.heap.size, 0, none⟩) 1 1) [(r, .slice a8 n8 c8, .slice a9 n9 c9)] rfl hx5 hln hs5 ?_; intro v6 w6 own6 gr6 lie6))
          go_roundw
          case rel =>
            have sp6 : ∀ {u : Value} {b : Nat} {qs : List Sp}, OwnSp w4 b u qs → OwnSp w6 b u qs := fun hu => (hu.below HA4.out).blk (fun k hk => gr6.block k ((hu.below HA4.out).block k hk).2 ((hu.below HA4.out).off HO5.out hk))
            refine ⟨k + 1, rs ++ [(r, .slice a8 n8 c8, .slice a9 n9 c9)], by omega, by go_num, hidE own6, ⟨?_, by rw [List.length_append, HRL.out]; exact HK20.out⟩, ?_, (fun _ => ⟨by rw [List.length_append, HRL.out]; rfl, HNX.out⟩), (fun h => absurd h hla)⟩
            · intro y hy
              rcases List.mem_append.1 hy with hy | hy
              · exact ⟨sp6 ((HPT.out.1 y hy).1.below HB4.out), sp6 ((HPT.out.1 y hy).2.1.below HB4.out), (HPT.out.1 y hy).2.2⟩
              · rw [List.mem_singleton] at hy
                subst hy
                exact ⟨(sp6 HOF4.out).base HB.out.size, (sp6 HOT4.out).base HB.out.size, HWT.out.frl, HWT.out.tll⟩
            · exact (HB.out.trans (HB4.out.mono HB.out.size)).trans ((HA4.out.mono (by have := HB.out.size; have := HB4.out.size; omega)).trans (grown_below gr6 hs5 (fun k hk => (HO5.out.block k hk).1)))
          case measure => simp [intOf]; omega
        · have hne : (ruE r == 0) = false := by rw [beq_eq_false_iff_ne]; exact hr0
          have HRE := hidE (show RR = ([], k, ruE r) by rw [← HFF.out, hle, if_neg hr0])
          clear hle hr0 HFF
          generalize ruE r = z at g4 hne HRE
          go_wp2_with (go_at_call 14; go_must (refine g4.mono ?_; rintro e w4 ⟨rfl, b4⟩))
          refine bodyPost_ret (v := .tuple #[.slice none 0 0, .int .i64 (k : Int), .int .i64 z]) (by simp [results, Tryz.results10, go_sem]) rfl ?_
          exact HERR.out k z _ HRE.out (HBB3.out.trans (b4.mono HBB3.out.size))
end Go.Proofs.YthnkjfgiclolaaaGreatDoor
