/- What the reference's ReadSpans returns (package portref1): 'readR'. Condition: a text of at most 1048576 bytes. -/
import Derived.Test.YthnkjfgiclolaaaGreatDoorMgP
namespace Go.Proofs.YthnkjfgiclolaaaGreatDoor
open Go.RowKit
set_option linter.unusedVariables false
set_option maxRecDepth 4000

theorem hid {p : Prop} (h : p) : Hid p := h
/-- What ReadSpans answers. -/
def ReadsR (l : List UInt8) (w : World) (e : Ending) (w' : World) : Prop := ∃ v b, e = .returned (.tuple #[v, .bool b]) ∧ ((∃ r, readR l = some r ∧ b = true ∧ OwnSp w' w.heap.size v r) ∨ (readR l = none ∧ b = false ∧ v = .slice none 0 0)) ∧ Below w.heap.size w w'
theorem touch_last {acc : List Sp} {k : Nat} (hl : acc.length = k + 1) (a : Int) : touchB acc a = decide (a ≤ (acc[k]'(by omega)).2 + 1) := by
  rcases List.eq_nil_or_concat acc with rfl | ⟨i, t, rfl⟩
  · simp at hl
  · rw [List.concat_eq_append] at hl
    have hik : i.length = k := by simp at hl; omega
    have e : ((i ++ [t])[k]'(by rw [hl]; omega)) = t := by
      subst hik; simp
    simp only [List.concat_eq_append]
    unfold touchB
    simp only [List.reverse_append, List.reverse_cons, List.reverse_nil, List.nil_append, List.singleton_append]
    rw [e]
theorem cut_sizes (c : UInt8) : ∀ (n : Nat) (l : List UInt8), l.length ≤ n → ∀ x ∈ cutL c l, x.length ≤ l.length
  | n, l, hn, x, hx => by
      rw [cutL_splitX] at hx
      have hsl := splitC_len c l
      rcases List.mem_cons.1 hx with rfl | hx
      · exact hsl.1
      · rcases hs : (splitC c l).2.2 with _ | _
        · rw [hs, if_neg (by simp)] at hx; cases hx
        · rw [hs, if_pos rfl] at hx
          have hj := congrArg List.length (splitC_joinX hs)
          rw [List.length_append, List.length_cons] at hj
          match n, hn with
          | 0, hn => omega
          | n + 1, hn => have := cut_sizes c n _ (by omega) x hx; omega
set_option maxHeartbeats 32000000 in
theorem refReadS_any (s : ByteArray) (w : World) (hs : s.size ≤ 1048576) : Calls Tryz.prog 93 #[.string s] w (ReadsR s.data.toList w) := by
  by_cases h0 : s.data.toList = [45]
  · have HZ : Hid (ReadsR s.data.toList w (.returned (.tuple #[.slice none 0 0, .bool true])) w) := ⟨_, _, rfl, .inl ⟨[], by unfold readR; rw [if_pos h0], rfl, OwnSp.nil _ _⟩, Below.refl _ _⟩
    have hq : (s.toList == [45]) = true := by rw [ByteArray.toList_eq, h0]; rfl
    generalize ReadsR s.data.toList w = Q at HZ ⊢
    clear h0
    go_enter Tryz.func93, Tryz.ntmps93
    go_wp2_with fail
    exact HZ.out
  have hq : (s.toList == [45]) = false := by
    rw [beq_eq_false_iff_ne, ByteArray.toList_eq]; exact h0
  have hcut := cut_any s 44 w hs
  have hRR : readR s.data.toList = refFold (cutL 44 s.data.toList) [] := by unfold readR; rw [if_neg h0]
  have HNO : Hid (∀ w', Below w.heap.size w w' → readR s.data.toList = none → ReadsR s.data.toList w (.returned (.tuple #[.slice none 0 0, .bool false])) w') := fun w' hb h => ⟨_, _, rfl, .inr ⟨h, rfl, rfl⟩, hb⟩
  have HYES : Hid (∀ v l w', readR s.data.toList = some l → OwnSp w' w.heap.size v l → Below w.heap.size w w' → ReadsR s.data.toList w (.returned (.tuple #[v, .bool true])) w') := fun v l w' h hv hb => ⟨_, _, rfl, .inl ⟨l, h, rfl, hv⟩, hb⟩
  have hwz := cut_sizes 44 s.data.toList.length s.data.toList (Nat.le_refl _)
  have hsl : s.data.toList.length = s.size := by simp
  rw [hsl] at hwz
  have hwl := cutG_len 44 s.data.toList []
  obtain ⟨RR, hR⟩ : ∃ RR, readR s.data.toList = RR := ⟨_, rfl⟩
  rw [hR] at HNO HYES hRR
  generalize hQ : ReadsR s.data.toList w = Q at HNO HYES ⊢
  clear hQ hR
  have hwl2 : (cutL 44 s.data.toList).length ≤ 1048577 := by unfold cutL; omega
  have hwp : 0 < (cutL 44 s.data.toList).length := by rw [cutL_splitX]; simp
  generalize cutL 44 s.data.toList = ws at hcut hRR hwz hwl2 hwp
  obtain ⟨N, hN⟩ : ∃ N, ws.length = N := ⟨_, rfl⟩
  have HN : Hid (ws.length = N) := hN
  have hcut := hcut.mono (R' := fun e w' => ∃ g c, e = .returned (.slice (some ⟨g, 0, none⟩) N c) ∧ N ≤ c ∧ c ≤ 9223372036854775807 ∧ g < w'.heap.size ∧ Hid (∀ j (hj : j < ws.length), w'.cell? ⟨g, j, none⟩ = some (.string (mkB ws[j]))) ∧ Below w.heap.size w w') (fun e w' h => by
    obtain ⟨v, rfl, own, hb⟩ := h
    obtain ⟨g, c, rfl, _, h2, h3, h4⟩ := own.shape (by rw [List.length_map]; exact hwp)
    unfold maxLen at h4
    refine ⟨g, c, by rw [List.length_map, hN], by rw [List.length_map] at h3; omega, by omega, h2, fun j hj => ?_, hb⟩
    have := own.cell rfl j (by rw [List.length_map]; exact hj)
    rw [this]; simp)
  rw [hN] at hwl2
  have HWZ : Hid (∀ x ∈ ws, x.length ≤ s.size) := hwz
  have HRR : Hid (refFold ws [] = RR) := hRR.symm
  clear hN hwz hRR hwp hwl hsl h0
  go_enter Tryz.func93, Tryz.ntmps93
  go_wp2_with (go_at_call 22; go_must (refine hcut.mono ?_; rintro e wS ⟨gW, cW, rfl, hNc, hcW, hgW, HCW, bS⟩))
  have HBS : Hid (Below w.heap.size w wS) := bS
  clear hcut bS
  go_loopw [4, 6] (fun v4 i wr => ∃ (k : Nat) (acc : List Sp), k ≤ N ∧ i = .int .i64 (k : Int) ∧ OwnSp wr wS.heap.size v4 acc ∧ Hid (acc.length = k) ∧ Below wS.heap.size wS wr ∧ Hid (refFold (ws.drop k) acc = RR) ∧ Hid (∀ x ∈ acc, -1 ≤ x.2 ∧ x.2 ≤ 99999)) (fun _ i _ => ((N : Int) - intOf i).toNat)
  case atStart => exact ⟨0, [], by omega, rfl, OwnSp.nil _ _, rfl, Below.refl _ _, by rw [Hid, List.drop_zero]; exact HRR.out, fun x hx => by cases hx⟩
  case round =>
    obtain ⟨k, acc, hk, rfl, hown, HAL, hb, HF, HOKA⟩ := hrel
    by_cases hlt : k < N
    · as_aux_lemma =>
      have hlt' : (k : Int) < (N : Int) := by omega
      have hk0 : (0 : Int) ≤ (k : Int) := by omega
      have hkl : k < ws.length := by rw [HN.out]; exact hlt
      have hcw := (hb.cell (p := ⟨gW, k, none⟩) hgW).trans (HCW.out k hkl)
      have hwz := HWZ.out ws[k] (List.getElem_mem _)
      have hcx := cut_any (mkB ws[k]) 45 wr (by rw [mkB_size]; omega)
      rw [mkB_toList] at hcx
      have HD : Hid (ws.drop k = ws[k] :: ws.drop (k + 1)) := List.drop_eq_getElem_cons hkl
      have HRW0 : Hid (refWord ws[k] = refChk (cutL 45 ws[k]).length (wholeL ((cutL 45 ws[k]).getD 0 []) 5) (refB (cutL 45 ws[k]))) := rfl
      have hxz := cut_sizes 45 ws[k].length ws[k] (Nat.le_refl _)
      have hxp : 0 < (cutL 45 ws[k]).length := by rw [cutL_splitX]; simp
      have hxl := cutG_len 45 ws[k] []
      have hxl2 : (cutL 45 ws[k]).length ≤ 1048577 := by unfold cutL; omega
      generalize ws[k] = wk at hcw hwz hcx HD HRW0 hxz hxp hxl hxl2
      have HNN : Hid (refWord wk = none → RR = none) := fun h => by
        rw [← HF.out, HD.out]; unfold refFold; rw [h]
      have HSS : Hid (∀ a b, refWord wk = some (a, b) → (200 ≤ k ∨ touchB acc a = true → RR = none) ∧ (¬ 200 ≤ k → touchB acc a = false → refFold (ws.drop (k + 1)) (acc ++ [(a, b)]) = RR)) := fun a b h => by
        have e := HF.out
        rw [HD.out] at e
        unfold refFold at e
        rw [h] at e
        simp only at e
        rw [HAL.out] at e
        refine ⟨fun hc => by rw [if_pos hc] at e; exact e.symm, fun h1 h2 => ?_⟩
        rw [if_neg (by rintro (h3 | h3); exact h1 h3; rw [h2] at h3; cases h3)] at e
        exact e
      have HT0 : Hid (k = 0 → ∀ a, touchB acc a = false) := fun h a => by
        have : acc = [] := List.length_eq_zero_iff.1 (by rw [HAL.out]; exact h)
        subst this; rfl
      generalize cutL 45 wk = xs at hcx HRW0 hxz hxp hxl2
      have HHB : Hid (Below wS.heap.size wS wr ∧ Below w.heap.size w wr) := ⟨hb, HBS.out.trans (hb.mono HBS.out.size)⟩
      obtain ⟨a4, c4, he4⟩ := hown.len
      rw [HAL.out] at he4
      subst he4
      have HOW : Hid (OwnSp wr wS.heap.size (.slice a4 k c4) acc) := hown
      obtain ⟨M, hM⟩ : ∃ M, xs.length = M := ⟨_, rfl⟩
      have HMM : Hid (xs.length = M) := hM
      have hcx := hcx.mono (R' := fun e w' => ∃ g c, e = .returned (.slice (some ⟨g, 0, none⟩) M c) ∧ M ≤ c ∧ c ≤ 9223372036854775807 ∧ Hid (∀ j (hj : j < xs.length), w'.cell? ⟨g, j, none⟩ = some (.string (mkB xs[j]))) ∧ Below wr.heap.size wr w') (fun e w' h => by
        obtain ⟨v, rfl, own, hb⟩ := h
        obtain ⟨g, c, rfl, _, h2, h3, h4⟩ := own.shape (by rw [List.length_map]; exact hxp)
        unfold maxLen at h4
        refine ⟨g, c, by rw [List.length_map, hM], by rw [List.length_map] at h3; omega, by omega, fun j hj => ?_, hb⟩
        have := own.cell rfl j (by rw [List.length_map]; exact hj)
        rw [this]; simp)
      have HXZ : Hid (∀ x ∈ xs, x.length ≤ 1048576) := fun x hx => by have := hxz x hx; omega
      rw [hM] at hxp hxl2
      clear hM hb hown hxz hxl hwz HF HD HCW HWZ
      go_upto_region 9 with (go_at_call 22; go_must (refine hcx.mono ?_; rintro e w2 ⟨gx, cx, rfl, hMc, hcxb, HCX, b2⟩))
      have HBx : Hid (Below w.heap.size w w2) := HHB.out.2.trans (b2.mono HHB.out.2.size)
      have HBz : Hid (Below wS.heap.size wS w2) := HHB.out.1.trans (b2.mono HHB.out.1.size)
      have HOy : Hid (OwnSp w2 wS.heap.size (.slice a4 k c4) acc) := HOW.out.below b2
      have hszy := HBz.out.size
      have HLAST : Hid (∀ j, k = j + 1 → ∃ g4 t2, a4 = some ⟨g4, 0, none⟩ ∧ k ≤ c4 ∧ c4 ≤ 9223372036854775807 ∧ w2.cell? ⟨g4, j * 2 + 1, none⟩ = some (.int .i64 t2) ∧ (∀ a, touchB acc a = decide (a ≤ t2 + 1)) ∧ -1 ≤ t2 ∧ t2 ≤ 99999) := fun j hj => by
        have hal : acc.length = j + 1 := by rw [HAL.out]; exact hj
        obtain ⟨g4, cap, hv, _, _, h3, h4⟩ := HOy.out.shape (by omega)
        simp only [Value.slice.injEq] at hv
        obtain ⟨hv1, _, rfl⟩ := hv
        subst hv1
        have hc := (HOy.out.cells j (by omega)).2
        have hbd := HOKA.out (acc[j]'(by omega)) (List.getElem_mem _)
        unfold maxLen at h4
        exact ⟨g4, (acc[j]'(by omega)).2, rfl, by omega, by omega, hc, fun a => touch_last hal a, hbd.1, hbd.2⟩
      clear hcx b2 HOW HHB hcw
      by_cases hM1 : M = 1
      · as_aux_lemma =>
        subst hM1
        obtain ⟨x0, rfl⟩ : ∃ x0, xs = [x0] := List.length_eq_one_iff.1 HMM.out
        have hc0 : w2.cell? ⟨gx, 0, none⟩ = some (.string (mkB x0)) := HCX.out 0 (by simp)
        have hx0 := HXZ.out x0 (by simp)
        have hwh := whole_any (mkB x0) 5 w2 (by omega) (by omega) (by rw [mkB_size]; unfold maxLen; omega)
        rw [mkB_toList] at hwh
        have HRW : Hid (refWord wk = refChk 1 (wholeL x0 5) (wholeL x0 5)) := HRW0.out
        obtain ⟨a, ha⟩ : ∃ a, wholeL x0 5 = a := ⟨_, rfl⟩
        rw [ha] at hwh HRW
        clear ha hx0 HXZ HCX HMM HRW0
        go_upto_region 13 with (go_at_call 116; go_must (refine hwh.mono ?_; rintro e _ ⟨rfl, rfl⟩))
        clear hwh hc0
        by_cases hb1 : a < 0
        · as_aux_lemma =>
          have HQ := hid (HNO.out _ HBx.out (HNN.out (by rw [HRW.out]; unfold refChk; rw [if_pos (by omega)])))
          clear HNN HSS
          go_wp2_with fail
          exact HQ.out
        by_cases hb2 : 65535 < a
        · as_aux_lemma =>
          have HQ := hid (HNO.out _ HBx.out (HNN.out (by rw [HRW.out]; unfold refChk; rw [if_pos (by omega)])))
          clear HNN HSS
          go_wp2_with fail
          exact HQ.out
        obtain ⟨hs1, hs2⟩ := HSS.out a a (by rw [HRW.out]; unfold refChk; rw [if_neg (by omega)])
        have HS1 := hid hs1
        have HS2 := hid hs2
        clear hs1 hs2 HNN HSS
        by_cases hfull : 200 ≤ k
        · as_aux_lemma =>
          have hfull' : (200 : Int) ≤ (k : Int) := by omega
          have HQ := hid (HNO.out _ HBx.out (HS1.out (.inl hfull)))
          clear HS1 HS2
          go_wp2_with fail
          exact HQ.out
        · as_aux_lemma =>
          have hfull' : ¬ (200 : Int) ≤ (k : Int) := by omega
          go_upto_region 15 with fail
          by_cases hk1 : 0 < k
          · as_aux_lemma =>
            have hk1' : (0 : Int) < (k : Int) := by omega
            obtain ⟨j, hj⟩ : ∃ j, k = j + 1 := ⟨k - 1, by omega⟩
            obtain ⟨g4, t2, hu4, hc4, hc4', hce4, ht4, ht0, ht1⟩ := HLAST.out j hj
            clear HLAST
            subst hj hu4
            have HT4 := hid ht4
            clear ht4
            by_cases htc : a ≤ t2 + 1
            · as_aux_lemma =>
              have HQ := hid (HNO.out _ HBx.out (HS1.out (.inr (by rw [HT4.out]; exact decide_eq_true htc))))
              clear HS1 HS2
              go_wp2_with fail
              exact HQ.out
            · as_aux_lemma =>
              have HN2 := hid (HS2.out (by omega) (by rw [HT4.out]; exact decide_eq_false htc))
              have hown := HOy.out
              have hall : acc.length ≤ 1000000 := by have := HAL.out; omega
              clear HS1 HS2
              go_wp2_with (at_builtin; go_must (refine wpList_append_sp rfl (.tmp 76) (.tmp 80) rfl wS.heap.size (.slice (some ⟨g4, 0, none⟩) (j + 1) c4) acc rfl hown a a rfl hall hszy ?_; intro g5 c5 W5 own5 grow5 lie5))
              go_roundw
              case rel => exact ⟨j + 1 + 1, acc ++ [(a, a)], by omega, by go_num, own5, by rw [Hid, List.length_append, HAL.out]; rfl, HBz.out.trans (app_below HOy.out grow5 hszy), HN2.out, fun x hx => by rcases List.mem_append.1 hx with h | h; exact HOKA.out x h; rw [List.mem_singleton] at h; subst h; exact ⟨by show (-1 : Int) ≤ a; omega, by show a ≤ 99999; omega⟩⟩
              case measure => simp [intOf]; omega
          · as_aux_lemma =>
            have hk1' : ¬ (0 : Int) < (k : Int) := by omega
            have HN2 := hid (HS2.out (by omega) (HT0.out (by omega) a))
            have hown := HOy.out
            have hall : acc.length ≤ 1000000 := by have := HAL.out; omega
            clear HS1 HS2 HLAST
            go_wp2_with (at_builtin; go_must (refine wpList_append_sp rfl (.tmp 76) (.tmp 80) rfl wS.heap.size (.slice a4 k c4) acc rfl hown a a rfl hall hszy ?_; intro g5 c5 W5 own5 grow5 lie5))
            go_roundw
            case rel => exact ⟨k + 1, acc ++ [(a, a)], by omega, by go_num, own5, by rw [Hid, List.length_append, HAL.out]; rfl, HBz.out.trans (app_below HOy.out grow5 hszy), HN2.out, fun x hx => by rcases List.mem_append.1 hx with h | h; exact HOKA.out x h; rw [List.mem_singleton] at h; subst h; exact ⟨by show (-1 : Int) ≤ a; omega, by show a ≤ 99999; omega⟩⟩
            case measure => simp [intOf]; omega
      by_cases hM2 : M = 2
      · as_aux_lemma =>
        subst hM2
        obtain ⟨x0, x1, rfl⟩ : ∃ x0 x1, xs = [x0, x1] := by
          have hm := HMM.out
          match xs, hm with
          | [x, y], _ => exact ⟨x, y, rfl⟩
        have hc0 : w2.cell? ⟨gx, 0, none⟩ = some (.string (mkB x0)) := HCX.out 0 (by simp)
        have hc1 : w2.cell? ⟨gx, 1, none⟩ = some (.string (mkB x1)) := HCX.out 1 (by simp)
        have hx0 := HXZ.out x0 (by simp)
        have hx1 := HXZ.out x1 (by simp)
        have hwh := whole_any (mkB x0) 5 w2 (by omega) (by omega) (by rw [mkB_size]; unfold maxLen; omega)
        have hwi := whole_any (mkB x1) 5 w2 (by omega) (by omega) (by rw [mkB_size]; unfold maxLen; omega)
        rw [mkB_toList] at hwh hwi
        have HRW : Hid (refWord wk = refChk 2 (wholeL x0 5) (wholeL x1 5)) := HRW0.out
        obtain ⟨a, ha⟩ : ∃ a, wholeL x0 5 = a := ⟨_, rfl⟩
        obtain ⟨b, hb⟩ : ∃ b, wholeL x1 5 = b := ⟨_, rfl⟩
        rw [ha] at hwh HRW
        rw [hb] at hwi HRW
        clear ha hb hx0 hx1 HXZ HCX HMM HRW0
        go_upto_region 11 with (go_at_call 116; go_must (refine hwh.mono ?_; rintro e _ ⟨rfl, rfl⟩))
        clear hwh hc0
        go_upto_region 13 with (go_at_call 116; go_must (refine hwi.mono ?_; rintro e _ ⟨rfl, rfl⟩))
        clear hwi hc1
        by_cases hb1 : a < 0
        · as_aux_lemma =>
          have HQ := hid (HNO.out _ HBx.out (HNN.out (by rw [HRW.out]; unfold refChk; rw [if_pos (by omega)])))
          clear HNN HSS
          go_wp2_with fail
          exact HQ.out
        by_cases hb2 : 65535 < b
        · as_aux_lemma =>
          have HQ := hid (HNO.out _ HBx.out (HNN.out (by rw [HRW.out]; unfold refChk; rw [if_pos (by omega)])))
          clear HNN HSS
          go_wp2_with fail
          exact HQ.out
        by_cases hb3 : b ≤ a
        · as_aux_lemma =>
          have HQ := hid (HNO.out _ HBx.out (HNN.out (by rw [HRW.out]; unfold refChk; rw [if_pos (by omega)])))
          clear HNN HSS
          go_wp2_with fail
          exact HQ.out
        obtain ⟨hs1, hs2⟩ := HSS.out a b (by rw [HRW.out]; unfold refChk; rw [if_neg (by omega)])
        have HS1 := hid hs1
        have HS2 := hid hs2
        clear hs1 hs2 HNN HSS
        by_cases hfull : 200 ≤ k
        · as_aux_lemma =>
          have hfull' : (200 : Int) ≤ (k : Int) := by omega
          have HQ := hid (HNO.out _ HBx.out (HS1.out (.inl hfull)))
          clear HS1 HS2
          go_wp2_with fail
          exact HQ.out
        · as_aux_lemma =>
          have hfull' : ¬ (200 : Int) ≤ (k : Int) := by omega
          go_upto_region 15 with fail
          by_cases hk1 : 0 < k
          · as_aux_lemma =>
            have hk1' : (0 : Int) < (k : Int) := by omega
            obtain ⟨j, hj⟩ : ∃ j, k = j + 1 := ⟨k - 1, by omega⟩
            obtain ⟨g4, t2, hu4, hc4, hc4', hce4, ht4, ht0, ht1⟩ := HLAST.out j hj
            clear HLAST
            subst hj hu4
            have HT4 := hid ht4
            clear ht4
            by_cases htc : a ≤ t2 + 1
            · as_aux_lemma =>
              have HQ := hid (HNO.out _ HBx.out (HS1.out (.inr (by rw [HT4.out]; exact decide_eq_true htc))))
              clear HS1 HS2
              go_wp2_with fail
              exact HQ.out
            · as_aux_lemma =>
              have HN2 := hid (HS2.out (by omega) (by rw [HT4.out]; exact decide_eq_false htc))
              have hown := HOy.out
              have hall : acc.length ≤ 1000000 := by have := HAL.out; omega
              clear HS1 HS2
              go_wp2_with (at_builtin; go_must (refine wpList_append_sp rfl (.tmp 76) (.tmp 80) rfl wS.heap.size (.slice (some ⟨g4, 0, none⟩) (j + 1) c4) acc rfl hown a b rfl hall hszy ?_; intro g5 c5 W5 own5 grow5 lie5))
              go_roundw
              case rel => exact ⟨j + 1 + 1, acc ++ [(a, b)], by omega, by go_num, own5, by rw [Hid, List.length_append, HAL.out]; rfl, HBz.out.trans (app_below HOy.out grow5 hszy), HN2.out, fun x hx => by rcases List.mem_append.1 hx with h | h; exact HOKA.out x h; rw [List.mem_singleton] at h; subst h; exact ⟨by show (-1 : Int) ≤ b; omega, by show b ≤ 99999; omega⟩⟩
              case measure => simp [intOf]; omega
          · as_aux_lemma =>
            have hk1' : ¬ (0 : Int) < (k : Int) := by omega
            have HN2 := hid (HS2.out (by omega) (HT0.out (by omega) a))
            have hown := HOy.out
            have hall : acc.length ≤ 1000000 := by have := HAL.out; omega
            clear HS1 HS2 HLAST
            go_wp2_with (at_builtin; go_must (refine wpList_append_sp rfl (.tmp 76) (.tmp 80) rfl wS.heap.size (.slice a4 k c4) acc rfl hown a b rfl hall hszy ?_; intro g5 c5 W5 own5 grow5 lie5))
            go_roundw
            case rel => exact ⟨k + 1, acc ++ [(a, b)], by omega, by go_num, own5, by rw [Hid, List.length_append, HAL.out]; rfl, HBz.out.trans (app_below HOy.out grow5 hszy), HN2.out, fun x hx => by rcases List.mem_append.1 hx with h | h; exact HOKA.out x h; rw [List.mem_singleton] at h; subst h; exact ⟨by show (-1 : Int) ≤ b; omega, by show b ≤ 99999; omega⟩⟩
            case measure => simp [intOf]; omega
      · as_aux_lemma =>
        have hM3 : 2 < M := by omega
        obtain ⟨x0, xr, rfl⟩ : ∃ x0 xr, xs = x0 :: xr := by
          cases xs with
          | nil => have := HMM.out; simp at this; omega
          | cons x r => exact ⟨x, r, rfl⟩
        have hc0 : w2.cell? ⟨gx, 0, none⟩ = some (.string (mkB x0)) := HCX.out 0 (by simp)
        have hx0 := HXZ.out x0 (by simp)
        have hwh := whole_any (mkB x0) 5 w2 (by omega) (by omega) (by rw [mkB_size]; unfold maxLen; omega)
        rw [mkB_toList] at hwh
        have HQ := hid (HNO.out _ HBx.out (HNN.out (by rw [HRW0.out, HMM.out]; unfold refChk; rw [if_pos (.inl hM3)])))
        obtain ⟨a, ha⟩ : ∃ a, wholeL x0 5 = a := ⟨_, rfl⟩
        rw [ha] at hwh
        have hM3' : (2 : Int) < (M : Int) := by omega
        have hM2' : ¬ (M : Int) = 2 := by omega
        clear ha hx0 HXZ HCX HMM HRW0 HNN HSS
        go_wp2_with (go_at_call 116; go_must (refine hwh.mono ?_; rintro e _ ⟨rfl, rfl⟩))
        exact HQ.out
    · as_aux_lemma =>
      have hlt' : ¬ (k : Int) < (N : Int) := by omega
      have hRS : RR = some acc := by
        have := HF.out
        rw [List.drop_of_length_le (by rw [HN.out]; omega)] at this
        exact this.symm
      have HQ := hid (HYES.out u4 acc wr hRS (hown.base HBS.out.size) (HBS.out.trans (hb.mono HBS.out.size)))
      clear hRS HF hown hb
      go_wp2_with fail
      exact HQ.out
end Go.Proofs.YthnkjfgiclolaaaGreatDoor
