/- What choose returns (package rule): 'ysL'. -/
import Derived.Test.YtjhofmmmlemfcaaDoorExP3
namespace Go.Proofs.YtjhofmmmlemfcaaDoor
open Go.RowKit
set_option linter.unusedVariables false
set_option maxRecDepth 10000

theorem concB (a b : List UInt8) : mkB a ++ mkB b = mkB (a ++ b) := mkB_append a b
set_option maxHeartbeats 16000000 in
theorem choose_any (T : Nat) (hTM : 1 < T) : ∀ (n : Nat) (t : List UInt8), t.length ≤ n → pairB false t = true → ∀ (h : List UInt8) (W : World) (v : Value) (ss : List ByteArray) (z : Int), TeAt W T v ss z → MxL W → h.length + t.length ≤ 2000 → -1 ≤ z → z ≤ 2000 →
    Calls Tryd.prog 40 #[.string (mkB h), .string (mkB t), .func (.func 39) #[] #[.pointer (some ⟨T, 0, none⟩), .pointer (some ⟨T + 1, 0, none⟩)]] W (ChoP T v ss z (ysL h t) W) := by
  intro n
  induction n using Nat.strongRecOn with
  | _ n ih =>
  intro t htn hp h W v ss z hT hM hl hz hz2
  obtain ⟨Q, hQ⟩ : ∃ Q : Ending → World → Prop, Q = ChoP T v ss z (ysL h t) W := ⟨_, rfl⟩
  have HQ : Hid (∀ e W', ChoP T v ss z (ysL h t) W e W' → Q e W') := by rw [hQ]; exact fun e W' h => h
  rw [← hQ]
  clear hQ
  have hc := fun w => strCut_any (mkB t) 123 w (by rw [mkB_size]; unfold maxLen; omega)
  rw [mkB_toList] at hc
  have HT := hidR hT
  have hh1 : (mkB h).size ≤ 1048576 := by rw [mkB_size]; omega
  rcases hm : (splitC 123 t).2.2 with _ | _
  · as_aux_lemma =>
    have ha := splitC_allX hm
    rw [hm, ha] at hc
    have htl := fun w (hw : TeAt w T v ss z) => tellA_any w T v ss z (h ++ t) hw (by simp; omega) hz (by omega)
    have hys : ysL h t = [h ++ t] := by unfold ysL; rw [expL_none hm]; rfl
    have hs : sumL (ysL h t) = (h ++ t).length + 1 := by rw [hys]; rfl
    have HFIN : Hid (∀ v' w w' b, Drew W w → b = decide (z + (((h ++ t).length : Int) + 1) ≤ 2000) → TeAt w' T v' (ss ++ [mkB (h ++ t)]) (z + (((h ++ t).length : Int) + 1)) → TeF T v v' w w' → Q (.returned (.bool b)) w') := fun v' w w' b hd hb h1 h2 => by
      have f1 := TeF.of_below (T := T) v (hd.below W.heap.size) (by have := HT.out.sz; omega)
      refine HQ.out _ _ ⟨v', f1.trans h2, ?_⟩
      rw [hs]
      have e : z + (((h ++ t).length + 1 : Nat) : Int) = z + (((h ++ t).length : Int) + 1) := by omega
      rw [e]
      by_cases hle : z + (((h ++ t).length : Int) + 1) ≤ 2000
      · exact .inl ⟨hle, by rw [hb, decide_eq_true hle], by rw [hys]; exact h1⟩
      · exact .inr ⟨by omega, by rw [hb, decide_eq_false hle]⟩
    have HE := hidR (concB h t)
    have hh2 : (mkB h).size + (mkB t).size ≤ 1048576 := by rw [mkB_size, mkB_size]; omega
    have hh3 : (mkB t).size ≤ 1048576 := by omega
    generalize z + (((h ++ t).length : Int) + 1) = z' at htl HFIN
    generalize hbb : decide (z' ≤ 2000) = bb at htl HFIN
    generalize (splitC 123 t).2.1 = rr at hc
    clear ih hT hM hl hz hz2 ha hys hs hm hp htn HQ
    go_enter Tryd.func40, Tryd.ntmps40
    go_upto_region 2 with (go_at_call 13; go_must (refine (hc _).mono ?_; rintro e w2 ⟨rfl, d2⟩))
    have ht2 := htl w2 (HT.out.below (d2.below _))
    have HD2 := hidR d2
    clear hc htl d2
    go_upto_region 3 with fail
    rw [HE.out]
    go_wp2_with (go_at_call 39; go_must (refine ht2.mono ?_; rintro e w3 ⟨v3, rfl, R3, F3⟩))
    exact HFIN.out v3 w2 w3 _ HD2.out rfl R3 F3
  · as_aux_lemma =>
    obtain ⟨hp1, hp2⟩ := pair_none t hp hm
    obtain ⟨hq1, hq2, hq3⟩ := pair_open _ hp2
    have hjl := congrArg List.length (splitC_joinX hm)
    rw [List.length_append, List.length_cons] at hjl
    have hys := ysL_cut (h := h) hm
    rw [hm] at hc
    generalize (splitC 123 t).1 = a at hc hjl hys hp1
    generalize (splitC 123 t).2.1 = r at hc hjl hys hq1 hq2 hq3 hp2
    have hc2 := fun w => strCut_any (mkB r) 125 w (by rw [mkB_size]; unfold maxLen; omega)
    rw [mkB_toList, hq1] at hc2
    have hjl2 := congrArg List.length (splitC_joinX hq1)
    rw [List.length_append, List.length_cons] at hjl2
    generalize (splitC 125 r).1 = inn at hc2 hjl2 hys hq2
    generalize (splitC 125 r).2.1 = r2 at hc2 hjl2 hys hq3
    have hsp := fun w (hM : MxL w) => splitM_any 124 inn w hM (by omega)
    have hcl := cut_len 124 inn
    have hcc := cut_cnt 124 inn
    generalize cutL 124 inn = ws at hsp hcl hcc hys
    have HIH : Hid (∀ (b : List UInt8) (W : World) (v : Value) (ss : List ByteArray) (z : Int), b ∈ ws → TeAt W T v ss z → MxL W → -1 ≤ z → z ≤ 2000 → Calls Tryd.prog 40 #[.string (mkB (h ++ a ++ b)), .string (mkB r2), .func (.func 39) #[] #[.pointer (some ⟨T, 0, none⟩), .pointer (some ⟨T + 1, 0, none⟩)]] W (ChoP T v ss z (ysL (h ++ a ++ b) r2) W)) := by
      intro b W v ss z hb hT hM hz hz2
      have := hcl b hb
      exact ih r2.length (by omega) r2 (Nat.le_refl _) hq3 (h ++ a ++ b) W v ss z hT hM (by simp; omega) hz hz2
    have HYS : Hid (ysL h t = ws.flatMap (fun b => ysL (h ++ a ++ b) r2)) := hys
    have HE := hidR (concB h a)
    have hh2 : (mkB h).size + (mkB a).size ≤ 1048576 := by rw [mkB_size, mkB_size]; omega
    have hh3 : (mkB a).size ≤ 1048576 := by omega
    have HE2 : Hid (∀ b ∈ ws, mkB (h ++ a) ++ mkB b = mkB (h ++ a ++ b) ∧ (mkB (h ++ a)).size + (mkB b).size ≤ 1048576 ∧ (mkB (h ++ a)).size ≤ 1048576 ∧ (mkB b).size ≤ 1048576) := fun b hb => by
      have := hcl b hb
      refine ⟨concB _ _, ?_, ?_, ?_⟩
      · rw [mkB_size, mkB_size]; simp; omega
      · rw [mkB_size]; simp; omega
      · rw [mkB_size]; omega
    have HM := hidR hM
    have HZ := hidR (And.intro hz hz2)
    obtain ⟨N, hN⟩ : ∃ N, ws.length = N := ⟨_, rfl⟩
    rw [hN] at hcc
    simp only [hN] at hsp
    have hcc2 : N ≤ 2001 := by omega
    have HN := hidR hN
    clear ih hT hM hl hz hz2 hm hp htn hys hcl hcc hjl hjl2 hp1 hp2 hq1 hq2 hq3 hN
    go_enter Tryd.func40, Tryd.ntmps40
    go_upto_region 2 with (go_at_call 13; go_must (refine (hc _).mono ?_; rintro e w2 ⟨rfl, d2⟩))
    clear hc
    go_upto_region 3 with fail
    rw [HE.out]
    clear hh2 hh3
    go_upto_region 6 with (go_at_call 13; go_must (refine (hc2 _).mono ?_; rintro e w3 ⟨rfl, d3⟩))
    have D3 := d2.trans d3
    have hM3 := mxl_below HM.out hTM (D3.below T)
    have hs3 := hsp w3 hM3
    have b4 : Below w3.heap.size w3 (w3.alloc (.cells (ws.map fun x => Value.string (mkB x)).toArray 9)) := (Below.refl _ _).alloc (Nat.le_refl _) _
    have z4 : (w3.alloc (.cells (ws.map fun x => Value.string (mkB x)).toArray 9)).heap.size = w3.heap.size + 1 := by simp
    have hcel : ∀ j (hj : j < ws.length), (w3.alloc (.cells (ws.map fun x => Value.string (mkB x)).toArray 9)).cell? ⟨w3.heap.size, j, none⟩ = some (.string (mkB ws[j])) := fun j hj => by
      simp [World.cell?_alloc_new, hj]
    have hT3 := HT.out.below (D3.below W.heap.size)
    have hT4 := hT3.below b4
    have hM4 := mxl_below hM3 hTM (b4.mono (by have := hT3.sz; omega))
    have f4 := (TeF.of_below (T := T) v (D3.below W.heap.size) (by have := HT.out.sz; omega)).trans (TeF.of_below (T := T) v b4 (by have := hT3.sz; omega))
    have hown3 : ∀ k, v.ownBlock = some k → k < w3.heap.size := fun k hk => (hT3.own.lt k hk).2
    have hTg : T + 2 ≤ w3.heap.size := hT3.sz
    obtain ⟨g, hg⟩ : ∃ g, w3.heap.size = g := ⟨_, rfl⟩
    rw [hg] at hs3 hcel z4 hown3 hTg
    obtain ⟨W4, hW4⟩ : ∃ W4, w3.alloc (.cells (ws.map fun x => Value.string (mkB x)).toArray 9) = W4 := ⟨_, rfl⟩
    rw [hW4] at hs3 hcel z4 hT4 hM4 f4
    have HC4 := hidR hcel
    have HT4 := hidR hT4
    have HM4 := hidR hM4
    have HF4 := hidR f4
    have HO4 := hidR (And.intro hown3 (And.intro z4 hTg))
    clear hsp d2 d3 D3 hM3 b4 z4 hcel hT3 hT4 hM4 f4 hown3 hTg hg hW4 HT HM
    go_upto_region 7 with (go_at_call 35; go_must (refine hs3.mono ?_; rintro e w4 ⟨rfl, hw4⟩; rw [hw4]; clear hw4))
    clear hs3
    go_loopw [12, 36] (fun _ i wr => ∃ (k : Nat) (v' : Value), k ≤ N ∧ i = .int .i64 (k : Int) ∧ Hid (TeF T v v' W4 wr) ∧ Hid (z + (sumL ((ws.take k).flatMap (fun b => ysL (h ++ a ++ b) r2)) : Int) ≤ 2000) ∧ Hid (TeAt wr T v' (ss ++ ((ws.take k).flatMap (fun b => ysL (h ++ a ++ b) r2)).map mkB) (z + (sumL ((ws.take k).flatMap (fun b => ysL (h ++ a ++ b) r2)) : Int)))) (fun _ i _ => ((N : Int) - intOf i).toNat)
    case atStart =>
      refine ⟨0, v, by omega, rfl, TeF.refl _ _ _, ?_, ?_⟩
      · have := HZ.out.2; simpa [Hid, sumL] using this
      · have := HT4.out; simpa [Hid, sumL] using this
    case round =>
      obtain ⟨k, v', hk, rfl, HF, HS, HT⟩ := hrel
      by_cases hlt : k < N
      · have hlt' : (k : Int) < (N : Int) := by omega
        have hk0 : (0 : Int) ≤ (k : Int) := by omega
        have hkl : k < ws.length := by rw [HN.out]; exact hlt
        have hbm : ws[k] ∈ ws := List.getElem_mem hkl
        have hM5 := mxl_below HM4.out hTM HF.out.bel
        have c0 : wr.cell? ⟨g, k, none⟩ = some (.string (mkB ws[k])) := by
          rw [World.cell?_of_block (w := W4) (HF.out.blk g (by have := HO4.out.2.1; omega) (by have := HO4.out.2.2; omega) (by have := HO4.out.2.2; omega) (fun e => by have := HO4.out.1 g e; omega))]
          exact HC4.out k hkl
        have hz5 : -1 ≤ z + (sumL ((ws.take k).flatMap (fun b => ysL (h ++ a ++ b) r2)) : Int) := by have := HZ.out.1; omega
        have hch := HIH.out ws[k] wr v' _ _ hbm HT.out hM5 hz5 HS.out
        have e1 := flat_take (fun b => ysL (h ++ a ++ b) r2) ws k hkl
        have e2 : sumL ((ws.take (k + 1)).flatMap (fun b => ysL (h ++ a ++ b) r2)) = sumL ((ws.take k).flatMap (fun b => ysL (h ++ a ++ b) r2)) + sumL (ysL (h ++ a ++ ws[k]) r2) := by rw [e1, sumL_append]
        have e3 := sum_take (fun b => ysL (h ++ a ++ b) r2) ws (k + 1)
        obtain ⟨he1, he2, he3, he4⟩ := HE2.out ws[k] hbm
        have HHE := hidR he1
        generalize ws[k] = x at c0 hch e1 e2 he2 he4 HHE
        have HG : Hid (∀ e w', ChoP T v' (ss ++ ((ws.take k).flatMap (fun b => ysL (h ++ a ++ b) r2)).map mkB) (z + (sumL ((ws.take k).flatMap (fun b => ysL (h ++ a ++ b) r2)) : Int)) (ysL (h ++ a ++ x) r2) wr e w' → (∃ v5, e = .returned (.bool true) ∧ TeF T v v5 W4 w' ∧ z + (sumL ((ws.take (k + 1)).flatMap (fun b => ysL (h ++ a ++ b) r2)) : Int) ≤ 2000 ∧ TeAt w' T v5 (ss ++ ((ws.take (k + 1)).flatMap (fun b => ysL (h ++ a ++ b) r2)).map mkB) (z + (sumL ((ws.take (k + 1)).flatMap (fun b => ysL (h ++ a ++ b) r2)) : Int))) ∨ (e = .returned (.bool false) ∧ Q (.returned (.bool false)) w')) := by
          intro e w' hcp
          obtain ⟨v5, f5, ⟨g1, g2, g3⟩ | ⟨g1, g2⟩⟩ := hcp.go
          · refine .inl ⟨v5, g2, HF.out.trans f5, by omega, ?_⟩
            rw [e1, List.map_append, ← List.append_assoc, sumL_append, show z + ((sumL ((ws.take k).flatMap (fun b => ysL (h ++ a ++ b) r2)) + sumL (ysL (h ++ a ++ x) r2) : Nat) : Int) = z + (sumL ((ws.take k).flatMap (fun b => ysL (h ++ a ++ b) r2)) : Int) + (sumL (ysL (h ++ a ++ x) r2) : Int) by omega]
            exact g3
          · refine .inr ⟨g2, HQ.out _ _ ⟨v5, (HF4.out.trans HF.out).trans f5, .inr ⟨?_, rfl⟩⟩⟩
            rw [HYS.out]
            omega
        clear e1 e2 e3 HF HS HT hM5 hz5 hbm hkl he1
        rw [← HHE.out] at hch
        go_wp2_with (go_at_call 40; go_must (refine hch.mono ?_; intro e w5 hcp; rcases HG.out e w5 hcp with ⟨v5, rfl, r1, r2, r3⟩ | ⟨rfl, q5⟩))
        · go_roundw
          case rel => exact ⟨k + 1, v5, by omega, by go_num, r1, r2, r3⟩
          case measure => simp [intOf]; omega
        · exact q5
      · have hlt' : ¬ (k : Int) < (N : Int) := by omega
        have hq := HQ.out (.returned (.bool true)) wr ⟨v', HF4.out.trans HF.out, .inl (by
          have e : ws.take k = ws := List.take_of_length_le (by rw [HN.out]; omega)
          have h1 := HS.out
          have h2 := HT.out
          rw [e, ← HYS.out] at h1 h2
          exact ⟨h1, rfl, h2⟩)⟩
        have HQQ := hidR hq
        clear hq HF HS HT
        go_wp2
        exact HQQ.out
end Go.Proofs.YtjhofmmmlemfcaaDoor
