/- What the reference's Expand returns (package portref1): 'expS'. -/
import Derived.Test.YtjhofmmmlemfcaaDoorExR1
import Derived.Test.YtjhofmmmlemfcaaDoorExR4
namespace Go.Proofs.YtjhofmmmlemfcaaDoor
open Go.RowKit
set_option linter.unusedVariables false
set_option maxRecDepth 10000

theorem pre_all (x p : List UInt8) : Lib.hasPrefix x p = true ↔ p.length ≤ x.length ∧ x.take p.length = p := by
  rw [← Lib.hasPrefix_of_take, Bool.and_eq_true, decide_eq_true_iff, beq_iff_eq]
theorem bst_ge (ns : List (List UInt8)) (t : List UInt8) (k : Nat) : -1 ≤ bstU ns t k ∧ bstU ns t k < (k : Int) := ⟨(bstU_range ns t k).1, (bstU_range ns t k).2.1⟩
theorem map_pre (p q : List UInt8) (o : Option (List UInt8)) : (o.map (fun z => q ++ z)).map (fun z => p ++ z) = o.map (fun z => (p ++ q) ++ z) := by
  cases o <;> simp
theorem fil_byte {ns ts : List (List UInt8)} {R pre : List UInt8} {j : Nat} (hj : j < R.length) (h36 : R[j] ≠ 36) (h : filO ns ts R = (filO ns ts (R.drop j)).map (fun z => pre ++ z)) : filO ns ts R = (filO ns ts (R.drop (j + 1))).map (fun z => (pre ++ [R[j]]) ++ z) := by
  rw [h, List.drop_eq_getElem_cons hj, filO_byte _ _ _ _ h36, show (fun z => R[j] :: z) = (fun z => [R[j]] ++ z) from rfl, map_pre]
theorem fil_mark {ns ts : List (List UInt8)} {R pre : List UInt8} {j : Nat} (hj : j < R.length) (h36 : R[j] = 36) (h : filO ns ts R = (filO ns ts (R.drop j)).map (fun z => pre ++ z)) :
    (bst ns (R.drop (j + 1)) < 0 → filO ns ts R = none) ∧ (∀ m : Nat, bst ns (R.drop (j + 1)) = (m : Int) → filO ns ts R = (filO ns ts (R.drop (j + (ns.getD m []).length + 1))).map (fun z => (pre ++ ts.getD m []) ++ z)) := by
  have e : R.drop j = 36 :: R.drop (j + 1) := by rw [List.drop_eq_getElem_cons hj, h36]
  rw [e, filO_mark] at h
  refine ⟨fun hb => by rw [h, if_pos hb]; rfl, fun m hm => ?_⟩
  rw [h, if_neg (by rw [hm]; omega), hm, Int.toNat_natCast, map_pre, List.drop_drop]
  congr 2
  congr 1
  omega
theorem fil_end {ns ts : List (List UInt8)} {R pre : List UInt8} {j : Nat} (hj : j = R.length) (h : filO ns ts R = (filO ns ts (R.drop j)).map (fun z => pre ++ z)) : filO ns ts R = some pre := by
  rw [h, hj, List.drop_length, filO_nil]; simp
/-- A row of texts, wherever it lies. -/
def RowZ (W : World) (al : Option Addr) (ns : List (List UInt8)) : Prop := 0 < ns.length → ∃ g, al = some ⟨g, 0, none⟩ ∧ g < W.heap.size ∧ ∀ j (hj : j < ns.length), W.cell? ⟨g, j, none⟩ = some (.string (mkB ns[j]))
theorem RowZ.below {W W' : World} {al : Option Addr} {ns : List (List UInt8)} (h : RowZ W al ns) (b : Below W.heap.size W W') : RowZ W' al ns := fun hp => by
  obtain ⟨g, h1, h2, h3⟩ := h hp
  exact ⟨g, h1, Nat.lt_of_lt_of_le h2 b.size, fun j hj => (b.cell (p := ⟨g, j, none⟩) h2).trans (h3 j hj)⟩
/-- What Expand says, by Names and by what is put in. -/
theorem exp_bad {s : List UInt8} (h : (nmAll s).2.2 ≠ 0) : expS s = ([], (nmAll s).2.2) := by rw [expS_eq, if_pos h]
theorem exp_none {s : List UInt8} (h : (nmAll s).2.2 = 0) (hf : filO (nmAll s).1 (nmAll s).2.1 (outL (lnsL s)) = none) : expS s = ([], 5) := by rw [expS_eq, if_neg (by rw [h]; decide), hf]
theorem exp_some {s t : List UInt8} (h : (nmAll s).2.2 = 0) (hf : filO (nmAll s).1 (nmAll s).2.1 (outL (lnsL s)) = some t) : expS s = if 2000 < t.length then ([], 4) else sprO t := by rw [expS_eq, if_neg (by rw [h]; decide), hf]
theorem rest_len (s : List UInt8) (h : s.length ≤ 2000) : (outL (lnsL s)).length ≤ 2000 := by
  have := outL_len (lnsL s) (lnsL s) (List.prefix_refl _)
  rw [lnsL_flat] at this; omega
set_option maxHeartbeats 64000000 in
theorem refExpand_any (s : List UInt8) (w : World) :
    Calls Tryd.prog 7 #[.string (mkB s)] w fun e w' => e = .returned (.tuple #[.string (mkB (expS s).1), .int .i64 (expS s).2]) ∧ Below w.heap.size w w' := by
  obtain ⟨Q, hQ⟩ : ∃ Q : Ending → World → Prop, Q = fun e w' => e = .returned (.tuple #[.string (mkB (expS s).1), .int .i64 (expS s).2]) ∧ Below w.heap.size w w' := ⟨_, rfl⟩
  have HQ : Hid (∀ l E w', expS s = (l, E) → Below w.heap.size w w' → Q (.returned (.tuple #[.string (mkB l), .int .i64 E])) w') := by
    rw [hQ]; intro l E w' e hb; exact ⟨by rw [e], hb⟩
  rw [← hQ]
  clear hQ
  have hn := refNames_any s w
  have hL := nmAll_len s
  by_cases h0 : (nmAll s).2.2 = 0
  · have hs : s.length ≤ 2000 := by
      unfold nmAll at h0
      split at h0
      · exact absurd h0 (by decide)
      · omega
    have hRL := rest_len s hs
    have HXN := hidR (fun hf => exp_none h0 hf)
    have HXS := hidR (fun t hf => @exp_some s t h0 hf)
    rw [if_pos h0, h0] at hn
    have hn2 : Calls Tryd.prog 4 #[.string (mkB s)] w fun e w' => ∃ v u, e = .returned (.tuple #[v, u, .string (mkB (outL (lnsL s))), .int .i64 0]) ∧ OwnS w' w.heap.size v ((nmAll s).1.map mkB) ∧ OwnS w' w.heap.size u ((nmAll s).2.1.map mkB) ∧ Below w.heap.size w w' := hn.mono (by rintro e w' ⟨v, u, h1, h2⟩; exact ⟨v, u, h1, h2.o1, h2.o2, h2.bel⟩)
    obtain ⟨R, hR⟩ : ∃ R, outL (lnsL s) = R := ⟨_, rfl⟩
    obtain ⟨ns, hns⟩ : ∃ ns, (nmAll s).1 = ns := ⟨_, rfl⟩
    obtain ⟨ts, hts⟩ : ∃ ts, (nmAll s).2.1 = ts := ⟨_, rfl⟩
    rw [hR, hns, hts] at hn2 HXN HXS
    rw [hR] at hRL
    rw [hns, hts] at hL
    obtain ⟨hL1, hL2, hL3, hL4⟩ := hL
    have HLN := hidR (And.intro hL3 hL4)
    have hrz : (mkB R).size = R.length := mkB_size R
    have HRZ := hidR hrz
    have hrz2 : ((mkB R).size : Int) ≤ 2000 := by omega
    clear hn hs hR hns hts h0 hL3 hL4 hrz
    go_enter Tryd.func7, Tryd.ntmps7
    go_upto_region 2 with (go_at_call 4; go_must (refine hn2.mono ?_; rintro e W1 ⟨v4, v5, rfl, o4, o5, b1⟩))
    obtain ⟨a4, c4, h4⟩ := o4.len'
    obtain ⟨a5, c5, h5⟩ := o5.len'
    rw [List.length_map] at h4 h5
    have hr4 := o4.rowT
    have hr5 := o5.rowT
    obtain ⟨NK, hNK⟩ : ∃ m, ns.length = m := ⟨_, rfl⟩
    rw [hNK] at h4
    rw [← hL1, hNK] at h5
    have HNT : Hid (ts.length = NK) := by rw [← hL1]; exact hNK
    rw [hNK] at hL2
    subst h4 h5
    have HR4 : Hid (RowZ W1 a4 ns) := by
      obtain ⟨a', c', e, h⟩ := hr4
      injection e with e1 _ _
      subst e1
      exact h
    have HR5 : Hid (RowZ W1 a5 ts) := by
      obtain ⟨a', c', e, h⟩ := hr5
      injection e with e1 _ _
      subst e1
      exact h
    have HNK := hidR hNK
    have HB1 := hidR b1
    clear hn2 o4 o5 b1 hr4 hr5 hNK hL1
    go_upto_region 6 with fail
    go_loopw [8, 9, 10, 11, 12] (fun tv i _ _ _ w2 => ∃ (j : Nat) (pre : List UInt8), j ≤ R.length ∧ i = .int .i64 (j : Int) ∧ tv = .string (mkB pre) ∧ Hid (filO ns ts R = (filO ns ts (R.drop j)).map (fun z => pre ++ z)) ∧ Hid (pre.length ≤ 2000 * j) ∧ Hid (Below W1.heap.size W1 w2)) (fun _ i _ _ _ _ => ((R.length : Int) - intOf i).toNat)
    case atStart => exact ⟨0, [], by omega, rfl, rfl, by simp [Hid], by simp [Hid], Below.refl _ _⟩
    case round =>
      obtain ⟨j, pre, hj, rfl, rfl, HP, HPL, HW⟩ := hrel
      by_cases hlt : j < R.length
      · have hjz : j < (mkB R).size := by rw [mkB_size]; exact hlt
        have hjz' : (j : Int) < ((mkB R).size : Int) := by omega
        have hj0 : (0 : Int) ≤ (j : Int) := by omega
        have hg := mkB_get R j hjz
        rw [List.getD_eq_getElem?_getD, List.getElem?_eq_getElem hlt, Option.getD_some] at hg
        have spz : (mkB pre).size = pre.length := mkB_size pre
        have hpl := HPL.out
        by_cases h36 : R[j] = 36
        · have e0 : (((mkB R)[j].toNat : Int) != 36) = false := by
            have e1 : (mkB R)[j] = 36 := hg.trans h36
            rw [e1]; rfl
          have HM := hidR (fil_mark hlt h36 HP.out)
          have HJG := hidR hg
          clear hg h36 HP
          obtain ⟨T, hT⟩ : ∃ T, R.drop (j + 1) = T := ⟨_, rfl⟩
          rw [hT] at HM
          have HT : Hid (T.length + j + 1 = R.length ∧ R.drop (j + 1) = T) := ⟨by rw [← hT, List.length_drop]; omega, hT⟩
          clear hT
          go_upto_region 12 with fail
          go_loopw [10, 11, 12] (fun bv kv _ w3 => ∃ k : Nat, k ≤ NK ∧ kv = .int .i64 (k : Int) ∧ bv = .int .i64 (bstU ns T k) ∧ Hid (Below W1.heap.size W1 w3)) (fun _ kv _ _ => ((NK : Int) - intOf kv).toNat)
          case atStart => exact ⟨0, by omega, rfl, rfl, HW.out⟩
          case round =>
            obtain ⟨k, hk, rfl, rfl, HW3⟩ := hrel
            by_cases hlt : k < NK
            · clear HM HXN HXS
              have hlt' : (k : Int) < (NK : Int) := by omega
              have hk0 : (0 : Int) ≤ (k : Int) := by omega
              have hkl : k < ns.length := by rw [HNK.out]; exact hlt
              obtain ⟨g, hga, hgl, hcel⟩ := (HR4.out.below HW3.out) (by omega)
              subst hga
              have c0 := hcel k hkl
              have hkd : ns.getD k [] = ns[k] := by rw [List.getD_eq_getElem?_getD, List.getElem?_eq_getElem hkl]; rfl
              have hnl := HLN.out.2 _ (List.getElem_mem hkl)
              have hst : bstU ns T (k + 1) = bstS ns T (bstU ns T k) k := rfl
              unfold bstS at hst
              rw [hkd] at hst
              have hrg := bst_ge ns T k
              have HCB : Hid (∀ m : Nat, bstU ns T k = (m : Int) → wr.cell? ⟨g, m, none⟩ = some (.string (mkB (ns.getD m []))) ∧ (ns.getD m []).length ≤ 8) := fun m hm => by
                have hml : m < ns.length := by omega
                have : ns.getD m [] = ns[m] := by rw [List.getD_eq_getElem?_getD, List.getElem?_eq_getElem hml]; rfl
                rw [this]; exact ⟨hcel m hml, HLN.out.2 _ (List.getElem_mem hml)⟩
              generalize ns[k] = nk at c0 hnl hst
              have HST := hidR hst
              have HPR := hidR (pre_all T nk)
              have sxn : (mkB nk).size = nk.length := mkB_size nk
              have HSX := hidR sxn
              have hnl8 : ((mkB nk).size : Int) ≤ 8 := by omega
              have hnl0 : (0 : Int) ≤ ((mkB nk).size : Int) := by omega
              clear hst hcel hkl hkd sxn hnl
              obtain ⟨bb, hbb⟩ : ∃ bb, bstU ns T k = bb := ⟨_, rfl⟩
              rw [hbb] at hrg HST HCB ⊢
              obtain ⟨hrg1, hrg2⟩ := hrg
              clear hbb
              by_cases hfit : (j : Int) + 1 + ((mkB nk).size : Int) ≤ ((mkB R).size : Int)
              · have HNF : Hid (nk.length ≤ T.length) := by
                  have := HT.out.1; have := HSX.out; have := HRZ.out; show _ ≤ _; omega
                by_cases heq : T.take nk.length = nk
                · have hpt : Lib.hasPrefix T nk = true := HPR.out.2 ⟨HNF.out, heq⟩
                  have hqs : (((mkB R).extract (j + 1) (j + 1 + (mkB nk).size)).toList == (mkB nk).toList) = true := by
                    rw [sub_ext, beq_iff_eq, HT.out.2, HSX.out, show j + 1 + nk.length - (j + 1) = nk.length by omega, heq]
                  by_cases hb0 : bb < 0
                  · as_aux_lemma =>
                    have HB2 : Hid ((k : Int) = bstU ns T (k + 1)) := by rw [HST.out, if_pos ⟨hpt, .inl hb0⟩]; rfl
                    have hd0 : decide (bb < 0) = true := decide_eq_true hb0
                    clear HST HCB heq hpt HNF HPR HT
                    go_upto_region 15 with fail
                    go_big_quiet (fail)
                    go_wp2
                    go_roundw
                    case rel => exact ⟨k + 1, by omega, by go_num, by rw [HB2.out], _root_.Go.below_drewN HW3.out _⟩
                    case measure => simp [intOf]; omega
                  · obtain ⟨m, rfl⟩ : ∃ m : Nat, bb = (m : Int) := ⟨bb.toNat, by omega⟩
                    obtain ⟨cB, hB8⟩ := HCB.out m rfl
                    have hd0 : decide ((m : Int) < 0) = false := decide_eq_false hb0
                    have hm0 : (0 : Int) ≤ (m : Int) := by omega
                    have hmN : (m : Int) < (NK : Int) := by omega
                    rw [Int.toNat_natCast] at HST
                    generalize ns.getD m [] = nb at cB hB8 HST
                    have sxb : (mkB nb).size = nb.length := mkB_size nb
                    have HSB := hidR sxb
                    clear sxb
                    by_cases hgt : ((mkB nb).size : Int) < ((mkB nk).size : Int)
                    · as_aux_lemma =>
                      have HB2 : Hid ((k : Int) = bstU ns T (k + 1)) := by rw [HST.out, if_pos ⟨hpt, .inr (by have := HSB.out; have := HSX.out; omega)⟩]; rfl
                      clear HST HCB heq hpt HNF HPR HT hB8
                      go_upto_region 15 with fail
                      go_big_quiet (fail)
                      go_wp2
                      go_roundw
                      case rel => exact ⟨k + 1, by omega, by go_num, by rw [HB2.out], _root_.Go.below_drewN HW3.out _⟩
                      case measure => simp [intOf]; omega
                    · as_aux_lemma =>
                      have hd1 : decide (((mkB nb).size : Int) < ((mkB nk).size : Int)) = false := decide_eq_false hgt
                      have HB2 : Hid ((m : Int) = bstU ns T (k + 1)) := by rw [HST.out, if_neg (fun h => h.2.elim (fun h => hb0 h) (fun h => by have := HSB.out; have := HSX.out; omega))]; rfl
                      clear HST HCB heq hpt HNF HPR HT hB8
                      go_upto_region 15 with fail
                      go_big_quiet (fail)
                      go_wp2
                      go_roundw
                      case rel => exact ⟨k + 1, by omega, by go_num, by rw [HB2.out], _root_.Go.below_drewN HW3.out _⟩
                      case measure => simp [intOf]; omega
                · as_aux_lemma =>
                  have hpt : ¬ Lib.hasPrefix T nk = true := fun h => heq (HPR.out.1 h).2
                  have hqs : (((mkB R).extract (j + 1) (j + 1 + (mkB nk).size)).toList == (mkB nk).toList) = false := by
                    rw [sub_ext, beq_eq_false_iff_ne, HT.out.2, HSX.out, show j + 1 + nk.length - (j + 1) = nk.length by omega, ByteArray.toList_eq, ByteArray.toList_eq, mkB_toList, mkB_toList]
                    exact heq
                  have HB2 : Hid (bb = bstU ns T (k + 1)) := by rw [HST.out, if_neg (fun h => hpt h.1)]; rfl
                  clear HST HCB heq hpt HNF HPR HT
                  go_upto_region 15 with fail
                  go_big_quiet (fail)
                  go_wp2
                  go_roundw
                  case rel => exact ⟨k + 1, by omega, by go_num, by rw [HB2.out], _root_.Go.below_drewN HW3.out _⟩
                  case measure => simp [intOf]; omega
              · as_aux_lemma =>
                have hd1 : decide ((j : Int) + 1 + ((mkB nk).size : Int) ≤ ((mkB R).size : Int)) = false := decide_eq_false hfit
                have hpt : ¬ Lib.hasPrefix T nk = true := fun h => by
                  have h1 := (HPR.out.1 h).1
                  have := HT.out.1; have := HSX.out; have := HRZ.out; omega
                have HB2 : Hid (bb = bstU ns T (k + 1)) := by rw [HST.out, if_neg (fun h => hpt h.1)]; rfl
                clear HST HCB hpt HPR HT
                go_upto_region 15 with fail
                go_big_quiet (fail)
                go_wp2
                go_roundw
                case rel => exact ⟨k + 1, by omega, by go_num, by rw [HB2.out], _root_.Go.below_drewN HW3.out _⟩
                case measure => simp [intOf]; omega
            · have hkn : k = NK := by omega
              have hlf : ¬ (k : Int) < (NK : Int) := by omega
              have HBS : Hid (bstU ns T k = bst ns T) := by rw [hkn, ← HNK.out]; rfl
              clear hlt hkn
              have hrg := bst_ge ns T k
              have hnn : 0 ≤ bst ns T → (bst ns T).toNat < ns.length ∧ (ns.getD (bst ns T).toNat []).length ≤ T.length := fun h => bst_hit h
              rw [HBS.out] at hrg ⊢
              obtain ⟨bb, hbb⟩ : ∃ bb, bst ns T = bb := ⟨_, rfl⟩
              rw [hbb] at hrg HM hnn ⊢
              obtain ⟨hrg1, hrg2⟩ := hrg
              clear HBS hbb
              by_cases hb0 : bb < 0
              · as_aux_lemma =>
                have HQQ := hidR (HQ.out [] 5 wr (HXN.out (HM.out.1 hb0)) (HB1.out.trans (HW3.out.mono HB1.out.size)))
                clear HM hnn
                go_wp2
                exact HQQ.out
              · as_aux_lemma =>
                obtain ⟨m, rfl⟩ : ∃ m : Nat, bb = (m : Int) := ⟨bb.toNat, by omega⟩
                have hm2 := HM.out.2 m rfl
                obtain ⟨hm3, hm4⟩ := hnn (by omega)
                rw [Int.toNat_natCast] at hm3 hm4
                have hmt : m < ts.length := by rw [HNT.out, ← HNK.out]; exact hm3
                obtain ⟨g4, hg4, hgl4, hcel4⟩ := (HR4.out.below HW3.out) (by omega)
                obtain ⟨g5, hg5, hgl5, hcel5⟩ := (HR5.out.below HW3.out) (by omega)
                subst hg4 hg5
                have c4' := hcel4 m hm3
                have c5' := hcel5 m hmt
                have e4 : ns.getD m [] = ns[m] := by rw [List.getD_eq_getElem?_getD, List.getElem?_eq_getElem hm3]; rfl
                have e5 : ts.getD m [] = ts[m] := by rw [List.getD_eq_getElem?_getD, List.getElem?_eq_getElem hmt]; rfl
                rw [e4, e5] at hm2
                rw [e4] at hm4
                have hl5 := HLN.out.1 _ (List.getElem_mem hmt)
                have hl4 := HLN.out.2 _ (List.getElem_mem hm3)
                generalize ns[m] = nm at c4' hm2 hm4 hl4
                generalize ts[m] = tm at c5' hm2 hl5
                have HF := hidR hm2
                have hm0 : (0 : Int) ≤ (m : Int) := by omega
                have hmN : (m : Int) < (NK : Int) := by have := HNK.out; omega
                have hsm : (mkB nm).size = nm.length := mkB_size nm
                have hst : (mkB tm).size = tm.length := mkB_size tm
                have hm8 : ((mkB nm).size : Int) ≤ 8 := by omega
                have HSM := hidR hsm
                have HM4 := hidR hm4
                have hb1 : ¬ (m : Int) < 0 := by omega
                have hcat : ¬ 9223372036854775807 < (mkB pre).size + (mkB tm).size := by omega
                have HCA := hidR (mkB_append pre tm)
                have HLL : Hid (pre.length + tm.length ≤ 2000 * (j + nm.length + 1)) := by show _ ≤ _; omega
                clear hm2 hm3 hm4 hmt hcel4 hcel5 hgl4 hgl5 e4 e5 HM hnn hl4 hl5 hsm hst hpl spz
                go_wp2
                go_roundw
                case rel => exact ⟨j + nm.length + 1, pre ++ tm, by have := HM4.out; have := HT.out.1; omega, by rw [← HSM.out]; go_num, by rw [← HCA.out], HF.out, by rw [Hid, List.length_append]; exact HLL.out, HW3.out⟩
                case measure => have := HM4.out; have := HT.out.1; have := HSM.out; simp [intOf]; omega
        · as_aux_lemma =>
          have e0 : (((mkB R)[j].toNat : Int) != 36) = true := by
            rw [hg, bne_iff_ne]; intro e; exact h36 (UInt8.toNat_inj.1 (by show _ = (36 : UInt8).toNat; have : (36 : UInt8).toNat = 36 := rfl; omega))
          have HF := hidR (fil_byte hlt h36 HP.out)
          have hsx : (mkB R).extract j (j + 1) = mkB [R[j]] := by
            rw [sub_ext, show j + 1 - j = 1 by omega, List.drop_eq_getElem_cons hlt]; rfl
          have hs1 : (j : Int) + 1 ≤ ((mkB R).size : Int) := by omega
          generalize R[j] = cj at hsx HF
          have HSX := hidR hsx
          have HCA := hidR (mkB_append pre [cj])
          have hcat : ¬ 9223372036854775807 < (mkB pre).size + ((mkB R).extract j (j + 1)).size := by rw [hsx, mkB_size, mkB_size]; simp; omega
          have HLL : Hid (pre.length + 1 ≤ 2000 * (j + 1)) := by show _ ≤ _; omega
          clear hg h36 HP hsx spz hpl
          go_wp2
          go_roundw
          case rel => exact ⟨j + 1, pre ++ [cj], by omega, by go_num, by rw [HSX.out, ← HCA.out], HF.out, by rw [Hid, List.length_append]; exact HLL.out, HW.out⟩
          case measure => simp [intOf]; omega
      · as_aux_lemma =>
        have hlf : ¬ (j : Int) < ((mkB R).size : Int) := by rw [mkB_size]; omega
        have hje : j = R.length := by omega
        have hfe := HXS.out pre (fil_end hje HP.out)
        have spz : (mkB pre).size = pre.length := mkB_size pre
        by_cases hbg : 2000 < pre.length
        · rw [if_pos hbg] at hfe
          have hbi : (2000 : Int) < ((mkB pre).size : Int) := by omega
          have HQQ := hidR (HQ.out [] 4 wr hfe (HB1.out.trans (HW.out.mono HB1.out.size)))
          clear hfe HP hlt hje
          go_wp2
          exact HQQ.out
        · rw [if_neg hbg] at hfe
          have hbi : ¬ (2000 : Int) < ((mkB pre).size : Int) := by omega
          have hpre : pre.length ≤ 2000 := by omega
          have HQ2 : Hid (∀ l E w', sprO pre = (l, E) → Below w.heap.size w w' → Q (.returned (.tuple #[.string (mkB l), .int .i64 E])) w') := fun l E w' h hb => HQ.out l E w' (by rw [hfe]; exact h) hb
          have HPR := hidR hpre
          clear hfe HP hlt hje hbg hpre HXN HXS
          repeat (first | (show Code.wp _ (Code.seq (Code.region 23 _ _) _) _ _ _; refine re_t23 pre w _ Q _ (by kernel_rfl) HPR.out (HB1.out.trans (HW.out.mono HB1.out.size)) _ _ _ _ _ _ _ _ _ _ _ _ _ _ _ _ _ _ _ _ _ _ _ _ _ _ _ _ _ _ _ _ _ _ _ _ _ _ _ _ _ _ _ _ _ _ _ _ _ _ _ _ _ _ _ _ _ _ _ _ _ _ _ _ _ _ _ _ _ _ _ _ _ _ _ _ _ _ _ _ _ _ _ _ _ _ _ _ _ _ _ _ _ _ _ _ _ _ _ _ _ _ _ _ _ _ _ _ _ _ _ _ _ _ _ _ _ _ _ _ _ _ _ _ _ _ _ _ _ _ _ _ _ _ _ _ _ _ _ _ _ _ _ _ _ _ _ _ _ _ _ _ _ _ _ _ _ _ _ _ _ _ _ _ _ _ _ _ _ _ _ _ _ _ _ _ _ _ _ _ _ _ _ _ _ _ _ _ _ _ _ _ _ _ _ _ _ _ _ _ _ _ _ _ _ _ _ _ _ _ _ _ _ _ _ _ _ _ _ _ _ _ _ _ _ _ _ _ _ _ _ _ _ _ _ _ _ _ _ _ _ _ _ _ _ _ _ _ _ _ _ _ _ _ _ _ _ _ _ _ _ _ _ _ _ _ _ _ _ _ _ _ _ HQ2.out; done) | go_step)
  · as_aux_lemma =>
    have HQ2 := hidR (HQ.out [] (nmAll s).2.2)
    have HE := hidR (exp_bad h0)
    rw [if_neg h0] at hn
    have hn2 : Calls Tryd.prog 4 #[.string (mkB s)] w fun e w' => ∃ v u, e = .returned (.tuple #[v, u, .string ⟨#[]⟩, .int .i64 (nmAll s).2.2]) ∧ Below w.heap.size w w' := hn.mono (by rintro e w' ⟨v, u, h1, h2⟩; exact ⟨v, u, h1, h2.bel⟩)
    generalize (nmAll s).2.2 = E0 at hn2 h0 HQ2 HE
    have hne : (E0 != 0) = true := by rw [bne_iff_ne]; exact h0
    clear hn hL h0
    go_enter Tryd.func7, Tryd.ntmps7
    go_upto_region 2 with (go_at_call 4; go_must (refine hn2.mono ?_; rintro e W1 ⟨v4, v5, rfl, b1⟩))
    have HQQ := hidR (HQ2.out W1 HE.out b1)
    clear b1 hn2
    go_wp2
    exact HQQ.out
end Go.Proofs.YtjhofmmmlemfcaaDoor
