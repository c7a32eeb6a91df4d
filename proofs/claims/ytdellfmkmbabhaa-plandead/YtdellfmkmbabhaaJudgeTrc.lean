/- What package judge's Trace and Judge return. -/
import Derived.Test.YtdellfmkmbabhaaJudgeFit
import Derived.Test.YtdellfmkmbabhaaRuleRow
import Derived.Test.YtdellfmkmbabhaaOwnI
namespace Go.Proofs.Ytdellfmkmbabhaa
open Go.RowKit
set_option linter.unusedVariables false
set_option maxRecDepth 10000

/-- What is wrong with what is judged. -/
def judE (rs : List Rl) (k : Ky) (way : Int) : Int := if rusE rs = 0 then keyE k way else rusE rs
def trcL (rs : List Rl) (k : Ky) (way : Int) : List Int := if judE rs k way = 0 then traceL k way 0 rs else []
theorem keyE_is (k : Ky) (way : Int) : keyE k way = if (isKeyB k && (way == 1 || way == 2)) = true then 0 else 1 := by
  unfold keyE; rw [keyB_up]; rfl
theorem bool_not_not (b : Bool) : (!b) = (if b = true then false else true) := by cases b <;> rfl
theorem OwnI.off_new {W W' : World} {base : Nat} {v : Value} {acc : List Int} {g : Nat} {o : Obj} (h : OwnI W base v acc) (hg : ∀ k, v.ownBlock = some k → k ≠ g) (hl : g < (W.alloc o).heap.size) (hgr : (W.alloc o).grownBy W' v.ownBlock) : W'.heap[g]? = (W.alloc o).heap[g]? :=
  hgr.block g hl (fun e => hg g e.symm rfl)
theorem OwnI.base0 {w : World} {b b' : Nat} {v : Value} {zs : List Int} (h : OwnI w b v zs) (hb : b' ≤ b) : OwnI w b' v zs := by
  obtain ⟨h1, h2⟩ := h
  refine ⟨h1, ?_⟩
  rcases h2 with h2 | ⟨g, cap, cur, hv, hbg, rest⟩
  · exact .inl h2
  · exact .inr ⟨g, cap, cur, hv, Nat.le_trans hb hbg, rest⟩
theorem drop_at {l : List Rl} {j : Nat} (h : j < l.length) : l.drop j = l[j] :: l.drop (j + 1) := (List.drop_eq_getElem_cons h)
set_option maxHeartbeats 16000000 in
theorem trace_any (v : Value) (rs : List (Rl × Value × Value)) (k : Ky) (way : Int) (w : World) (hv : Rls w v rs) :
    Calls Try.prog 17 #[v, keyV k, .int .i64 way] w fun e w' => ∃ v', e = .returned (.tuple #[v', erV (judE (rs.map Prod.fst) k way)]) ∧ OwnI w' w.heap.size v' (trcL (rs.map Prod.fst) k way) ∧ Below w.heap.size w w' := by
  obtain ⟨ao, co, hve⟩ := hv.len
  obtain ⟨Q, hQ⟩ : ∃ Q : Ending → World → Prop, Q = fun e w' => ∃ v', e = .returned (.tuple #[v', erV (judE (rs.map Prod.fst) k way)]) ∧ OwnI w' w.heap.size v' (trcL (rs.map Prod.fst) k way) ∧ Below w.heap.size w w' := ⟨_, rfl⟩
  have HQ : Hid (∀ v' w', OwnI w' w.heap.size v' (trcL (rs.map Prod.fst) k way) → Below w.heap.size w w' → Q (.returned (.tuple #[v', erV (judE (rs.map Prod.fst) k way)])) w') := by rw [hQ]; exact fun v' w' h1 h2 => ⟨v', rfl, h1, h2⟩
  rw [← hQ]
  clear hQ
  have b0 : Below w.heap.size w (w.alloc (.cells #[.int .i64 k.kind, .int .i64 k.src, .int .i64 k.frm, .int .i64 k.dst, .int .i64 k.too] 24)) := (Below.refl _ _).alloc (Nat.le_refl _) _
  have hky := KyAt.new w k
  have hz0 : (w.alloc (.cells #[.int .i64 k.kind, .int .i64 k.src, .int .i64 k.frm, .int .i64 k.dst, .int .i64 k.too] 24)).heap.size = w.heap.size + 1 := by simp
  have HZ0 := hidE hz0
  have hck := rusCheck_any v rs (w.alloc (.cells #[.int .i64 k.kind, .int .i64 k.src, .int .i64 k.frm, .int .i64 k.dst, .int .i64 k.too] 24)) (hv.below b0)
  have HB0 := hidE b0
  have HV := hidE hv
  obtain ⟨N, hN⟩ : ∃ N, rs.length = N := ⟨_, rfl⟩
  have HNN := hidE hN
  rw [hN] at hve
  subst hve
  obtain ⟨RS, hRS⟩ : ∃ RS, rs.map Prod.fst = RS := ⟨_, rfl⟩
  have HRS := hidE hRS
  rw [hRS] at HQ hck
  clear hv hN b0 hRS hz0
  by_cases hr0 : rusE RS = 0
  case neg =>
    have e1 : judE RS k way = rusE RS := by unfold judE; rw [if_neg hr0]
    have e2 : trcL RS k way = [] := by unfold trcL; rw [e1, if_neg hr0]
    rw [e1, e2, erV_ne hr0] at HQ
    rw [erV_ne hr0] at hck
    generalize rusE RS = z at HQ hck
    unfold keyV
    clear e1 e2 hr0 HV hky
    go_enter Try.func17, Try.ntmps17
    go_wp2_with (go_at_call 7; go_must (refine hck.mono ?_; rintro e w1 ⟨rfl, b1⟩))
    exact HQ.out _ _ (OwnI.nil _ _) (HB0.out.trans (b1.mono (by rw [HZ0.out]; omega)))
  have e1 : judE RS k way = keyE k way := by unfold judE; rw [if_pos hr0]
  rw [hr0, show erV 0 = .nilIface from rfl] at hck
  have hik := isKey_any k
  unfold keyV at hik ⊢
  obtain ⟨W0, hW0⟩ : ∃ W0, w.alloc (.cells #[.int .i64 k.kind, .int .i64 k.src, .int .i64 k.frm, .int .i64 k.dst, .int .i64 k.too] 24) = W0 := ⟨_, rfl⟩
  have HW0 := hidE hW0
  rw [hW0] at hck hky HZ0 HB0
  clear hW0
  go_enter Try.func17, Try.ntmps17
  go_upto_region 1 with fail
  rw [HW0.out]
  clear HW0
  go_upto_region 4 with (go_at_call 7; go_must (refine hck.mono ?_; rintro e w1 ⟨rfl, b1⟩))
  have hky1 := hky.below hky.lt b1
  have B1 := hidE (HB0.out.trans (b1.mono (by rw [HZ0.out]; omega)))
  have S1 := hidE (show w.heap.size + 1 ≤ w1.heap.size by have := b1.size; rw [HZ0.out] at this; exact this)
  clear hck b1 HB0 HZ0 hky
  obtain ⟨k0, k1, k2, k3, k4⟩ := hky1.cells
  have hik1 := hik w1
  have hke := keyE_is k way
  rw [hke] at e1
  clear hke hik
  generalize isKeyB k = t at hik1 e1
  rcases h1 : (t && (way == 1 || way == 2)) with _ | _
  · rw [h1] at e1
    have e1' : judE RS k way = 1 := e1
    have e2 : trcL RS k way = [] := by unfold trcL; rw [e1']; rfl
    rw [e1', e2, show erV 1 = .iface 62 (.int .i64 1) from rfl] at HQ
    clear e1 e1' e2 HV
    cases t with
    | false =>
      clear h1
      go_wp2_with (go_at_call 38; go_must (refine hik1.mono ?_; rintro e w2 ⟨rfl, b2⟩))
      exact HQ.out _ _ (OwnI.nil _ _) (B1.out.trans (b2.mono B1.out.size))
    | true =>
      rw [Bool.true_and, Bool.or_eq_false_iff] at h1
      have i1 : (way != 1) = true := by rw [bne, h1.1]; rfl
      have i2 : (way != 2) = true := by rw [bne, h1.2]; rfl
      clear h1
      go_wp2_with (go_at_call 38; go_must (refine hik1.mono ?_; rintro e w2 ⟨rfl, b2⟩))
      exact HQ.out _ _ (OwnI.nil _ _) (B1.out.trans (b2.mono B1.out.size))
  rw [h1] at e1
  have e1' : judE RS k way = 0 := e1
  have e2 : trcL RS k way = traceL k way 0 RS := by unfold trcL; rw [e1', if_pos rfl]
  rw [e1', e2, show erV 0 = .nilIface from rfl] at HQ
  clear e1 e1' e2
  obtain ⟨L, hL⟩ : ∃ L, traceL k way 0 RS = L := ⟨_, rfl⟩
  have HL := hidE hL
  rw [hL] at HQ
  clear hL
  rw [Bool.and_eq_true] at h1
  obtain ⟨rfl, h2⟩ := h1
  have i3 : ((way != 1) && (way != 2)) = false := by
    rw [Bool.or_eq_true] at h2
    rcases h2 with h | h
    · rw [bne, h]; rfl
    · rw [bne, bne, h, Bool.not_true, Bool.and_false]
  go_cut [27] from 17 to 27 (fun x wr => x = .bool false ∧ Below w1.heap.size w1 wr)
  case first =>
    rcases h3 : (way == 1) with _ | _
    · have i1 : (way != 1) = true := by rw [bne, h3]; rfl
      have i2 : (way != 2) = false := by rw [i1, Bool.true_and] at i3; exact i3
      clear h3 h2 i3 HV HL HQ
      go_wp2_with (go_at_call 38; go_must (refine hik1.mono ?_; rintro e w2 ⟨rfl, b2⟩))
      go_meet
      case rel => exact ⟨rfl, b2⟩
    · have i1 : (way != 1) = false := by rw [bne, h3]; rfl
      clear h3 h2 i3 HV HL HQ
      go_wp2_with (go_at_call 38; go_must (refine hik1.mono ?_; rintro e w2 ⟨rfl, b2⟩))
      go_meet
      case rel => exact ⟨rfl, b2⟩
  case rest =>
    obtain ⟨rfl, b2⟩ := hcut
    have hky2 := hky1.below hky1.lt b2
    have B2 := hidE (B1.out.trans (b2.mono B1.out.size))
    have S2 := hidE (Nat.le_trans S1.out b2.size)
    clear hky1 B1 S1 b2 hik1 k0 k1 k2 k3 k4 h2 i3
    have HK2 := hidE hky2
    clear hky2
    go_upto_region 8 with fail
    go_loopw [9, 10, 11, 31] (fun f _ _ i wr => ∃ (j : Nat) (acc : List Int), j ≤ N ∧ i = .int .i64 (j : Int) ∧ Hid (OwnI wr (w.heap.size + 1) f acc) ∧ Hid (acc.length ≤ j) ∧ Hid (KyAt wr w.heap.size k) ∧ Hid (Below w.heap.size w wr) ∧ Hid (w.heap.size + 1 ≤ wr.heap.size) ∧ Hid (L = acc ++ traceL k way j (RS.drop j))) (fun _ _ _ i _ => ((N : Int) - intOf i).toNat)
    case atStart => exact ⟨0, [], by omega, rfl, OwnI.nil _ _, Nat.le_refl _, HK2.out, B2.out, S2.out, by rw [Hid, List.drop_zero, List.nil_append]; exact HL.out.symm⟩
    case round =>
      clear HK2 B2 S2 HL
      obtain ⟨j, acc, hj, rfl, HO, HA, HK, HB, HS, HT⟩ := hrel
      by_cases hjn : j < N
      · have j1 : (j : Int) < (N : Int) := by omega
        have j2 : (0 : Int) ≤ (j : Int) := by omega
        have hkl : j < rs.length := by have := HNN.out; omega
        have hN20 : N ≤ 20 := by have := (rusE_zero.1 hr0).1; have h3 := HRS.out; have h4 := HNN.out; rw [← h3, List.length_map, h4] at this; exact this
        obtain ⟨b1, o1, e1, hb1, hl1, hx1, hc1⟩ := HV.out.shape (by omega)
        subst e1
        have hx1' : co ≤ 9223372036854775807 := by unfold maxLen at hx1; omega
        have hC := (hc1 j hkl).below hb1 HB.out
        have hd : RS.drop j = rs[j].1 :: RS.drop (j + 1) := by
          rw [← HRS.out, List.drop_eq_getElem_cons (by rw [List.length_map]; exact hkl), List.getElem_map]
        rw [hd] at HT
        clear hd
        generalize rs[j].1 = r at hC HT
        generalize rs[j].2.1 = fv at hC
        generalize rs[j].2.2 = tv at hC
        obtain ⟨af, cf, hfe⟩ := hC.2.1.len
        obtain ⟨at', ct, hte⟩ := hC.2.2.1.len
        generalize hnf : r.fr.length = nf at hfe
        generalize hnt : r.tl.length = nt at hte
        subst hfe hte
        clear hc1 hx1
        obtain ⟨⟨c0, c1, c2, c3, c4, c5, c6, c7, c8, c9, c10⟩, s1, s2, s3, s4⟩ := hC
        have b2 : Below wr.heap.size wr (wr.alloc (.cells #[.bool r.pass, .bool r.quick, .bool r.keep, .int .i64 r.way, .int .i64 r.kind, .int .i64 r.sa, .int .i64 r.sl, .int .i64 r.da, .int .i64 r.dl, .slice af nf cf, .slice at' nt ct] 34)) := (Below.refl _ _).alloc (Nat.le_refl _) _
        have hR2 := RlAt.new wr r (.slice af nf cf) (.slice at' nt ct)
        have hfit := Fits_any r (.slice af nf cf) (.slice at' nt ct) k way (wr.alloc (.cells #[.bool r.pass, .bool r.quick, .bool r.keep, .int .i64 r.way, .int .i64 r.kind, .int .i64 r.sa, .int .i64 r.sl, .int .i64 r.da, .int .i64 r.dl, .slice af nf cf, .slice at' nt ct] 34)) (s1.below b2) (s2.below b2) s3 s4
        unfold rlV keyV at hfit
        have HB2 := hidE b2
        have hK2 := HK.out.below HK.out.lt b2
        have HO2 := hidE (HO.out.below b2)
        obtain ⟨W2, hW2⟩ : ∃ W2, wr.alloc (.cells #[.bool r.pass, .bool r.quick, .bool r.keep, .int .i64 r.way, .int .i64 r.kind, .int .i64 r.sa, .int .i64 r.sl, .int .i64 r.da, .int .i64 r.dl, .slice af nf cf, .slice at' nt ct] 34) = W2 := ⟨_, rfl⟩
        have HW2 := hidE hW2
        rw [hW2] at hR2 hfit HB2 hK2 HO2
        obtain ⟨d0, d1, d2, d3, d4, d5, d6, d7, d8, d9, d10⟩ := hR2.cells
        obtain ⟨k0, k1, k2, k3, k4⟩ := hK2.cells
        have HR2 := hidE hR2
        have HKW := hidE hK2
        clear s1 s2 s3 s4 b2 hR2 hW2 hK2 hnf hnt HV HRS HNN
        go_upto_region 10 with fail
        rw [HW2.out]
        clear c0 c1 c2 c3 c4 c5 c6 c7 c8 c9 c10 HW2
        rcases hfb : fitsB r k way with _ | _
        · rw [traceL_no hfb] at HT
          rw [hfb] at hfit
          clear hfb
          go_wp2_with (go_at_call 39; go_must (refine hfit.mono ?_; rintro e w3 ⟨rfl, b3⟩))
          go_roundw
          case rel =>
            have hbb := HB2.out.trans (b3.mono HB2.out.size)
            exact ⟨j + 1, acc, by omega, by go_num, HO2.out.below b3, Nat.le_succ_of_le HA.out, HKW.out.below HKW.out.lt b3, HB.out.trans (hbb.mono HB.out.size), Nat.le_trans HS.out hbb.size, HT.out⟩
          case measure => simp [intOf]; omega
        · rw [hfb] at hfit
          have HF := hidE hfb
          obtain ⟨q, hq⟩ : ∃ q, r.quick = q := ⟨_, rfl⟩
          have HQ1 := hidE hq
          rw [hq] at hfit d1
          clear hfb hq
          have hal : acc.length ≤ 4398046511104 := by have := HA.out; omega
          have HOB := hidE (fun g (hg : u9.ownBlock = some g) => HO.out.lt g hg)
          have FIN : Hid (∀ w3 w5, Below W2.heap.size W2 w3 → (w3.alloc (.cells #[.int .i64 (j : Int)] 3)).grownBy w5 u9.ownBlock → w5.cell? ⟨wr.heap.size, 1, none⟩ = some (.bool q) ∧ KyAt w5 w.heap.size k ∧ Below w.heap.size w w5 ∧ w.heap.size + 1 ≤ w5.heap.size) := by
            intro w3 w5 b3 gr
            have b4 : Below w3.heap.size w3 (w3.alloc (.cells #[.int .i64 (j : Int)] 3)) := (Below.refl _ _).alloc (Nat.le_refl _) _
            have r4 := (HR2.out.below HR2.out.lt b3)
            have k4 := (HKW.out.below HKW.out.lt b3)
            have b34 := HB2.out.trans ((b3.trans (b4.mono b3.size)).mono HB2.out.size)
            have r4' := r4.below r4.lt b4
            have k4' := k4.below k4.lt b4
            generalize w3.alloc (.cells #[.int .i64 (j : Int)] 3) = A at gr r4' k4' b34
            have r5 : RlAt w5 wr.heap.size r (.slice af nf cf) (.slice at' nt ct) := r4'.keep (gr.block _ r4'.lt (fun e => by have := HOB.out _ e.symm; omega))
            have k5 : KyAt w5 w.heap.size k := (gr.block _ k4'.lt (fun e => by have := HOB.out _ e.symm; omega)).trans k4'
            have b5 : Below w.heap.size A w5 := grown_below gr (by have := b34.size; have := HB.out.size; omega) (fun k hk => by have := HOB.out _ hk; omega)
            refine ⟨?_, k5, (HB.out.trans (b34.mono HB.out.size)).trans b5, ?_⟩
            · rw [r5.cells.2.1, HQ1.out]
            · have := k5.lt; omega
          have hown2 := HO2.out
          have HSZ := hidE (show w.heap.size + 1 ≤ W2.heap.size from Nat.le_trans HS.out HB2.out.size)
          clear HO HO2 HOB HR2 HKW HB2 HK
          cases q with
          | true =>
            rw [traceL_quick HF.out HQ1.out] at HT
            go_wp2_with (first
              | (go_at_call 39; go_must (refine hfit.mono ?_; rintro e w3 ⟨rfl, b3⟩; have own3 := hown2.below b3; have hs3 := Nat.le_trans HSZ.out b3.size))
              | (at_builtin; refine wpList_append_int rfl (.tmp 41) (.tmp 43) rfl (w.heap.size + 1) u9 acc rfl own3 (j : Int) rfl hal hs3 ?_; intro v5 w5 own5 grow5 lie5; have F5 := hidE (FIN.out w3 w5 b3 grow5); have q5 := F5.out.1))
            rw [← HT.out] at own5
            exact HQ.out _ _ (own5.base0 (by omega)) F5.out.2.2.1
          | false =>
            rw [traceL_yes HF.out HQ1.out] at HT
            go_wp2_with (first
              | (go_at_call 39; go_must (refine hfit.mono ?_; rintro e w3 ⟨rfl, b3⟩; have own3 := hown2.below b3; have hs3 := Nat.le_trans HSZ.out b3.size))
              | (at_builtin; refine wpList_append_int rfl (.tmp 41) (.tmp 43) rfl (w.heap.size + 1) u9 acc rfl own3 (j : Int) rfl hal hs3 ?_; intro v5 w5 own5 grow5 lie5; have F5 := hidE (FIN.out w3 w5 b3 grow5); have q5 := F5.out.1))
            go_roundw
            case rel =>
              refine ⟨j + 1, acc ++ [(j : Int)], by omega, by go_num, own5, ?_, F5.out.2.1, F5.out.2.2.1, F5.out.2.2.2, ?_⟩
              · rw [Hid, List.length_append]; exact Nat.succ_le_succ HA.out
              · rw [Hid, HT.out, List.append_assoc]; rfl
            case measure => simp [intOf]; omega
      · have j1 : ¬ (j : Int) < (N : Int) := by omega
        have hown := HO.out
        have hL : L = acc := by
          rw [HT.out, List.drop_of_length_le (by rw [← HRS.out, List.length_map, HNN.out]; omega)]
          rw [show traceL k way j [] = [] from rfl, List.append_nil]
        rw [hL] at HQ
        clear hL HT HV HRS HNN
        go_wp2_with fail
        exact HQ.out _ _ (hown.base0 (by omega)) HB.out
end Go.Proofs.Ytdellfmkmbabhaa
