/- What 'cut' returns (package plan): the walk. -/
import Derived.Test.YtdellfmkmbabhaaPlanCut
namespace Go.Proofs.Ytdellfmkmbabhaa
open Go.RowKit
set_option linter.unusedVariables false
set_option maxRecDepth 10000

theorem side_le (sd : Nat) : sideLo sd ≤ sideHi sd ∧ 0 ≤ sideLo sd ∧ sideHi sd ≤ 4294967295 := by
  match sd with
  | 0 => decide
  | 1 => decide
  | 2 => decide
  | 3 => decide
  | 4 => decide
  | _ + 5 => exact ⟨by show (0 : Int) ≤ 65535; omega, by show (0 : Int) ≤ 0; omega, by show (65535 : Int) ≤ _; omega⟩
theorem raw_in {sd : Nat} {RS : List Rl} (hr : ∀ r ∈ RS, ruE r = 0) : ∀ e ∈ rawE (sideLo sd) (askL RS sd), sideLo sd ≤ e ∧ e ≤ sideHi sd + 1 := by
  intro e he
  have hs := side_le sd
  unfold rawE at he
  rcases List.mem_cons.1 he with rfl | he
  · omega
  · obtain ⟨ss, hss, he2⟩ := List.mem_flatMap.1 he
    obtain ⟨s, hsm, he3⟩ := List.mem_flatMap.1 he2
    unfold askL at hss
    obtain ⟨r, hr', rfl⟩ := List.mem_map.1 hss
    have := (ask_in (hr r hr') sd).2 s hsm
    simp only [List.mem_cons, List.not_mem_nil, or_false] at he3
    rcases (he3 : e = s.1 ∨ e = s.2 + 1) with rfl | rfl <;> omega
set_option maxHeartbeats 16000000 in
theorem cut_any (sd : Nat) (v : Value) (rs : List Rx) (w : World) (hv : Rls w v rs) (hr : ∀ r ∈ rs.map Prod.fst, ruE r = 0) (hn : rs.length ≤ 20) (fn : Nat) (hfn : Asks fn sd) (eg : ∀ args w, (callFunc fn args).run Try.prog w = .ok (.enter fn args) w) :
    Calls Try.prog 26 #[.agg #[.int .i64 (sideLo sd), .int .i64 (sideHi sd)], v, .func (.func fn) #[] #[]] w fun e w' => ∃ v' C, e = .returned v' ∧ OwnSt w' w.heap.size v' C ∧ CutOk (sideLo sd) (sideHi sd) (askL (rs.map Prod.fst) sd) C ∧ C.length ≤ 1000 ∧ Below w.heap.size w w' := by
  obtain ⟨ao, co, hve⟩ := hv.len
  obtain ⟨N, hN⟩ : ∃ N, rs.length = N := ⟨_, rfl⟩
  rw [hN] at hve
  subst hve
  obtain ⟨RS, hRS⟩ : ∃ RS, rs.map Prod.fst = RS := ⟨_, rfl⟩
  rw [hRS]
  have hraw := raw_in (sd := sd) (by rw [hRS] at hr; exact hr)
  have hs0 := side_le sd
  have HST := hidE (fun W (hb : Below w.heap.size w W) => starts_any sd (sideLo sd) (.slice ao N co) rs W (hv.below hb) hr hn fn hfn eg)
  have HFT := hidE (fun x W (hb : Below w.heap.size w W) => fitting_any sd x (.slice ao N co) rs W (hv.below hb) hr hn fn hfn eg)
  rw [hRS] at HST HFT
  generalize askL RS sd = L at HST HFT hraw ⊢
  generalize sideLo sd = lo at HST hraw hs0 ⊢
  generalize sideHi sd = hi at hraw hs0 ⊢
  obtain ⟨Q, hQ⟩ : ∃ Q : Ending → World → Prop, Q = fun e w' => ∃ v' C, e = .returned v' ∧ OwnSt w' w.heap.size v' C ∧ CutOk lo hi L C ∧ C.length ≤ 1000 ∧ Below w.heap.size w w' := ⟨_, rfl⟩
  have HQ : Hid (∀ v' C w', OwnSt w' w.heap.size v' C → CutOk lo hi L C → C.length ≤ 1000 → Below w.heap.size w w' → Q (.returned v') w') := by rw [hQ]; exact fun v' C w' h1 h2 h3 h4 => ⟨v', C, rfl, h1, h2, h3, h4⟩
  rw [← hQ]
  clear hQ hv hr hn hfn hN hRS
  have b0 : Below w.heap.size w (w.alloc (.cells #[.int .i64 lo, .int .i64 hi] 52)) := (Below.refl _ _).alloc (Nat.le_refl _) _
  have n0 := heap_alloc_new w (.cells #[.int .i64 lo, .int .i64 hi] 52)
  have z0 : (w.alloc (.cells #[.int .i64 lo, .int .i64 hi] 52)).heap.size = w.heap.size + 1 := by simp
  have hst := HST.out _ b0
  obtain ⟨W0, hW0⟩ : ∃ W0, w.alloc (.cells #[.int .i64 lo, .int .i64 hi] 52) = W0 := ⟨_, rfl⟩
  rw [hW0] at b0 n0 z0 hst
  obtain ⟨S, hS⟩ : ∃ S, w.heap.size = S := ⟨_, rfl⟩
  rw [hS] at b0 n0 z0 HQ HFT
  have HS := hidE hS
  have HW0 := hidE hW0
  have HB0 := hidE b0
  have HN0 := hidE n0
  have HZ0 := hidE z0
  have HRAW := hidE hraw
  have c0 : W0.cell? ⟨S, 0, none⟩ = some (.int .i64 lo) := by rw [cell_of_row _ _ _ _ _ _ n0]; rfl
  have hst' := hst.mono (R' := fun e w' => ∃ a M c E, e = .returned (.slice a M c) ∧ E.length = M ∧ OwnI w' W0.heap.size (.slice a M c) E ∧ StartsIs lo L E ∧ Below W0.heap.size W0 w') (fun e w' h => by
    obtain ⟨v', E, rfl, h1, h2, h3⟩ := h
    obtain ⟨a, c, rfl⟩ := h1.form
    exact ⟨a, _, c, E, rfl, rfl, h1, h2, h3⟩)
  clear hW0 b0 n0 z0 hS hst HST hraw
  go_enter Try.func26, Try.ntmps26
  go_upto_region 1 with fail
  rw [HW0.out, HS.out]
  clear HW0
  go_upto_region 3 with (go_at_call 51; go_must (refine hst'.mono ?_; rintro e w1 ⟨ae, M, ce, E, rfl, hM, oE, hE, b1⟩))
  have HST := hidE (CuSt.new (hi := hi) (s3 := by rw [HZ0.out] at oE; exact oE) HN0.out HZ0.out HB0.out b1)
  have HE := hidE hE
  have HM := hidE hM
  have hM1 : M ≤ 1000 := by rw [← hM]; exact hE.2.2.2
  clear hst' oE hE b1 HN0 HZ0 HB0 hM c0
  go_loopw [7, 9, 10, 17] (fun f _ _ i wr => ∃ k : Nat, k ≤ M ∧ i = .int .i64 (k : Int) ∧ Hid (CuSt w wr S lo hi f (strL hi (fitV L) (E.take k)) (.slice ae M ce) E) ∧ Hid (∀ i, i < k → E.getD i 0 ≤ hi)) (fun _ _ _ i _ => ((M : Int) - intOf i).toNat)
  case atStart => exact ⟨0, by omega, rfl, HST.out, fun i h => absurd h (Nat.not_lt_zero _)⟩
  case round =>
    clear HST
    obtain ⟨k, hk, rfl, HC, HLE⟩ := hrel
    have HFIN := hidE (fun (hstop : k < E.length → hi < E.getD k 0) => show Q (.returned u7) wr from by
      have hk' : k ≤ E.length := by rw [HM.out]; exact hk
      have hm := take_le HE.out.1 HLE.out hk' hstop
      refine HQ.out u7 _ wr (OwnN.rebase HC.out.own (Nat.le_succ _)) (cut_ok (E := E.take k) hs0.1 (HE.out.1.sublist (List.take_sublist _ _)) (fun e => by rw [hm, HE.out.2.1]) (fun e he => (HRAW.out e ((HE.out.2.1 e).1 ((hm e).1 he).1)).1)) (by rw [strL_len, List.length_take]; omega) HC.out.bel)
    have HV : Hid (∃ a c, u7 = .slice a (strL hi (fitV L) (E.take k)).length c) := OwnN.len HC.out.own
    have hlk : (strL hi (fitV L) (E.take k)).length = k := by rw [strL_len, List.length_take, HM.out]; omega
    rw [hlk] at HV
    obtain ⟨a7, c7, hv7⟩ := HV.out
    subst hv7
    by_cases hkn : k < M
    case neg =>
      have j1 : ¬ (k : Int) < (M : Int) := by omega
      have HF2 := hidE (HFIN.out (fun h => by rw [HM.out] at h; omega))
      clear HFIN HC
      go_wp2
      exact HF2.out
    have j1 : (k : Int) < (M : Int) := by omega
    have j2 : (0 : Int) ≤ (k : Int) := by omega
    have hkl : k < E.length := by rw [HM.out]; exact hkn
    obtain ⟨ge, cape, hve, hge1, hge2, hge3, hge4⟩ := HC.out.ends.shape (by omega)
    rw [HM.out] at hve
    simp only [Value.slice.injEq] at hve
    obtain ⟨rfl, _, rfl⟩ := hve
    have hce : ce ≤ 9223372036854775807 := by unfold maxLen at hge4; omega
    have ce0 := HC.out.ends.cell HM.out.symm k hkl
    have cb1 : wr.cell? ⟨S, 1, none⟩ = some (.int .i64 hi) := by rw [cell_of_row _ _ _ _ _ _ HC.out.box]; rfl
    have hlow := HRAW.out E[k] ((HE.out.2.1 _).1 (List.getElem_mem hkl))
    have HD := hidE (getD_at hkl)
    have HTK := hidE (fun h0 => strL_take (hi := hi) (f := fitV L) hkl h0)
    have HT0 := hidE (show k = 0 → strL hi (fitV L) (E.take (k + 1)) = [((E[k], hi), fitV L E[k])] from fun h => by
      subst h
      rw [List.take_succ_eq_append_getElem hkl]; rfl)
    obtain ⟨low, hlw⟩ : ∃ low, E[k] = low := ⟨_, rfl⟩
    rw [hlw] at ce0 hlow HD HTK HT0
    clear hlw hkl hge1 hge2 hge3 hge4
    by_cases hgt : low > hi
    · have HF2 := hidE (HFIN.out (fun _ => by rw [HD.out]; exact hgt))
      clear HFIN HC
      go_wp2
      exact HF2.out
    have hle : ¬ low > hi := hgt
    have HLE2 := hidE (show ∀ i, i < k + 1 → E.getD i 0 ≤ hi from fun i h => by
      rcases Nat.lt_or_ge i k with h1 | h1
      · exact HLE.out i h1
      · have : i = k := by omega
        subst this; rw [HD.out]; omega)
    have hlen0 : ((strL hi (fitV L) (E.take k)).length) ≤ 1000000 := by omega
    clear HFIN hgt HLE
    by_cases hk0 : k = 0
    · have i1 : ¬ (0 : Int) ≤ (k : Int) - 1 := by omega
      have hnx := HT0.out hk0
      have hX0 : strL hi (fitV L) (E.take k) = [] := List.length_eq_zero_iff.1 (by omega)
      rw [hX0] at HC
      have hft := HFT.out low wr.drew HC.out.bel.drew
      have own0 : OwnSt wr (S + 1) (.slice a7 k c7) [] := HC.out.own
      have hlen1 : ([] : List St).length ≤ 1000000 := by simp
      have HNX := hidE hnx
      clear HT0 HTK HD hlen0 hX0 hk0 hnx own0
      go_upto_region 9 with fail
      go_region_held_law (fun W => W.cell? ⟨S, 1, none⟩ = some (.int .i64 hi)) (with_reducible first | assumption | go_keep) (first
        | (refine step_append_st (base := S + 1) (.tmp 37) (.tmp 47) rfl rfl ownC low hi (fitV L low) rfl hlen1 hbC ?_; intro v6 w6 own6 gr6 lie6; have R6 := HRC.out.append own6 gr6 lie6; have hS6 : w6.cell? ⟨S, 1, none⟩ = some (.int .i64 hi) := (by rw [cell_of_row _ _ _ _ _ _ R6.box]; rfl); have HR6 := hidE R6; clear R6 own6 gr6 lie6; simp only [List.getElem_toArray, List.getElem_cons_succ, List.getElem_cons_zero, Act.put, List.setIfInBounds_toArray, List.set_cons_zero, List.set_cons_succ])
        | (go_at_call 52; refine hft.mono ?_; rintro e w5 ⟨rfl, b5⟩; have b5' : Below wr.heap.size wr w5 := ⟨b5.os, b5.tape, b5.output, b5.size, b5.block⟩; have RC := HC.out.below b5'; have HRC := hidE RC; have ownC := RC.own; have hbC := RC.sz; have hS5 : w5.cell? ⟨S, 1, none⟩ = some (.int .i64 hi) := (by rw [cell_of_row _ _ _ _ _ _ RC.box]; rfl); clear b5 b5' RC))
      go_wp2_with fail
      go_roundw
      case rel => exact ⟨k + 1, by omega, by go_num, by rw [Hid, HNX.out]; exact HR6.out, HLE2.out⟩
      case measure => simp [intOf]; omega
    · have i1 : (0 : Int) ≤ (k : Int) - 1 := by omega
      obtain ⟨g7, cap7, hv7, hg71, hg72, hg73, hg74⟩ := OwnN.shape HC.out.own (by omega)
      rw [hlk] at hv7
      simp only [Value.slice.injEq] at hv7
      obtain ⟨rfl, _, rfl⟩ := hv7
      have hc7 : c7 ≤ 9223372036854775807 := by unfold maxLen at hg74; omega
      have hnx := HTK.out (by omega)
      have hXl : k - 1 < (strL hi (fitV L) (E.take k)).length := by omega
      have hXk : (strL hi (fitV L) (E.take k))[k - 1] = ((E.getD (k - 1) 0, hi), fitV L (E.getD (k - 1) 0)) := by
        rw [strL_at]
        have hl2 : (E.take k).length = k := by rw [List.length_take, HM.out]; omega
        have e : (E.take k).getD (k - 1) 0 = E.getD (k - 1) 0 := by
          rw [List.getD_eq_getElem?_getD, List.getD_eq_getElem?_getD, List.getElem?_take_of_lt (by omega)]
        rw [e, if_neg (by omega)]
      obtain ⟨R8, f8, c8⟩ := HC.out.store hlk.symm (k - 1) hXl hXk (low - 1)
      have hpos : (k - 1 : Nat) = (k : Int) - 1 := by omega
      obtain ⟨j, hj⟩ : ∃ j, k - 1 = j := ⟨_, rfl⟩
      have hj1 : (k : Int) - 1 = (j : Int) := by omega
      have j5 : (0 : Int) ≤ (j : Int) := by omega
      have j6 : (j : Int) < (k : Int) := by omega
      rw [hj] at R8 f8 c8 hnx
      have hlo0 : 0 ≤ low - 1 ∨ low = 0 := by omega
      have hlen1 : ((strL hi (fitV L) (E.take k)).set j ((E.getD j 0, low - 1), fitV L (E.getD j 0))).length ≤ 1000000 := by rw [List.length_set]; exact hlen0
      obtain ⟨W8, hW8⟩ : ∃ W8, wr.setCell ⟨g7, j * 3 + 1, none⟩ (.int .i64 (low - 1)) = W8 := ⟨_, rfl⟩
      rw [hW8] at R8
      have HW8 := hidE hW8
      clear HC
      have HC := hidE R8
      have HNX := hidE hnx
      have hft := HFT.out low W8.drew R8.bel.drew
      have cb8 : W8.cell? ⟨S, 1, none⟩ = some (.int .i64 hi) := by rw [cell_of_row _ _ _ _ _ _ R8.box]; rfl
      clear HT0 HTK HD hlen0 hk0 hnx hXl hXk R8 hW8 hg71 hg72 hg73 hg74 hpos hj
      go_upto_region 9 with fail
      rw [HW8.out]
      clear cb1 ce0 c8 f8
      go_region_held_law (fun W => W.cell? ⟨S, 1, none⟩ = some (.int .i64 hi)) (with_reducible first | assumption | go_keep) (first
        | (refine step_append_st (base := S + 1) (.tmp 37) (.tmp 47) rfl rfl ownC low hi (fitV L low) rfl hlen1 hbC ?_; intro v6 w6 own6 gr6 lie6; have R6 := HRC.out.append own6 gr6 lie6; have hS6 : w6.cell? ⟨S, 1, none⟩ = some (.int .i64 hi) := (by rw [cell_of_row _ _ _ _ _ _ R6.box]; rfl); have HR6 := hidE R6; clear R6 own6 gr6 lie6; simp only [List.getElem_toArray, List.getElem_cons_succ, List.getElem_cons_zero, Act.put, List.setIfInBounds_toArray, List.set_cons_zero, List.set_cons_succ])
        | (go_at_call 52; refine hft.mono ?_; rintro e w5 ⟨rfl, b5⟩; have b5' : Below W8.heap.size W8 w5 := ⟨b5.os, b5.tape, b5.output, b5.size, b5.block⟩; have RC := HC.out.below b5'; have HRC := hidE RC; have ownC := RC.own; have hbC := RC.sz; have hS5 : w5.cell? ⟨S, 1, none⟩ = some (.int .i64 hi) := (by rw [cell_of_row _ _ _ _ _ _ RC.box]; rfl); clear b5 b5' RC))
      go_wp2_with fail
      go_roundw
      case rel => exact ⟨k + 1, by omega, by go_num, by rw [Hid, HNX.out]; exact HR6.out, HLE2.out⟩
      case measure => simp [intOf]; omega
end Go.Proofs.Ytdellfmkmbabhaa
