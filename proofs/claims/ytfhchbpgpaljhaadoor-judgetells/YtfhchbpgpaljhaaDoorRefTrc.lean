/- What the reference's Trace returns (package portref1), and portsame.Ints of the same numbers. -/
import Derived.Test.YtfhchbpgpaljhaaDoorJudgeTrc
import Derived.Test.YtfhchbpgpaljhaaDoorRefJudge
import Derived.Deep.RegionHeld3
import Derived.Deep.DeepCutAuto
namespace Go.Proofs.YtfhchbpgpaljhaaDoor
open Go.RowKit
set_option linter.unusedVariables false
set_option maxRecDepth 10000

set_option maxHeartbeats 16000000 in
theorem refTrace_any (v : Value) (rs : List (Rl × Value × Value)) (k : Ky) (way : Int) (w : World) (hv : Rls w v rs) (h20 : rs.length ≤ 20) :
    Calls Tryd.prog 6 #[v, keyV k, .int .i64 way] w fun e w' => ∃ v', e = .returned v' ∧ OwnI w' w.heap.size v' (traceL k way 0 (rs.map Prod.fst)) ∧ Below w.heap.size w w' := by
  obtain ⟨ao, co, hve⟩ := hv.len
  obtain ⟨Q, hQ⟩ : ∃ Q : Ending → World → Prop, Q = fun e w' => ∃ v', e = .returned v' ∧ OwnI w' w.heap.size v' (traceL k way 0 (rs.map Prod.fst)) ∧ Below w.heap.size w w' := ⟨_, rfl⟩
  have HQ : Hid (∀ v' w', OwnI w' w.heap.size v' (traceL k way 0 (rs.map Prod.fst)) → Below w.heap.size w w' → Q (.returned v') w') := by rw [hQ]; exact fun v' w' h1 h2 => ⟨v', rfl, h1, h2⟩
  rw [← hQ]
  clear hQ
  have b0 : Below w.heap.size w (w.alloc (.cells #[.int .i64 k.kind, .int .i64 k.src, .int .i64 k.frm, .int .i64 k.dst, .int .i64 k.too] 24)) := (Below.refl _ _).alloc (Nat.le_refl _) _
  have hky := KyAt.new w k
  have hz0 : (w.alloc (.cells #[.int .i64 k.kind, .int .i64 k.src, .int .i64 k.frm, .int .i64 k.dst, .int .i64 k.too] 24)).heap.size = w.heap.size + 1 := by simp
  have HV := hidE hv
  obtain ⟨N, hN⟩ : ∃ N, rs.length = N := ⟨_, rfl⟩
  have HNN := hidE hN
  rw [hN] at hve h20
  subst hve
  obtain ⟨RS, hRS⟩ : ∃ RS, rs.map Prod.fst = RS := ⟨_, rfl⟩
  have HRS := hidE hRS
  rw [hRS] at HQ
  obtain ⟨L, hL⟩ : ∃ L, traceL k way 0 RS = L := ⟨_, rfl⟩
  have HL := hidE hL
  rw [hL] at HQ
  unfold keyV
  obtain ⟨W0, hW0⟩ : ∃ W0, w.alloc (.cells #[.int .i64 k.kind, .int .i64 k.src, .int .i64 k.frm, .int .i64 k.dst, .int .i64 k.too] 24) = W0 := ⟨_, rfl⟩
  have HW0 := hidE hW0
  rw [hW0] at hky hz0 b0
  have HK2 := hidE hky
  have B2 := hidE b0
  have S2 := hidE (show w.heap.size + 1 ≤ W0.heap.size by omega)
  clear hv hN b0 hRS hz0 hL hW0 hky
  go_enter Tryd.func6, Tryd.ntmps6
  go_upto_region 1 with fail
  rw [HW0.out]
  clear HW0
  go_upto_region 3 with fail
  go_loopw [7, 8, 9] (fun f i _ wr => ∃ (j : Nat) (acc : List Int), j ≤ N ∧ i = .int .i64 (j : Int) ∧ Hid (OwnI wr (w.heap.size + 1) f acc) ∧ Hid (acc.length ≤ j) ∧ Hid (KyAt wr w.heap.size k) ∧ Hid (Below w.heap.size w wr) ∧ Hid (w.heap.size + 1 ≤ wr.heap.size) ∧ Hid (L = acc ++ traceL k way j (RS.drop j))) (fun _ i _ _ => ((N : Int) - intOf i).toNat)
  case atStart => exact ⟨0, [], by omega, rfl, OwnI.nil _ _, Nat.le_refl _, HK2.out, B2.out, S2.out, by rw [Hid, List.drop_zero, List.nil_append]; exact HL.out.symm⟩
  case round =>
    clear HK2 B2 S2 HL
    obtain ⟨j, acc, hj, rfl, HO, HA, HK, HB, HS, HT⟩ := hrel
    by_cases hjn : j < N
    · have j1 : (j : Int) < (N : Int) := by omega
      have j2 : (0 : Int) ≤ (j : Int) := by omega
      have hkl : j < rs.length := by have := HNN.out; omega
      obtain ⟨b1, o1, e1, hb1, hl1, hx1, hc1⟩ := HV.out.shape (by omega)
      subst e1
      have hx1' : co ≤ 9223372036854775807 := by unfold maxLen at hx1; omega
      have hC := (hc1 j hkl).below hb1 HB.out
      have hd : RS.drop j = rs[j].1 :: RS.drop (j + 1) := by
        rw [← HRS.out, List.drop_eq_getElem_cons (by rw [List.length_map]; exact hkl), List.getElem_map]
      rw [hd] at HT
      clear hd
      have HCC := hidE (fun (W : World) (hb : Below w.heap.size w W) => (hc1 j hkl).below hb1 hb)
      generalize rs[j].1 = r at hC HT HCC
      generalize rs[j].2.1 = fv at hC HCC
      generalize rs[j].2.2 = tv at hC HCC
      obtain ⟨af, cf, hfe⟩ := hC.2.1.len
      obtain ⟨at', ct, hte⟩ := hC.2.2.1.len
      generalize hnf : r.fr.length = nf at hfe
      generalize hnt : r.tl.length = nt at hte
      subst hfe hte
      clear hc1 hx1
      obtain ⟨⟨c0, c1, c2, c3, c4, c5, c6, c7, c8, c9, c10⟩, s1, s2, s3, s4⟩ := hC
      have hfit := refFits_any r (.slice af nf cf) (.slice at' nt ct) k way wr.drew s1 s2 s3 s4
      unfold rlV keyV at hfit
      obtain ⟨k0, k1, k2, k3, k4⟩ := HK.out.cells
      clear s1 s2 s3 s4 hnf hnt HV HRS HNN
      obtain ⟨t, ht⟩ : ∃ t, fitsB r k way = t := ⟨_, rfl⟩
      rw [ht] at hfit
      have HF := hidE ht
      clear ht
      have hS : (wr.cell? ⟨b1, o1 + j * 11, none⟩ = some (.bool r.pass) ∧ wr.cell? ⟨b1, o1 + j * 11 + 1, none⟩ = some (.bool r.quick) ∧ wr.cell? ⟨b1, o1 + j * 11 + 2, none⟩ = some (.bool r.keep) ∧ wr.cell? ⟨b1, o1 + j * 11 + 3, none⟩ = some (.int .i64 r.way) ∧ wr.cell? ⟨b1, o1 + j * 11 + 4, none⟩ = some (.int .i64 r.kind) ∧ wr.cell? ⟨b1, o1 + j * 11 + 5, none⟩ = some (.int .i64 r.sa) ∧ wr.cell? ⟨b1, o1 + j * 11 + 6, none⟩ = some (.int .i64 r.sl) ∧ wr.cell? ⟨b1, o1 + j * 11 + 7, none⟩ = some (.int .i64 r.da) ∧ wr.cell? ⟨b1, o1 + j * 11 + 8, none⟩ = some (.int .i64 r.dl) ∧ wr.cell? ⟨b1, o1 + j * 11 + 9, none⟩ = some (.slice af nf cf) ∧ wr.cell? ⟨b1, o1 + j * 11 + 10, none⟩ = some (.slice at' nt ct)) ∧ (wr.cell? ⟨w.heap.size, 0, none⟩ = some (.int .i64 k.kind) ∧ wr.cell? ⟨w.heap.size, 1, none⟩ = some (.int .i64 k.src) ∧ wr.cell? ⟨w.heap.size, 2, none⟩ = some (.int .i64 k.frm) ∧ wr.cell? ⟨w.heap.size, 3, none⟩ = some (.int .i64 k.dst) ∧ wr.cell? ⟨w.heap.size, 4, none⟩ = some (.int .i64 k.too)) :=
        ⟨⟨c0, c1, c2, c3, c4, c5, c6, c7, c8, c9, c10⟩, k0, k1, k2, k3, k4⟩
      have HX := hidE (fun (w3 : World) (b3 : Below wr.heap.size wr w3) => (show (w3.cell? ⟨b1, o1 + j * 11, none⟩ = some (.bool r.pass) ∧ w3.cell? ⟨b1, o1 + j * 11 + 1, none⟩ = some (.bool r.quick) ∧ w3.cell? ⟨b1, o1 + j * 11 + 2, none⟩ = some (.bool r.keep) ∧ w3.cell? ⟨b1, o1 + j * 11 + 3, none⟩ = some (.int .i64 r.way) ∧ w3.cell? ⟨b1, o1 + j * 11 + 4, none⟩ = some (.int .i64 r.kind) ∧ w3.cell? ⟨b1, o1 + j * 11 + 5, none⟩ = some (.int .i64 r.sa) ∧ w3.cell? ⟨b1, o1 + j * 11 + 6, none⟩ = some (.int .i64 r.sl) ∧ w3.cell? ⟨b1, o1 + j * 11 + 7, none⟩ = some (.int .i64 r.da) ∧ w3.cell? ⟨b1, o1 + j * 11 + 8, none⟩ = some (.int .i64 r.dl) ∧ w3.cell? ⟨b1, o1 + j * 11 + 9, none⟩ = some (.slice af nf cf) ∧ w3.cell? ⟨b1, o1 + j * 11 + 10, none⟩ = some (.slice at' nt ct)) ∧ (w3.cell? ⟨w.heap.size, 0, none⟩ = some (.int .i64 k.kind) ∧ w3.cell? ⟨w.heap.size, 1, none⟩ = some (.int .i64 k.src) ∧ w3.cell? ⟨w.heap.size, 2, none⟩ = some (.int .i64 k.frm) ∧ w3.cell? ⟨w.heap.size, 3, none⟩ = some (.int .i64 k.dst) ∧ w3.cell? ⟨w.heap.size, 4, none⟩ = some (.int .i64 k.too)) from
        ⟨(HCC.out w3 (HB.out.trans (b3.mono HB.out.size))).1, (HK.out.below HK.out.lt b3).cells⟩))
      go_upto_region 5 with fail
      clear c0 c1 c2 c3 c4 c5 c6 c7 c8 c9 c10 k0 k1 k2 k3 k4
      go_region_held3 (fun W => (W.cell? ⟨b1, o1 + j * 11, none⟩ = some (.bool r.pass) ∧ W.cell? ⟨b1, o1 + j * 11 + 1, none⟩ = some (.bool r.quick) ∧ W.cell? ⟨b1, o1 + j * 11 + 2, none⟩ = some (.bool r.keep) ∧ W.cell? ⟨b1, o1 + j * 11 + 3, none⟩ = some (.int .i64 r.way) ∧ W.cell? ⟨b1, o1 + j * 11 + 4, none⟩ = some (.int .i64 r.kind) ∧ W.cell? ⟨b1, o1 + j * 11 + 5, none⟩ = some (.int .i64 r.sa) ∧ W.cell? ⟨b1, o1 + j * 11 + 6, none⟩ = some (.int .i64 r.sl) ∧ W.cell? ⟨b1, o1 + j * 11 + 7, none⟩ = some (.int .i64 r.da) ∧ W.cell? ⟨b1, o1 + j * 11 + 8, none⟩ = some (.int .i64 r.dl) ∧ W.cell? ⟨b1, o1 + j * 11 + 9, none⟩ = some (.slice af nf cf) ∧ W.cell? ⟨b1, o1 + j * 11 + 10, none⟩ = some (.slice at' nt ct)) ∧ (W.cell? ⟨w.heap.size, 0, none⟩ = some (.int .i64 k.kind) ∧ W.cell? ⟨w.heap.size, 1, none⟩ = some (.int .i64 k.src) ∧ W.cell? ⟨w.heap.size, 2, none⟩ = some (.int .i64 k.frm) ∧ W.cell? ⟨w.heap.size, 3, none⟩ = some (.int .i64 k.dst) ∧ W.cell? ⟨w.heap.size, 4, none⟩ = some (.int .i64 k.too))) (with_reducible first | assumption | go_keep) (first
        | (go_at_call 12; refine hfit.mono ?_; rintro e w3 ⟨rfl, b3⟩; have hS3 := HX.out w3 (belowD wr b3)))
      have b3' := belowD wr b3
      clear hS hfit HX b3
      have own3 := HO.out.below b3'
      have HK3 := hidE (HK.out.below HK.out.lt b3')
      have HB3 := hidE (HB.out.trans (b3'.mono HB.out.size))
      have HS3 := hidE (Nat.le_trans HS.out b3'.size)
      have hq1 : w3.cell? ⟨b1, o1 + j * 11 + 1, none⟩ = some (.bool r.quick) := hS3.1.2.1
      clear hS3
      have HCQ := hidE (fun (W : World) (hb : Below w.heap.size w W) => (HCC.out W hb).1.2.1)
      clear HCC HK HB HS
      cases t with
      | false =>
        rw [traceL_no HF.out] at HT
        go_wp2_with fail
        go_roundw
        case rel => exact ⟨j + 1, acc, by omega, by go_num, own3, Nat.le_succ_of_le HA.out, HK3.out, HB3.out, HS3.out, HT.out⟩
        case measure => simp [intOf]; omega
      | true =>
        have hal : acc.length ≤ 4398046511104 := by have := HA.out; omega
        have HOB := hidE (fun g (hg : u7.ownBlock = some g) => HO.out.lt g hg)
        have FIN : Hid (∀ w5, (w3.alloc (.cells #[.int .i64 (j : Int)] 3)).grownBy w5 u7.ownBlock → KyAt w5 w.heap.size k ∧ Below w.heap.size w w5 ∧ w.heap.size + 1 ≤ w5.heap.size) := by
          intro w5 gr
          have b4 : Below w3.heap.size w3 (w3.alloc (.cells #[.int .i64 (j : Int)] 3)) := (Below.refl _ _).alloc (Nat.le_refl _) _
          have k4' := HK3.out.below HK3.out.lt b4
          have b34 := HB3.out.trans (b4.mono HB3.out.size)
          generalize w3.alloc (.cells #[.int .i64 (j : Int)] 3) = A at gr k4' b34
          have k5 : KyAt w5 w.heap.size k := (gr.block _ k4'.lt (fun e => by have := HOB.out _ e.symm; omega)).trans k4'
          have b5 : Below w.heap.size A w5 := grown_below gr b34.size (fun k hk => by have := HOB.out _ hk; omega)
          refine ⟨k5, b34.trans b5, ?_⟩
          have := k5.lt; omega
        obtain ⟨q, hq⟩ : ∃ q, r.quick = q := ⟨_, rfl⟩
        have HQ1 := hidE hq
        have HCQ2 := hidE (fun (W : World) (hb : Below w.heap.size w W) => (show W.cell? ⟨b1, o1 + j * 11 + 1, none⟩ = some (.bool q) by rw [← hq]; exact HCQ.out W hb))
        clear hq hq1 HCQ HO HOB
        have hs3 := HS3.out
        cases q with
        | true =>
          rw [traceL_quick HF.out HQ1.out] at HT
          go_wp2_with (at_builtin; go_must (refine wpList_append_int rfl (.tmp 24) (.tmp 26) rfl (w.heap.size + 1) u7 acc rfl own3 (j : Int) rfl hal hs3 ?_; intro v5 w5 own5 grow5 lie5; have F5 := hidE (FIN.out w5 grow5); have q5 := HCQ2.out w5 F5.out.2.1))
          rw [← HT.out] at own5
          exact HQ.out _ _ (own5.base0 (by omega)) F5.out.2.1
        | false =>
          rw [traceL_yes HF.out HQ1.out] at HT
          go_wp2_with (at_builtin; go_must (refine wpList_append_int rfl (.tmp 24) (.tmp 26) rfl (w.heap.size + 1) u7 acc rfl own3 (j : Int) rfl hal hs3 ?_; intro v5 w5 own5 grow5 lie5; have F5 := hidE (FIN.out w5 grow5); have q5 := HCQ2.out w5 F5.out.2.1))
          go_roundw
          case rel =>
            refine ⟨j + 1, acc ++ [(j : Int)], by omega, by go_num, own5, ?_, F5.out.1, F5.out.2.1, F5.out.2.2, ?_⟩
            · rw [Hid, List.length_append]; exact Nat.succ_le_succ HA.out
            · rw [Hid, HT.out, List.append_assoc]; rfl
          case measure => simp [intOf]; omega
    · have j1 : ¬ (j : Int) < (N : Int) := by omega
      have hown := HO.out
      have hL : L = acc := by
        rw [HT.out, List.drop_of_length_le (by rw [← HRS.out, List.length_map, HNN.out]; omega)]
        rw [show traceL k way j [] = [] from rfl, List.append_nil]
      rw [hL] at HQ
      clear hL HT HV HRS HNN
      go_wp2_with fail
      exact HQ.out _ _ (hown.base0 (by omega)) HB.out
set_option maxHeartbeats 8000000 in
theorem sameInts (b1 b2 : Nat) (v1 v2 : Value) (l : List Int) (w : World) (h1 : OwnI w b1 v1 l) (h2 : OwnI w b2 v2 l) :
    Calls Tryd.prog 10 #[v1, v2] w fun e w' => e = .returned (.bool true) ∧ Below w.heap.size w w' := by
  obtain ⟨a1, c1, hv1⟩ := h1.form
  obtain ⟨a2, c2, hv2⟩ := h2.form
  obtain ⟨N, hN⟩ : ∃ N, l.length = N := ⟨_, rfl⟩
  rw [hN] at hv1 hv2
  subst hv1 hv2
  have HN := hidE hN
  have H1 := hidE h1
  have H2 := hidE h2
  have hNN : ((N : Int) != (N : Int)) = false := by simp
  clear h1 h2 hN
  go_enter Tryd.func10, Tryd.ntmps10
  go_upto_region 4 with fail
  go_loopw [5] (fun i wr => ∃ j : Nat, j ≤ N ∧ i = .int .i64 (j : Int) ∧ SameW w wr) (fun i _ => ((N : Int) - intOf i).toNat)
  case atStart => exact ⟨0, by omega, rfl, SameW.refl _⟩
  case round =>
    obtain ⟨j, hj, rfl, hs⟩ := hrel
    have HSW := hidE hs
    clear hs
    by_cases hjn : j < N
    · have j1 : (j : Int) < (N : Int) := by omega
      have j2 : (0 : Int) ≤ (j : Int) := by omega
      have o1 := H1.out.same HSW.out
      have o2 := H2.out.same HSW.out
      obtain ⟨g1, p1, e1, _, _, hl1, hm1⟩ := o1.shape (by have := HN.out; omega)
      obtain ⟨g2, p2, e2, _, _, hl2, hm2⟩ := o2.shape (by have := HN.out; omega)
      rw [HN.out] at e1 e2 hl1 hl2
      simp only [Value.slice.injEq, true_and] at e1 e2
      obtain ⟨rfl, rfl⟩ := e1
      obtain ⟨rfl, rfl⟩ := e2
      have hjl : j < l.length := by have := HN.out; omega
      have q1 := o1.cell HN.out.symm j hjl
      have q2 := o2.cell HN.out.symm j hjl
      generalize l[j] = x at q1 q2
      have hx : (x != x) = false := by simp
      have hm1' : c1 ≤ 9223372036854775807 := by unfold maxLen at hm1; omega
      have hm2' : c2 ≤ 9223372036854775807 := by unfold maxLen at hm2; omega
      clear o1 o2 hm1 hm2 hjl
      go_upto_region 6 with fail
      go_big_quiet (fail)
      go_wp2_with fail
      go_roundw
      case rel => exact ⟨j + 1, by omega, by go_num, HSW.out.drewN _⟩
      case measure => simp [intOf]; omega
    · have j1 : ¬ (j : Int) < (N : Int) := by omega
      go_wp2_with fail
      go_ret
      exact ⟨rfl, HSW.out.below (Below.refl _ _)⟩
end Go.Proofs.YtfhchbpgpaljhaaDoor
