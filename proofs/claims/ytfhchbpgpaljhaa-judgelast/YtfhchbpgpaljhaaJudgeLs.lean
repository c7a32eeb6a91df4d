/- JudgeLast: the law's walk. -/
import Derived.Test.YtfhchbpgpaljhaaJudgeJud
import Derived.Test.YtfhchbpgpaljhaaRlOwn
import Derived.Deep.RegionHeld3
import Derived.Deep.DeepCutAuto
import Derived.Deep.DeepMust
namespace Go.Proofs.Ytfhchbpgpaljhaa
open Go.RowKit
set_option linter.unusedVariables false
set_option maxRecDepth 10000

theorem judE_0 {l : List Rl} {k : Ky} {way : Int} (h : judE l k way = 0) : rusE l = 0 ∧ keyE k way = 0 := by
  unfold judE at h
  split at h
  · rename_i h1; exact ⟨h1, h⟩
  · rename_i h1; exact absurd h h1
theorem judE_key {l : List Rl} {k : Ky} {way : Int} (h : keyE k way = 0) : judE l k way = rusE l := by
  unfold judE
  split
  · rename_i h1; rw [h1, h]
  · rfl
theorem judR_neg {l : List Rl} {n : Int} (h : n < 0) : judR l n = zeroR := by unfold judR; rw [if_pos h]
theorem judR_behind {l : List Rl} {r : Rl} : judR (l ++ [r]) (l.length : Int) = r := by
  rw [judR_at (by simp)]; simp
theorem judR_snoc {l : List Rl} {r : Rl} {n : Int} (h : n < (l.length : Int)) : judR (l ++ [r]) n = judR l n := by
  by_cases h0 : n < 0
  · rw [judR_neg h0, judR_neg h0]
  · obtain ⟨m, rfl⟩ := Int.eq_ofNat_of_zero_le (by omega : 0 ≤ n)
    have hm : m < l.length := by omega
    have h2 : m < (l ++ [r]).length := by simp; omega
    rw [judR_at hm, judR_at h2, List.getElem_append_left hm]
theorem judR_cons {l : List Rl} {r : Rl} {m : Nat} : judR (r :: l) ((m : Int) + 1) = judR l (m : Int) := by
  unfold judR
  rw [if_neg (by omega), if_neg (by omega), show ((m : Int) + 1).toNat = m + 1 by omega, Int.toNat_natCast, List.getElem?_cons_succ]
theorem lastN_small {k : Ky} {way : Int} {l : List Rl} : lastN (traceL k way 0 l) < (l.length : Int) := by
  by_cases h : traceL k way 0 l = []
  · rw [h]; show (-1 : Int) < _; omega
  · obtain ⟨j, h1, h2⟩ := lastN_lt h; omega
theorem stop_quick {k : Ky} {way : Int} {l : List Rl} (h : traceL k way 0 l ≠ []) {m : Nat} (hm : lastN (traceL k way 0 l) = (m : Int)) (hl : m < l.length) : l[m].quick = stopB k way l := by
  have := quick_of_stop h
  rw [hm, judR_at hl] at this
  exact this
theorem RlAt.storeQ {w : World} {b : Nat} {r : Rl} {fv tv : Value} (h : RlAt w b r fv tv) : ∃ w', w.setCell ⟨b, 1, none⟩ (.bool true) = w' ∧ RlAt w' b { r with quick := true } fv tv ∧ (∀ j, j ≠ b → w'.heap[j]? = w.heap[j]?) ∧ Below b w w' := by
  refine ⟨_, rfl, ?_, ?_, (Below.refl b w).setCell (Nat.le_refl _) _⟩
  · have e := heap_setCell_same _ b 1 _ _ (.bool true) h
    exact e
  · intro j hj
    exact heap_setCell_other w ⟨b, 1, none⟩ j _ hj
theorem FitW.rx {w W : World} {r : Rl} {k : Ky} {fv tv : Value} (h : FitW w W r k fv tv) (h1 : r.fr.length ≤ 140737488355328) (h2 : r.tl.length ≤ 140737488355328) : PtsOf W (r, fv, tv) := ⟨h.pf, h.pt, h1, h2⟩
set_option maxHeartbeats 40000000 in
theorem last_walk (v : Value) (rs : List (Rl × Value × Value)) (r : Rl) (fv tv : Value) (k : Ky) (way : Int) (w : World) (hv : Rls w v rs) (hf : Spns w fv r.fr) (ht : Spns w tv r.tl) (hlf : r.fr.length ≤ 140737488355328) (hlt : r.tl.length ≤ 140737488355328) {q : Prop} (hq : q) :
    Calls Try.prog 3 #[v, rlV r fv tv, keyV k, .int .i64 way] w fun e w' => e = .returned (.bool true) ∧ Below w.heap.size w w' := by
  obtain ⟨ao, co, hve⟩ := hv.len
  obtain ⟨N, hN⟩ : ∃ N, rs.length = N := ⟨_, rfl⟩
  rw [hN] at hve
  subst hve
  have F0 := FitW.new w r k fv tv hf ht
  obtain ⟨Q, hQ⟩ : ∃ Q : Ending → World → Prop, Q = fun e w' => e = .returned (.bool true) ∧ Below w.heap.size w w' := ⟨_, rfl⟩
  have HQ : Hid (∀ w', Below w.heap.size w w' → Q (.returned (.bool true)) w') := by rw [hQ]; exact fun _ h => ⟨rfl, h⟩
  rw [← hQ]
  clear hQ hq
  have HP := hidE (show r.fr.length ≤ 140737488355328 ∧ r.tl.length ≤ 140737488355328 from ⟨hlf, hlt⟩)
  have HPF := hidE hf
  have HPT := hidE ht
  obtain ⟨af, cf, hfe⟩ := hf.len
  obtain ⟨at', ct, hte⟩ := ht.len
  generalize r.fr.length = nf at hfe
  generalize r.tl.length = nt at hte
  subst hfe hte
  obtain ⟨W0, hW0⟩ : ∃ W0, (w.alloc (.cells #[.bool r.pass, .bool r.quick, .bool r.keep, .int .i64 r.way, .int .i64 r.kind, .int .i64 r.sa, .int .i64 r.sl, .int .i64 r.da, .int .i64 r.dl, .slice af nf cf, .slice at' nt ct] 27)).alloc (.cells #[.int .i64 k.kind, .int .i64 k.src, .int .i64 k.frm, .int .i64 k.dst, .int .i64 k.too] 29) = W0 := ⟨_, rfl⟩
  rw [hW0] at F0
  have HW0 := hidE hW0
  have HV := hidE hv
  have HNN := hidE hN
  clear hW0 hf ht hlf hlt hv hN
  by_cases h20 : 20 ≤ N
  · have i1 : (N : Int) ≥ 20 := by omega
    unfold rlV keyV
    go_enter Try.func3, Try.ntmps3
    go_upto_region 1 with fail
    rw [HW0.out]
    go_wp2_with fail
    exact HQ.out _ F0.bel
  have i1 : ¬ (N : Int) ≥ 20 := by omega
  obtain ⟨RS, hRS⟩ : ∃ RS, rs.map Prod.fst = RS := ⟨_, rfl⟩
  have HRS := hidE hRS
  have HLR := hidE (show RS.length = N by rw [← hRS, List.length_map]; exact HNN.out)
  clear hRS
  have hj1 := judge_any _ rs k way W0 (HV.out.below F0.bel)
  rw [HRS.out] at hj1
  unfold keyV at hj1
  unfold rlV keyV
  go_enter Try.func3, Try.ntmps3
  go_upto_region 1 with fail
  rw [HW0.out]
  clear HW0
  have F := F0
  clear F0
  obtain ⟨k0, k1, k2, k3, k4⟩ := F.ky.cells
  by_cases hE : judE RS k way = 0
  case neg =>
    rw [erV_ne hE] at hj1
    generalize judE RS k way = z at hj1
    clear hE
    go_wp2_with (go_at_call 4; go_must (refine hj1.mono ?_; rintro e w1 ⟨rfl, b1⟩))
    exact HQ.out _ (F.step b1).bel
  rw [show judP RS k way = (judR RS (lastN (traceL k way 0 RS))).pass by unfold judP; rw [if_pos hE], show judK RS k way = (judR RS (lastN (traceL k way 0 RS))).keep by unfold judK; rw [if_pos hE], show judN RS k way = lastN (traceL k way 0 RS) by unfold judN; rw [if_pos hE], hE, show erV 0 = .nilIface from rfl] at hj1
  have HE := hidE hE
  clear hE
  obtain ⟨n, hn⟩ : ∃ n, lastN (traceL k way 0 RS) = n := ⟨_, rfl⟩
  obtain ⟨a, ha⟩ : ∃ a, (judR RS n).pass = a := ⟨_, rfl⟩
  obtain ⟨b, hb⟩ : ∃ b, (judR RS n).keep = b := ⟨_, rfl⟩
  rw [hn, ha, hb] at hj1
  have HN1 := hidE hn
  have HA1 := hidE ha
  have HB1 := hidE hb
  clear hn ha hb
  go_upto_region 6 with (go_at_call 4; go_must (refine hj1.mono ?_; rintro e w1 ⟨rfl, b1⟩))
  clear hj1 k0 k1 k2 k3 k4
  have F := F.step b1
  clear b1
  obtain ⟨k0, k1, k2, k3, k4⟩ := F.ky.cells
  obtain ⟨T, hT⟩ : ∃ T, traceL k way 0 RS = T := ⟨_, rfl⟩
  obtain ⟨M, hM⟩ : ∃ M, T.length = M := ⟨_, rfl⟩
  have htr : Calls Try.prog 5 #[.slice ao N co, keyV k, .int .i64 way] w1 fun e w' => ∃ a2 c2, e = .returned (.tuple #[.slice a2 M c2, .nilIface]) ∧ OwnI w' w1.heap.size (.slice a2 M c2) T ∧ Below w1.heap.size w1 w' := by
    refine (trace_any _ rs k way w1 (HV.out.below F.bel)).mono ?_
    rintro e w' ⟨v', rfl, own, bb⟩
    rw [HRS.out] at own ⊢
    rw [show trcL RS k way = T by unfold trcL; rw [if_pos HE.out, hT]] at own
    obtain ⟨a2, c2, hv'⟩ := own.form
    rw [hM] at hv'
    subst hv'
    refine ⟨a2, c2, ?_, own, bb⟩
    rw [HE.out]; rfl
  have HT := hidE hT
  have HM := hidE hM
  unfold keyV at htr
  clear hT hM
  go_upto_region 8 with (go_at_call 5; go_must (refine htr.mono ?_; rintro e w2 ⟨a2, c2, rfl, own2, b2⟩))
  clear htr k0 k1 k2 k3 k4
  have HO2 := hidE own2
  have F2 := hidE (F.step b2)
  clear F b2 own2
  have hv2 := HV.out.below F2.out.bel
  have hln : ([] : List Rx).length + rs.length ≤ 1000000 := by have := HNN.out; simp; omega
  go_upto_region 9 with (at_builtin; go_must (refine wpList_append_rls rfl (.tmp 48) (.tmp 49) rfl w2.heap.size (.slice none 0 0) [] rfl (OwnRl.nil _ _) (.slice ao N co) rs rfl hv2 hln (Nat.le_refl _) ?_; intro v3 w3 own3 gr3 lie3))
  have G3 : Below w2.heap.size w2 w3 := grown_below gr3 (Nat.le_refl _) (fun k hk => by simp [Value.ownBlock] at hk)
  rw [List.nil_append] at own3
  clear gr3 lie3
  have HG3 := hidE G3
  have F3 := hidE (F2.out.step G3)
  clear G3 hv2 hln
  obtain ⟨d0, d1, d2, d3, d4, d5, d6, d7, d8, d9, d10⟩ := F3.out.rl.cells
  have hx3 : Rls (w3.alloc (.cells #[.bool r.pass, .bool r.quick, .bool r.keep, .int .i64 r.way, .int .i64 r.kind, .int .i64 r.sa, .int .i64 r.sl, .int .i64 r.da, .int .i64 r.dl, .slice af nf cf, .slice at' nt ct] 27)) (.slice (some ⟨w3.heap.size, 0, none⟩) 1 1) [(r, .slice af nf cf, .slice at' nt ct)] :=
    Rls.box (t := 27) (heap_alloc_new w3 _) ((F3.out.rx HP.out.1 HP.out.2).below ((Below.refl _ _).alloc (Nat.le_refl _) _))
  have hs3 : w2.heap.size ≤ (w3.alloc (.cells #[.bool r.pass, .bool r.quick, .bool r.keep, .int .i64 r.way, .int .i64 r.kind, .int .i64 r.sa, .int .i64 r.sl, .int .i64 r.da, .int .i64 r.dl, .slice af nf cf, .slice at' nt ct] 27)).heap.size := by
    have := HG3.out.size; simp; omega
  have hln : rs.length + 1 ≤ 1000000 := by have := HNN.out; omega
  go_upto_region 10 with (at_builtin; go_must (refine wpList_append_rls rfl (.tmp 51) (.tmp 53) rfl w2.heap.size v3 rs rfl (own3.alloc _) (.slice (some ⟨w3.heap.size, 0, none⟩) 1 1) [(r, .slice af nf cf, .slice at' nt ct)] rfl hx3 hln hs3 ?_; intro v4 w4 own4 gr4 lie4))
  have G4 : Below w2.heap.size w2 w4 := (HG3.out.trans (((Below.refl _ _).alloc HG3.out.size _))).trans (grown_below gr4 hs3 (fun k hk => (own3.block k hk).1))
  clear gr4 lie4 hx3 hs3 hln own3 HG3 F3 d0 d1 d2 d3 d4 d5 d6 d7 d8 d9 d10
  have HG4 := hidE G4
  have F4 := F2.out.step G4
  have hr4 : Rls w4 v4 (rs ++ [(r, .slice af nf cf, .slice at' nt ct)]) := own4.rls (((HV.out.below F4.bel).pts).append (Pts.one (F4.rx HP.out.1 HP.out.2)))
  have hj4 := judge_any v4 _ k way w4 hr4
  have hmap : (rs ++ [(r, Value.slice af nf cf, Value.slice at' nt ct)]).map Prod.fst = RS ++ [r] := by rw [List.map_append, HRS.out]; rfl
  rw [hmap] at hj4
  obtain ⟨k0, k1, k2, k3, k4⟩ := F4.ky.cells
  clear G4 own4
  have HR4 := hidE hr4
  have HMAP := hidE hmap
  clear hr4 hmap
  unfold keyV at hj4
  rw [judE_key (judE_0 HE.out).2] at hj4
  by_cases hE2 : rusE (RS ++ [r]) = 0
  case neg =>
    have hck := rusCheck_any v4 (rs ++ [(r, .slice af nf cf, .slice at' nt ct)])
    rw [HMAP.out, erV_ne hE2] at hck
    rw [erV_ne hE2] at hj4
    generalize rusE (RS ++ [r]) = z at hj4 hck
    clear hE2
    go_upto_region 11 with (go_at_call 4; go_must (refine hj4.mono ?_; rintro e w5 ⟨rfl, b5⟩))
    have F5 := hidE (F4.step b5)
    have hck5 := hck w5.drew (show Rls w5.drew v4 _ from (HR4.out.below b5 : Rls w5 v4 _))
    clear hj4 k0 k1 k2 k3 k4 hck
    generalize judP (RS ++ [r]) k way = c
    generalize judK (RS ++ [r]) k way = d
    generalize judN (RS ++ [r]) k way = m
    have hS : True := trivial
    go_region_held3 (fun W => True) (with_reducible first | assumption | exact trivial | go_keep) (first
      | (go_at_call 6; refine hck5.mono ?_; rintro e w6 ⟨rfl, b6⟩))
    go_wp2_with fail
    exact HQ.out _ (F5.out.step (belowD w5 b6)).bel
  have hck := rusCheck_any v4 (rs ++ [(r, .slice af nf cf, .slice at' nt ct)])
  rw [HMAP.out, hE2, show erV 0 = .nilIface from rfl] at hck
  rw [hE2, show erV 0 = .nilIface from rfl] at hj4
  have HE2 := hidE hE2
  have HJ2 := hidE (show judE (RS ++ [r]) k way = 0 by rw [judE_key (judE_0 HE.out).2]; exact hE2)
  clear hE2
  rw [show judP (RS ++ [r]) k way = (judR (RS ++ [r]) (lastN (traceL k way 0 (RS ++ [r])))).pass by unfold judP; rw [if_pos HJ2.out], show judK (RS ++ [r]) k way = (judR (RS ++ [r]) (lastN (traceL k way 0 (RS ++ [r])))).keep by unfold judK; rw [if_pos HJ2.out], show judN (RS ++ [r]) k way = lastN (traceL k way 0 (RS ++ [r])) by unfold judN; rw [if_pos HJ2.out]] at hj4
  obtain ⟨m, hm⟩ : ∃ m, lastN (traceL k way 0 (RS ++ [r])) = m := ⟨_, rfl⟩
  obtain ⟨c, hc⟩ : ∃ c, (judR (RS ++ [r]) m).pass = c := ⟨_, rfl⟩
  obtain ⟨d, hd⟩ : ∃ d, (judR (RS ++ [r]) m).keep = d := ⟨_, rfl⟩
  rw [hm, hc, hd] at hj4
  have HM4 := hidE hm
  have HC4 := hidE hc
  have HD4 := hidE hd
  clear hm hc hd
  go_upto_region 11 with (go_at_call 4; go_must (refine hj4.mono ?_; rintro e w5 ⟨rfl, b5⟩))
  have G5 := hidE (HG4.out.trans (b5.mono HG4.out.size))
  have hck5 := hck w5.drew (show Rls w5.drew v4 _ from (HR4.out.below b5 : Rls w5 v4 _))
  clear hj4 k0 k1 k2 k3 k4 hck F4 b5
  have hS : True := trivial
  go_region_held3 (fun W => True) (with_reducible first | assumption | exact trivial | go_keep) (first
    | (go_at_call 6; refine hck5.mono ?_; rintro e w6 ⟨rfl, b6⟩))
  have G6 := hidE (G5.out.trans ((belowD w5 b6).mono G5.out.size))
  have F6 := hidE (F2.out.step G6.out)
  clear hck5 b6 hS G5
  have hfit := Fits_any r (.slice af nf cf) (.slice at' nt ct) k way w6 F6.out.pf F6.out.pt HP.out.1 HP.out.2
  obtain ⟨⟨c3, c4, c5, c6, c7, c8, c9, c10⟩, k0, k1, k2, k3, k4⟩ := F6.out.cells
  obtain ⟨c0, c1, c2, _⟩ := F6.out.rl.cells
  obtain ⟨t, htt⟩ : ∃ t, fitsB r k way = t := ⟨_, rfl⟩
  rw [htt] at hfit
  have HTT := hidE htt
  clear htt
  unfold rlV keyV at hfit
  go_upto_region 16 with (go_at_call 7; go_must (refine hfit.mono ?_; rintro e w7 ⟨rfl, b7⟩))
  have G7 := hidE (G6.out.trans (b7.mono G6.out.size))
  have F7 := hidE (F2.out.step G7.out)
  clear hfit b7 c0 c1 c2 c3 c4 c5 c6 c7 c8 c9 c10 k0 k1 k2 k3 k4 F6 G6
  obtain ⟨st, hst⟩ : ∃ st, stopB k way RS = st := ⟨_, rfl⟩
  have HST := hidE hst
  clear hst
  go_cut [21] from 80 to 94 (fun x wr => x = .bool st ∧ wr = w7)
  case first =>
    by_cases hT0 : T = []
    · have hM0 : M = 0 := by rw [← HM.out, hT0]; rfl
      obtain rfl : st = false := by rw [← HST.out]; exact stop_of_nil (by rw [HT.out]; exact hT0)
      subst hM0
      clear hT0
      go_wp2_with fail
      go_meet
      case rel => exact ⟨rfl, rfl⟩
    · have hT1 : traceL k way 0 RS ≠ [] := by rw [HT.out]; exact hT0
      have hpos : 0 < T.length := List.length_pos_iff.2 hT0
      have own7 := HO2.out.below G7.out
      obtain ⟨g2, cap2, e2, _, _, hl2, hm2⟩ := own7.shape hpos
      rw [HM.out] at e2 hl2
      simp only [Value.slice.injEq, true_and] at e2
      obtain ⟨rfl, rfl⟩ := e2
      have hcl := own7.cell HM.out.symm (M - 1) (by have := HM.out; omega)
      obtain ⟨mm, hmm, hlast⟩ := lastN_lt hT1
      have hcl2 : w7.cell? ⟨g2, M - 1, none⟩ = some (.int .i64 (mm : Int)) := by
        rw [hcl, ← hlast, HT.out]
        unfold lastN
        have hlt : M - 1 < T.length := by have := HM.out; omega
        have h9 : T[T.length - 1]? = some (T[M - 1]'hlt) := by
          have e : T.length - 1 = M - 1 := by have := HM.out; omega
          rw [e, List.getElem?_eq_getElem hlt]
        rw [List.getLast?_eq_getElem?, h9]
        rfl
      have hmr : mm < rs.length := by rw [← HRS.out, List.length_map] at hmm; exact hmm
      have hsq := stop_quick hT1 hlast hmm
      rw [HST.out] at hsq
      obtain ⟨M', rfl⟩ : ∃ M', M = M' + 1 := ⟨M - 1, by have := HM.out; omega⟩
      rw [Nat.add_sub_cancel] at hcl2
      have hv7 := HV.out.below F7.out.bel
      obtain ⟨b1, o1, e1, hb1, hl1, hx1, hc1⟩ := hv7.shape (by omega)
      subst e1
      have hx1' : co ≤ 9223372036854775807 := by unfold maxLen at hx1; omega
      have hm2' : c2 ≤ 9223372036854775807 := by unfold maxLen at hm2; omega
      obtain ⟨⟨q7, q1, q9⟩, q8⟩ := hc1 mm hmr
      clear q7 q9 q8
      have hq2 : rs[mm].1.quick = st := by
        have h5 : RS[mm]'hmm = rs[mm].1 := by
          have := HRS.out
          subst this
          rw [List.getElem_map]
        rw [h5] at hsq; exact hsq
      rw [hq2] at q1
      have j1 : (mm : Int) < (N : Int) := by have := HNN.out; omega
      have j2 : (0 : Int) ≤ (mm : Int) := by omega
      clear hq2 hsq hc1 hcl hlast hmm hmr hv7 hx1 hm2 own7 hpos hT0 hT1
      go_wp2_with fail
      go_meet
      case rel => exact ⟨rfl, rfl⟩
  case rest =>
    obtain ⟨rfl, hwc⟩ := hcut
    rw [hwc]
    clear hwc
    obtain ⟨c0, c1, c2, cr⟩ := F7.out.rl.cells
    clear cr
    have haa : (a != a) = false := by cases a <;> rfl
    have hbb : (b != b) = false := by cases b <;> rfl
    have hpp : (r.pass != r.pass) = false := by cases r.pass <;> rfl
    have hkk : (r.keep != r.keep) = false := by cases r.keep <;> rfl
    by_cases hts : t = true ∧ st = false
    · skip
      obtain ⟨rfl, rfl⟩ := hts
      have hm := HM4.out
      rw [last_behind HTT.out HST.out] at hm
      have hc := HC4.out
      have hd := HD4.out
      rw [← hm, judR_behind] at hc hd
      rw [HLR.out] at hm
      subst hm hc hd
      have hNN : ((N : Int) != (N : Int)) = false := by simp
      go_upto_region 22 with fail
      clear haa hbb hpp hkk HO2 HR4 HMAP G7 F2 HG4
      obtain ⟨w8, hw8, r8, o8, b8⟩ := F7.out.rl.storeQ
      have hfz : w7.frozen? ⟨w.heap.size, 1, none⟩ = false := frozen_of_row w7 w.heap.size 1 _ _ F7.out.rl
      have bel8 : Below w.heap.size w w8 := F7.out.bel.trans b8
      have F8 : FitW w w8 { r with quick := true } k (.slice af nf cf) (.slice at' nt ct) := ⟨r8, (o8 (w.heap.size + 1) (by omega)).trans F7.out.ky, HPF.out.below bel8, HPT.out.below bel8, bel8⟩
      have HW8 := hidE hw8
      clear hw8 o8 b8 bel8 r8
      have HF8 := hidE F8
      clear F8
      go_upto_region 23 with fail
      rw [HW8.out]
      clear HW8 c0 c1 c2 hfz F7
      obtain ⟨d0, d1, d2, d3, d4, d5, d6, d7, d8, d9, d10⟩ := HF8.out.rl.cells
      simp only at d0 d1 d2 d3 d4 d5 d6 d7 d8 d9 d10
      have b9 : Below w8.heap.size w8 (w8.alloc (.cells #[.bool r.pass, .bool true, .bool r.keep, .int .i64 r.way, .int .i64 r.kind, .int .i64 r.sa, .int .i64 r.sl, .int .i64 r.da, .int .i64 r.dl, .slice af nf cf, .slice at' nt ct] 27)) := (Below.refl _ _).alloc (Nat.le_refl _) _
      have own9 : OwnRl (w8.alloc (.cells #[.bool r.pass, .bool true, .bool r.keep, .int .i64 r.way, .int .i64 r.kind, .int .i64 r.sa, .int .i64 r.sl, .int .i64 r.da, .int .i64 r.dl, .slice af nf cf, .slice at' nt ct] 27)) w8.heap.size (.slice (some ⟨w8.heap.size, 0, none⟩) 1 1) [({ r with quick := true }, .slice af nf cf, .slice at' nt ct)] := OwnRl.box (heap_alloc_new w8 _) (Nat.le_refl _)
      have hv9 := HV.out.below (HF8.out.bel.trans (b9.mono HF8.out.bel.size))
      have hln : [(({ r with quick := true } : Rl), Value.slice af nf cf, Value.slice at' nt ct)].length + rs.length ≤ 1000000 := by have := HNN.out; simp; omega
      have HB9 := hidE b9
      have hs9 := b9.size
      clear b9
      go_upto_region 25 with (at_builtin; go_must (refine wpList_append_rls rfl (.tmp 132) (.tmp 133) rfl w8.heap.size (.slice (some ⟨w8.heap.size, 0, none⟩) 1 1) [({ r with quick := true }, .slice af nf cf, .slice at' nt ct)] rfl own9 (.slice ao N co) rs rfl hv9 hln hs9 ?_; intro v10 w10 own10 gr10 lie10))
      have G10 : Below w8.heap.size w8 w10 := HB9.out.trans (grown_below gr10 hs9 (fun k hk => (own9.block k hk).1))
      clear gr10 lie10 hs9 hln hv9 own9 HB9 d0 d1 d2 d3 d4 d5 d6 d7 d8 d9 d10
      have F10 := hidE (HF8.out.step G10)
      clear G10 HF8
      have hr10 : Rls w10 v10 ([({ r with quick := true }, .slice af nf cf, .slice at' nt ct)] ++ rs) := own10.rls ((Pts.one (F10.out.rx HP.out.1 HP.out.2)).append ((HV.out.below F10.out.bel).pts))
      have hj := judge_any v10 _ k way w10 hr10
      have hmap : ([(({ r with quick := true } : Rl), Value.slice af nf cf, Value.slice at' nt ct)] ++ rs).map Prod.fst = { r with quick := true } :: RS := by rw [List.map_append, HRS.out]; rfl
      have hJ : judE ({ r with quick := true } :: RS) k way = 0 := by rw [judE_key (judE_0 HE.out).2]; exact rusE_ahead HE2.out
      rw [hmap, show judP ({ r with quick := true } :: RS) k way = (judR ({ r with quick := true } :: RS) (lastN (traceL k way 0 ({ r with quick := true } :: RS)))).pass by unfold judP; rw [if_pos hJ], show judK ({ r with quick := true } :: RS) k way = (judR ({ r with quick := true } :: RS) (lastN (traceL k way 0 ({ r with quick := true } :: RS)))).keep by unfold judK; rw [if_pos hJ], show judN ({ r with quick := true } :: RS) k way = lastN (traceL k way 0 ({ r with quick := true } :: RS)) by unfold judN; rw [if_pos hJ], hJ, show erV 0 = .nilIface from rfl] at hj
      obtain ⟨k0, k1, k2, k3, k4⟩ := F10.out.ky.cells
      clear own10 hr10 hmap hJ
      unfold keyV at hj
      rw [last_ahead (show fitsB { r with quick := true } k way = true from HTT.out) rfl, show judR ({ r with quick := true } :: RS) 0 = { r with quick := true } from rfl] at hj
      simp only at hj
      have hpp : (r.pass == r.pass) = true := by cases r.pass <;> rfl
      have hkk : (r.keep == r.keep) = true := by cases r.keep <;> rfl
      go_wp2_with (go_at_call 4; go_must (refine hj.mono ?_; rintro e w11 ⟨rfl, b11⟩; have F11 := hidE (F10.out.step b11); obtain ⟨d0, d1, d2, dr⟩ := F11.out.rl.cells; clear dr))
      exact HQ.out _ F11.out.bel

    · skip
      have hno : ¬ (fitsB r k way = true ∧ stopB k way RS = false) := by rw [HTT.out, HST.out]; exact hts
      have htr := last_behind_no hno
      have hm := HM4.out
      rw [htr, HN1.out] at hm
      have hsm := lastN_small (k := k) (way := way) (l := RS)
      rw [HN1.out] at hsm
      have hc := HC4.out
      have hd := HD4.out
      rw [← hm, judR_snoc hsm] at hc hd
      rw [HA1.out] at hc
      rw [HB1.out] at hd
      subst hm hc hd
      have hnn : (n != n) = false := by simp
      clear hno htr hsm
      cases t with
      | false =>
        go_upto_region 22 with fail
        clear haa hbb hpp hkk HO2 HR4 HMAP G7 F2 HG4
        obtain ⟨w8, hw8, r8, o8, b8⟩ := F7.out.rl.storeQ
        have hfz : w7.frozen? ⟨w.heap.size, 1, none⟩ = false := frozen_of_row w7 w.heap.size 1 _ _ F7.out.rl
        have bel8 : Below w.heap.size w w8 := F7.out.bel.trans b8
        have F8 : FitW w w8 { r with quick := true } k (.slice af nf cf) (.slice at' nt ct) := ⟨r8, (o8 (w.heap.size + 1) (by omega)).trans F7.out.ky, HPF.out.below bel8, HPT.out.below bel8, bel8⟩
        have HW8 := hidE hw8
        clear hw8 o8 b8 bel8 r8
        have HF8 := hidE F8
        clear F8
        go_upto_region 23 with fail
        rw [HW8.out]
        clear HW8 c0 c1 c2 hfz F7
        obtain ⟨d0, d1, d2, d3, d4, d5, d6, d7, d8, d9, d10⟩ := HF8.out.rl.cells
        simp only at d0 d1 d2 d3 d4 d5 d6 d7 d8 d9 d10
        have b9 : Below w8.heap.size w8 (w8.alloc (.cells #[.bool r.pass, .bool true, .bool r.keep, .int .i64 r.way, .int .i64 r.kind, .int .i64 r.sa, .int .i64 r.sl, .int .i64 r.da, .int .i64 r.dl, .slice af nf cf, .slice at' nt ct] 27)) := (Below.refl _ _).alloc (Nat.le_refl _) _
        have own9 : OwnRl (w8.alloc (.cells #[.bool r.pass, .bool true, .bool r.keep, .int .i64 r.way, .int .i64 r.kind, .int .i64 r.sa, .int .i64 r.sl, .int .i64 r.da, .int .i64 r.dl, .slice af nf cf, .slice at' nt ct] 27)) w8.heap.size (.slice (some ⟨w8.heap.size, 0, none⟩) 1 1) [({ r with quick := true }, .slice af nf cf, .slice at' nt ct)] := OwnRl.box (heap_alloc_new w8 _) (Nat.le_refl _)
        have hv9 := HV.out.below (HF8.out.bel.trans (b9.mono HF8.out.bel.size))
        have hln : [(({ r with quick := true } : Rl), Value.slice af nf cf, Value.slice at' nt ct)].length + rs.length ≤ 1000000 := by have := HNN.out; simp; omega
        have HB9 := hidE b9
        have hs9 := b9.size
        clear b9
        go_upto_region 25 with (at_builtin; go_must (refine wpList_append_rls rfl (.tmp 132) (.tmp 133) rfl w8.heap.size (.slice (some ⟨w8.heap.size, 0, none⟩) 1 1) [({ r with quick := true }, .slice af nf cf, .slice at' nt ct)] rfl own9 (.slice ao N co) rs rfl hv9 hln hs9 ?_; intro v10 w10 own10 gr10 lie10))
        have G10 : Below w8.heap.size w8 w10 := HB9.out.trans (grown_below gr10 hs9 (fun k hk => (own9.block k hk).1))
        clear gr10 lie10 hs9 hln hv9 own9 HB9 d0 d1 d2 d3 d4 d5 d6 d7 d8 d9 d10
        have F10 := hidE (HF8.out.step G10)
        clear G10 HF8
        have hr10 : Rls w10 v10 ([({ r with quick := true }, .slice af nf cf, .slice at' nt ct)] ++ rs) := own10.rls ((Pts.one (F10.out.rx HP.out.1 HP.out.2)).append ((HV.out.below F10.out.bel).pts))
        have hj := judge_any v10 _ k way w10 hr10
        have hmap : ([(({ r with quick := true } : Rl), Value.slice af nf cf, Value.slice at' nt ct)] ++ rs).map Prod.fst = { r with quick := true } :: RS := by rw [List.map_append, HRS.out]; rfl
        have hJ : judE ({ r with quick := true } :: RS) k way = 0 := by rw [judE_key (judE_0 HE.out).2]; exact rusE_ahead HE2.out
        rw [hmap, show judP ({ r with quick := true } :: RS) k way = (judR ({ r with quick := true } :: RS) (lastN (traceL k way 0 ({ r with quick := true } :: RS)))).pass by unfold judP; rw [if_pos hJ], show judK ({ r with quick := true } :: RS) k way = (judR ({ r with quick := true } :: RS) (lastN (traceL k way 0 ({ r with quick := true } :: RS)))).keep by unfold judK; rw [if_pos hJ], show judN ({ r with quick := true } :: RS) k way = lastN (traceL k way 0 ({ r with quick := true } :: RS)) by unfold judN; rw [if_pos hJ], hJ, show erV 0 = .nilIface from rfl] at hj
        obtain ⟨k0, k1, k2, k3, k4⟩ := F10.out.ky.cells
        clear own10 hr10 hmap hJ
        unfold keyV at hj
        have hta := last_ahead_no (l := RS) (show fitsB { r with quick := true } k way = false from HTT.out)
        rw [hta, HT.out] at hj
        clear hta
        have haa : (a == a) = true := by cases a <;> rfl
        have hbb : (b == b) = true := by cases b <;> rfl
        by_cases hT0 : T = []
        · have hn := HN1.out
          rw [HT.out, hT0] at hn
          have hn' : n = -1 := hn.symm
          subst hn'
          rw [hT0] at hj
          have h1 := HA1.out
          have h2 := HB1.out
          rw [judR_neg (by decide)] at h1 h2
          rw [show lastN (([] : List Int).map (· + 1)) = -1 from rfl, judR_neg (by decide), h1, h2] at hj
          clear hn h1 h2 hT0
          go_wp2_with (go_at_call 4; go_must (refine hj.mono ?_; rintro e w11 ⟨rfl, b11⟩; have F11 := hidE (F10.out.step b11)))
          exact HQ.out _ F11.out.bel
        · have hT1 : traceL k way 0 RS ≠ [] := by rw [HT.out]; exact hT0
          obtain ⟨mm, hmm, hlast⟩ := lastN_lt hT1
          have hn := HN1.out
          rw [hlast] at hn
          subst hn
          rw [lastN_map hT0, ← HT.out, hlast, judR_cons, HA1.out, HB1.out] at hj
          have hm20 : mm < 20 := by have := HLR.out; omega
          have hee : (((mm : Int) + 1) == ((mm : Int) + 1)) = true := by simp
          have j0 : ¬ (mm : Int) < 0 := by omega
          have j1 : (mm : Int) ≥ 0 := by omega
          clear hlast hmm hT0 hT1
          go_wp2_with (go_at_call 4; go_must (refine hj.mono ?_; rintro e w11 ⟨rfl, b11⟩; have F11 := hidE (F10.out.step b11)))
          exact HQ.out _ F11.out.bel

      | true =>
        cases st with
        | false => exact absurd ⟨rfl, rfl⟩ hts
        | true =>
          go_upto_region 22 with fail
          clear haa hbb hpp hkk HO2 HR4 HMAP G7 F2 HG4
          obtain ⟨w8, hw8, r8, o8, b8⟩ := F7.out.rl.storeQ
          have hfz : w7.frozen? ⟨w.heap.size, 1, none⟩ = false := frozen_of_row w7 w.heap.size 1 _ _ F7.out.rl
          have bel8 : Below w.heap.size w w8 := F7.out.bel.trans b8
          have F8 : FitW w w8 { r with quick := true } k (.slice af nf cf) (.slice at' nt ct) := ⟨r8, (o8 (w.heap.size + 1) (by omega)).trans F7.out.ky, HPF.out.below bel8, HPT.out.below bel8, bel8⟩
          have HW8 := hidE hw8
          clear hw8 o8 b8 bel8 r8
          have HF8 := hidE F8
          clear F8
          go_upto_region 23 with fail
          rw [HW8.out]
          clear HW8 c0 c1 c2 hfz F7
          obtain ⟨d0, d1, d2, d3, d4, d5, d6, d7, d8, d9, d10⟩ := HF8.out.rl.cells
          simp only at d0 d1 d2 d3 d4 d5 d6 d7 d8 d9 d10
          have b9 : Below w8.heap.size w8 (w8.alloc (.cells #[.bool r.pass, .bool true, .bool r.keep, .int .i64 r.way, .int .i64 r.kind, .int .i64 r.sa, .int .i64 r.sl, .int .i64 r.da, .int .i64 r.dl, .slice af nf cf, .slice at' nt ct] 27)) := (Below.refl _ _).alloc (Nat.le_refl _) _
          have own9 : OwnRl (w8.alloc (.cells #[.bool r.pass, .bool true, .bool r.keep, .int .i64 r.way, .int .i64 r.kind, .int .i64 r.sa, .int .i64 r.sl, .int .i64 r.da, .int .i64 r.dl, .slice af nf cf, .slice at' nt ct] 27)) w8.heap.size (.slice (some ⟨w8.heap.size, 0, none⟩) 1 1) [({ r with quick := true }, .slice af nf cf, .slice at' nt ct)] := OwnRl.box (heap_alloc_new w8 _) (Nat.le_refl _)
          have hv9 := HV.out.below (HF8.out.bel.trans (b9.mono HF8.out.bel.size))
          have hln : [(({ r with quick := true } : Rl), Value.slice af nf cf, Value.slice at' nt ct)].length + rs.length ≤ 1000000 := by have := HNN.out; simp; omega
          have HB9 := hidE b9
          have hs9 := b9.size
          clear b9
          go_upto_region 25 with (at_builtin; go_must (refine wpList_append_rls rfl (.tmp 132) (.tmp 133) rfl w8.heap.size (.slice (some ⟨w8.heap.size, 0, none⟩) 1 1) [({ r with quick := true }, .slice af nf cf, .slice at' nt ct)] rfl own9 (.slice ao N co) rs rfl hv9 hln hs9 ?_; intro v10 w10 own10 gr10 lie10))
          have G10 : Below w8.heap.size w8 w10 := HB9.out.trans (grown_below gr10 hs9 (fun k hk => (own9.block k hk).1))
          clear gr10 lie10 hs9 hln hv9 own9 HB9 d0 d1 d2 d3 d4 d5 d6 d7 d8 d9 d10
          have F10 := hidE (HF8.out.step G10)
          clear G10 HF8
          have hr10 : Rls w10 v10 ([({ r with quick := true }, .slice af nf cf, .slice at' nt ct)] ++ rs) := own10.rls ((Pts.one (F10.out.rx HP.out.1 HP.out.2)).append ((HV.out.below F10.out.bel).pts))
          have hj := judge_any v10 _ k way w10 hr10
          have hmap : ([(({ r with quick := true } : Rl), Value.slice af nf cf, Value.slice at' nt ct)] ++ rs).map Prod.fst = { r with quick := true } :: RS := by rw [List.map_append, HRS.out]; rfl
          have hJ : judE ({ r with quick := true } :: RS) k way = 0 := by rw [judE_key (judE_0 HE.out).2]; exact rusE_ahead HE2.out
          rw [hmap, show judP ({ r with quick := true } :: RS) k way = (judR ({ r with quick := true } :: RS) (lastN (traceL k way 0 ({ r with quick := true } :: RS)))).pass by unfold judP; rw [if_pos hJ], show judK ({ r with quick := true } :: RS) k way = (judR ({ r with quick := true } :: RS) (lastN (traceL k way 0 ({ r with quick := true } :: RS)))).keep by unfold judK; rw [if_pos hJ], show judN ({ r with quick := true } :: RS) k way = lastN (traceL k way 0 ({ r with quick := true } :: RS)) by unfold judN; rw [if_pos hJ], hJ, show erV 0 = .nilIface from rfl] at hj
          obtain ⟨k0, k1, k2, k3, k4⟩ := F10.out.ky.cells
          clear own10 hr10 hmap hJ
          unfold keyV at hj
          rw [last_ahead (show fitsB { r with quick := true } k way = true from HTT.out) rfl, show judR ({ r with quick := true } :: RS) 0 = { r with quick := true } from rfl] at hj
          simp only at hj
          have hpp : (r.pass == r.pass) = true := by cases r.pass <;> rfl
          have hkk : (r.keep == r.keep) = true := by cases r.keep <;> rfl
          go_wp2_with (go_at_call 4; go_must (refine hj.mono ?_; rintro e w11 ⟨rfl, b11⟩; have F11 := hidE (F10.out.step b11); obtain ⟨d0, d1, d2, dr⟩ := F11.out.rl.cells; clear dr))
          exact HQ.out _ F11.out.bel

end Go.Proofs.Ytfhchbpgpaljhaa
