/- What is left of Add of the reference's pool as soon as a piece is kept: kept, or the last one of its packet. -/
import Derived.Test.YtgodjaffmojhlaaDoorRefPl8l
import Derived.Test.YtgodjaffmojhlaaDoorPoolAdd6
import Derived.Deep.RegionLaw
import Derived.Deep.RegionHeld3
import Derived.Deep.RegionHeldLaw
import Derived.Deep.CutBlock
namespace Go.Proofs.YtgodjaffmojhlaaDoor
open Go.RowKit
set_option linter.unusedVariables false

set_option maxRecDepth 100000 in
set_option maxHeartbeats 8000000 in
theorem radd_t28 (w0 : World) (F : Nat → Prop) (pb : Nat) (s : Po) (p : Pk) (a : Option Addr) (L c : Nat) (now : Int) (w : World) (Q : Ending → World → Prop) (he : pkErr p = 0) (hte : tickE s now = 0) (hnw : ¬ (p.pos = 0 ∧ p.more = false)) (hx : ¬ (getH (tickS s now).l (nmOf p) = none ∧ 8 ≤ (tickS s now).l.length)) (hF : ∀ k, F k → k < w.heap.size) (hnew : (∀ k, F k → w0.heap.size ≤ k) ∧ w0.heap.size ≤ w.heap.size) (hQ : ∀ e w', RAdds w0 F pb s p now w e w' → Q e w') (A : List Rh) (r : Rh) (B : List Rh) (g cap M m g2 n2 cap2 : Nat) (W7 : World) (C : Code) (hC : C = addTail 28) (his : r.h = orNew (getH (tickS s now).l (nmOf p)) (nmOf p) now) (hbd : r.h.bad = false) (hwr : wrongB r.h.all p = false) (hdel : delH (tickS s now).l r.h.name = A.map Rh.h ++ B.map Rh.h) (hnmd : r.h.name = nmOf p) (hm : A.length = m) (hM : M = A.length + (B.length + 1)) (hMc : M ≤ cap) (hcc : cap ≤ 9223372036854775807) (hM8 : M ≤ 8) (hn2 : n2 = (r.h.all ++ [p]).length) (hk : KeptSt w0 F pb (tickS s now) p (.slice a L c) w A r B (.slice (some ⟨g, 0, none⟩) M cap) (.slice (some ⟨g2, 0, none⟩) n2 cap2) W7)
    (v1 v2 v3 v5 v7 v8 v9 v11 v12 v13 v14 v15 v16 v17 v18 v19 v20 v21 v22 v23 v24 v25 v26 v27 v28 v29 v30 v31 v32 v33 v34 v35 v36 v37 v38 v39 v40 v41 v42 v43 v44 v45 v46 v47 v48 v49 v50 v51 v52 v53 v54 v55 v56 v57 v58 v59 v60 v61 v62 v63 v64 v65 v66 v67 v68 v69 v70 v71 v72 v73 v74 v75 v76 v77 v78 v79 v80 v81 v82 v83 v84 v85 v86 v87 v88 v89 v90 v91 v92 v93 v94 v95 v96 v97 v98 v99 v100 v101 v102 v103 v104 v105 v106 v107 v108 v109 v110 v111 v112 v113 v114 v115 v116 v117 v118 v119 v120 v121 v122 v123 v124 v125 v126 v127 v128 v129 v130 v131 v132 v133 v134 v135 v136 v137 v138 v139 v140 v141 v142 v143 v144 v145 v146 v147 v148 v149 v150 v151 v152 v153 v154 v155 v156 v157 v158 v159 v160 v161 v162 v163 v164 v165 v166 v167 v168 v169 v170 v171 v172 v173 v174 v175 v176 v177 v178 v179 v180 v181 v182 v183 v184 v185 v186 v187 v188 v189 v190 v191 v192 v193 v194 v195 v196 v197 v198 v199 v200 v201 v202 v203 v204 v205 v206 v207 v208 v209 v210 v211 v212 v213 v214 v215 v216 v217 v218 v219 v220 v221 v222 v223 v224 v225 v226 v227 v228 v229 v230 v231 v232 v233 v234 v235 v236 v237 v238 v239 v240 v241 v242 v243 v244 v245 v246 v247 v248 v249 v250 v251 v252 v253 : Value) :
    Code.wp Tryd.prog C (bodyPost Tryd.prog Tryd.f8 Q) { tmps := #[.pointer (some ⟨pb, 0, none⟩), v1, v2, v3, .pointer (some ⟨w.heap.size, 0, none⟩), v5, .pointer (some ⟨w.heap.size + 1, 0, none⟩), v7, v8, v9, .int .i64 (m : Int), v11, v12, v13, v14, v15, v16, v17, v18, v19, v20, v21, v22, v23, v24, v25, v26, v27, v28, v29, v30, v31, v32, v33, v34, v35, v36, v37, v38, v39, v40, v41, v42, v43, v44, v45, v46, v47, v48, v49, v50, v51, v52, v53, v54, v55, v56, v57, v58, v59, v60, v61, v62, v63, v64, v65, v66, v67, v68, v69, v70, v71, v72, v73, v74, v75, v76, v77, v78, v79, v80, v81, v82, v83, v84, v85, v86, v87, v88, v89, v90, v91, v92, v93, v94, v95, v96, v97, v98, v99, v100, v101, v102, v103, v104, v105, v106, v107, v108, v109, v110, v111, v112, v113, v114, v115, v116, v117, v118, v119, v120, v121, v122, v123, v124, v125, v126, v127, v128, v129, v130, v131, v132, v133, v134, v135, v136, v137, v138, v139, v140, v141, v142, v143, v144, v145, v146, v147, v148, v149, v150, v151, v152, v153, v154, v155, v156, v157, v158, v159, v160, v161, v162, v163, v164, v165, v166, v167, v168, v169, v170, v171, v172, v173, v174, v175, v176, v177, v178, v179, v180, v181, v182, v183, v184, v185, v186, v187, v188, v189, v190, v191, v192, v193, v194, v195, v196, v197, v198, v199, v200, v201, v202, v203, v204, v205, v206, v207, v208, v209, v210, v211, v212, v213, v214, v215, v216, v217, v218, v219, v220, v221, v222, v223, v224, v225, v226, v227, v228, v229, v230, v231, v232, v233, v234, v235, v236, v237, v238, v239, v240, v241, v242, v243, v244, v245, v246, v247, v248, v249, v250, v251, v252, v253], defers := [] } W7 := by
  have HE := hidR he
  have HTE := hidR hte
  have HNW := hidR hnw
  have HX4 := hidR hx
  have HF := hidR hF
  have HNEW := hidR hnew
  have HQ := hidR hQ
  clear he hte hnw hx hF hnew hQ
  have HIS := hidR his
  have HBDr := hidR hbd
  have HWRr := hidR hwr
  have HDEL := hidR hdel
  have HNMD := hidR hnmd
  have HM := hidR hm
  have HMM := hidR hM
  have HN2 := hidR hn2
  have HK := hidR hk
  have hmM : m < M := by omega
  have i3 : (0 : Int) ≤ (m : Int) := by omega
  have i4 : (m : Int) < (M : Int) := by omega
  clear his hbd hwr hdel hnmd hm hM hn2 hk
  subst hC
  conv =>
    arg 2
    unfold addTail
    unfold Tryd.f8
    simp only [Option.getD_some, tailOf]
  have HG := hidR HK.out.2.2.2.2
  obtain ⟨hg2, hn2c, hc2, hcells⟩ := HK.out.cells HBDr.out HN2.out
  have kA := HK.out.heap
  rw [HM.out] at kA
  obtain ⟨_, _, q7, _, _⟩ := HK.out.1.cells
  obtain ⟨_, y1, _, _, _, _, _, _⟩ := HK.out.2.2.1.cells
  have HPM := hidR (show p ∈ r.h.all ++ [p] from List.mem_append_right _ (List.mem_singleton.2 rfl))
  have HEA0 := hidR (fun h7 => addA_kept HE.out HTE.out HNW.out HX4.out HIS.out HBDr.out HWRr.out h7)
  have HEA1 := hidR (fun h7 => addA_done HE.out HTE.out HNW.out HX4.out HIS.out HBDr.out HWRr.out h7)
  have hbal := bounds_kept HG.out
  have HALL := hidR (show r.h.all ++ [p] = r.h.all ++ [p] from rfl)
  have HCC := hidR hcells
  clear hcells hbal
  generalize hall : r.h.all ++ [p] = all at HG HPM HEA0 HEA1 HALL HCC HN2
  have HALL2 := hidR hall
  clear hall HALL
  have hsW : w.heap.size + 2 ≤ W7.heap.size := by have := HK.out.2.2.2.1.lt; omega
  have HFI : Hid (¬ heldN all = finN all → ∀ w8 w9, Below W7.heap.size W7 w8 → Only (w.heap.size + 1) w8 w9 → Q (.returned (.tuple #[.agg #[.int .i64 0, .int .i64 0, .int .i64 0, .int .i64 0, .int .i64 0, .int .i64 0, .bool false, .slice none 0 0], .bool false, .int .i64 0])) w9) := by
    intro h7 w8 w9 b8 o9
    have ea := HEA0.out h7
    rw [← HALL2.out] at ea
    have hin8 := HK.out.1.below (fun k hk => Plus2.lt HF.out hsW hk) b8
    have b8s := b8.size
    refine HQ.out _ _ (radds_no (by rw [ea]) (by rw [ea]; exact RPool.moved ⟨_, _, hin8⟩ (fun q hq => by rcases hq with hq | hq; exact .inl hq; exact .inr ⟨by omega, by rw [o9.size]; omega⟩) (fun q hq => o9.block q (by rcases hq with hq | hq; have := HF.out q hq; omega; omega)) HNEW.out.1 HNEW.out.2 (o9.below (by have := HNEW.out.2; omega) hin8.bel)) ?_)
    exact (HK.out.2.1.trans (Turn.of_below b8 F)).andThen (Turn.of_only (F := fun q => q = w.heap.size + 1) o9 rfl) (fun i hi => .inr (by omega))
  have HN2' := HN2
  clear HN2 HEA0
  go_upto_block 2 with fail
  go_cut [14, 17, 18, 19] (fun v14 v17 v18 v19 ww => ∃ (n : Nat) (dn : Bool) (av2 : Option Addr) (cv2 : Nat), n ≤ 4000 ∧ v14 = .slice av2 n cv2 ∧ v17 = .bool dn ∧ Hid (OwnB ww W7.heap.size (.slice av2 n cv2) (wholeN all n)) ∧ Hid (Below W7.heap.size W7 ww) ∧ Hid (dn = false → ¬ heldN all = finN all) ∧ Hid (dn = true → heldN all = finN all ∧ finN all = n))
  case first =>
    go_wp2_with fail
    go_loopw [14, 17, 18, 19] (fun v14 v17 v18 v19 wr => ∃ (n : Nat) (dn mr : Bool), n ≤ 4000 ∧ v17 = .bool dn ∧ v18 = .bool mr ∧ OwnB wr W7.heap.size v14 (wholeN all n) ∧ Below W7.heap.size W7 wr ∧ Hid (ChainI all n dn mr)) (fun v14 _ v18 _ _ => 2 * (5000 - lenV v14) + moreN v18)
    case atStart => exact ⟨0, false, true, by omega, rfl, rfl, OwnB.nil _ _, Below.refl _ _, ChainI.zero _⟩
    case round =>
      obtain ⟨n, dn, mr, hn, rfl, rfl, hown, hb, HCH⟩ := hrel
      obtain ⟨av2, cv2, hv⟩ := len_body' (hown.bytes (by rw [wholeN_len]; omega)) (wholeN_len _ _)
      subst hv
      have hlo := hown
      by_cases hgo : mr = true ∧ dn = false
      · obtain ⟨rfl, rfl⟩ := hgo
        go_upto_region 36 with fail
        obtain ⟨wA, hwA⟩ : ∃ wA, wA = wr := ⟨_, rfl⟩
        subst hwA
        have HOW := hidR hown
        have HB := hidR hb
        clear hown hlo hb
        go_loopw [14, 17, 18, 19] (fun v14 v17 v18 v19 wi => ∃ k : Nat, k ≤ n2 ∧ v14 = .slice av2 n cv2 ∧ v17 = .bool false ∧ v18 = .bool false ∧ v19 = .int .i64 (k : Int) ∧ wi = wA ∧ Hid (∀ j (hj : j < all.length), j < k → loP all[j] ≠ n)) (fun _ _ _ v19 _ => ((n2 : Int) - intOf v19).toNat)
        case atStart => exact ⟨0, by omega, rfl, rfl, rfl, rfl, rfl, fun j hj h => by omega⟩
        case round =>
          obtain ⟨k, hk, rfl, rfl, rfl, rfl, hwi, HNK⟩ := hrel
          have hwi' := hwi.symm
          clear hwi
          subst hwi'
          by_cases hlt : k < n2
          · have i5 : (k : Int) < (n2 : Int) := by omega
            have i6 : (0 : Int) ≤ (k : Int) := by omega
            have hkl : k < all.length := by rw [← HN2'.out]; exact hlt
            obtain ⟨bk, ⟨_, _, _, _, _, k5, k6, k7⟩, hbk⟩ := HCC.out k hkl
            have k5' := (HB.out.cell (p := ⟨g2, k * 8 + 5, none⟩) hg2).trans k5
            have k6' := (HB.out.cell (p := ⟨g2, k * 8 + 6, none⟩) hg2).trans k6
            have k7' := (HB.out.cell (p := ⟨g2, k * 8 + 7, none⟩) hg2).trans k7
            have hxm : all[k] ∈ all := List.getElem_mem _
            have HNX := hidR (fun (h : loP all[k] ≠ n) (j : Nat) (hj : j < all.length) (hjk : j < k + 1) => (show loP all[j] ≠ n from by
              by_cases e : j = k
              · subst e; exact h
              · exact HNK.out j hj (by omega)))
            generalize all[k] = x at k5 k6 k7 k5' k6' k7' hbk hxm HNX
            have HXM := hidR hxm
            obtain ⟨o0, o1, _, o3⟩ := HG.out.one x hxm
            have hlo := loP_int o0
            have hhi : hiP x = loP x + x.body.length := rfl
            have hbA := hbk.below (Nat.le_refl _) HB.out
            have hpp : x.pos ≤ 500 := by omega
            obtain ⟨ax, cx, hvx⟩ := len_body hbA
            subst hvx
            obtain ⟨lx, hlx⟩ : ∃ lx, x.body.length = lx := ⟨_, rfl⟩
            have HLX := hidR hlx
            rw [hlx] at hbA k7' hhi o1
            by_cases hm : loP x = n
            · have e8 : 8 * x.pos = (n : Int) := by omega
              have hSTEP := hidR (HCH.out.step HG.out hxm hm)
              have HHI := hidR (show hiP x = n + lx by omega)
              have HWS := hidR (show wholeN all n ++ x.body = wholeN all (n + lx) from by
                have e := wholeN_step HG.out hxm
                rw [hm, HHI.out] at e; exact e)
              have hnl : n + lx ≤ 4000 := by omega
              have hll : (wholeN all n).length + x.body.length ≤ 140737488355328 := by rw [wholeN_len, hlx]; omega
              have hszA : W7.heap.size ≤ wA.heap.size := HB.out.size
              have b8 : (8 * x.pos == (n : Int)) = true := by rw [beq_iff_eq]; exact e8
              clear k5 k6 k7 hbk hxm HNX hlo hhi hlx hm HNK HFI HCC HCH
              generalize x.pos = P at k5' e8 b8 o0 hpp
              have hown := HOW.out
              go_upto_region 40 with (at_builtin; go_must (refine wpList_append_bytes rfl (.tmp 193) (.tmp 198) rfl W7.heap.size (.slice av2 n cv2) (wholeN all n) rfl hown (.slice ax lx cx) x.body rfl hbA hll hszA ?_; intro v4 w4 own4 grow4))
              have bel4 := HB.out.grown grow4 hszA (fun y hy => (hown.1.lt y hy).1)
              have k64 := (bel4.cell (p := ⟨g2, k * 8 + 6, none⟩) hg2).trans ((HB.out.cell (p := ⟨g2, k * 8 + 6, none⟩) hg2).symm.trans k6')
              have own5 : OwnB w4 W7.heap.size v4 (wholeN all (n + lx)) := by rw [← HWS.out]; exact own4
              have HOW5 := hidR own5
              have HB5 := hidR bel4
              obtain ⟨a4, c4, hv4⟩ := len_body' (own5.bytes (by rw [wholeN_len]; omega)) (wholeN_len _ _)
              subst hv4
              have hlx0 : 0 < lx := o1
              clear own4 own5 bel4 grow4 hown hbA k5' k6' k7' hll hszA HOW e8 b8
              generalize x.more = M9 at k64 hSTEP
              go_wp2_with fail
              go_roundw
              case rel => exact ⟨n + lx, !M9, true, hnl, rfl, rfl, HOW5.out, HB5.out, by have := hSTEP.out; rw [HHI.out] at this; exact this⟩
              case measure => simp only [lenV, moreN]; omega
            · have e8 : ¬ 8 * x.pos = (n : Int) := by omega
              have b8 : (8 * x.pos == (n : Int)) = false := by rw [beq_eq_false_iff_ne]; exact e8
              have HNX2 := hidR (HNX.out hm)
              clear k5 k6 k7 hbk hxm HNX hlo hhi hlx hm HNK HFI HCC HCH hbA k6' k7'
              generalize x.pos = P at k5' e8 b8 o0 hpp
              go_wp2_with fail
              go_roundw
              case rel => exact ⟨k + 1, by omega, rfl, rfl, rfl, by go_num, by first | rfl | trivial, HNX2.out⟩
              case measure => simp [intOf]; omega
          · have i5 : ¬ (k : Int) < (n2 : Int) := by omega
            have HST2 := hidR (HCH.out.stop (fun x hx => by
              obtain ⟨j, hj, rfl⟩ := List.getElem_of_mem hx
              exact HNK.out j hj (by have := HN2'.out; omega)))
            clear HFI HCC HCH HNK
            go_wp2_with fail
            go_roundw
            case rel => exact ⟨n, false, false, hn, rfl, rfl, HOW.out, HB.out, HST2.out⟩
            case measure => simp only [lenV, moreN]; omega
      · have HOW := hidR hown
        have HB := hidR hb
        have hne : all ≠ [] := List.ne_nil_of_mem HPM.out
        rcases mr with _ | _
        · have hdn : dn = false := by
            rcases dn with _ | _
            · rfl
            · have := HCH.out.more rfl; cases this
          subst hdn
          have HX1 := hidR (chain_no HG.out hne (HCH.out.edge rfl) (HCH.out.none_ rfl))
          clear hgo hne HFI HCC HCH hown hlo hb
          go_wp2_with fail
          go_meet
          case rel => exact ⟨n, false, av2, cv2, hn, rfl, rfl, HOW.out, HB.out, fun _ => HX1.out, fun h => (by cases h)⟩
        · have hdn : dn = true := by
            rcases dn with _ | _
            · exact absurd ⟨rfl, rfl⟩ hgo
            · rfl
          subst hdn
          have HX1 := hidR (HCH.out.done rfl)
          clear hgo hne HFI HCC HCH hown hlo hb
          go_wp2_with fail
          go_meet
          case rel => exact ⟨n, true, av2, cv2, hn, rfl, rfl, HOW.out, HB.out, fun h => (by cases h), fun _ => HX1.out⟩
  case rest =>
    obtain ⟨n, dn, av2, cv2, hn, hv14, hv17, HOWc, HBc, HK0, HK1⟩ := hcut
    subst hv14 hv17
    obtain ⟨wr, hwr0⟩ : ∃ wr, wr = wc := ⟨_, rfl⟩
    subst hwr0
    have hown := HOWc.out
    have hb := HBc.out
    have hlo := hown
    clear HOWc HBc
    rcases dn with _ | _
    · have HFI2 := hidR (HFI.out (HK0.out rfl))
      have HB := hidR hb
      have HPZ := hidR (HK.out.2.2.2.1.below (by omega) hb)
      obtain ⟨z0, z1, z2, z3, z4, z5, z6, z7⟩ := HPZ.out.cells
      have f0 := HPZ.out.free 0
      have f1 := HPZ.out.free 1
      have f2 := HPZ.out.free 2
      have f3 := HPZ.out.free 3
      have f4 := HPZ.out.free 4
      have f5 := HPZ.out.free 5
      have f6 := HPZ.out.free 6
      have f7 := HPZ.out.free 7
      clear HFI HCC hown hlo hb
      go_wp2_with fail
      obtain ⟨w9, hw9, hp9, o9⟩ := HPZ.out.store 0 0 0 0 0 0 false (.slice none 0 0)
      rw [hw9]
      obtain ⟨r0, r1, r2, r3, r4, r5, r6, r7⟩ := hp9.cells
      simp only at r0 r1 r2 r3 r4 r5 r6 r7
      exact bodyPost_ret (v := .tuple #[.agg #[.int .i64 0, .int .i64 0, .int .i64 0, .int .i64 0, .int .i64 0, .int .i64 0, .bool false, .slice none 0 0], .bool false, .int .i64 0]) (by simp [results, Tryd.results8, go_sem, r0, r1, r2, r3, r4, r5, r6, r7]) rfl (HFI2.out wr w9 HB.out o9)
    · obtain ⟨d1, d2⟩ := HK1.out rfl
      obtain ⟨wD, hwD⟩ : ∃ wD, wD = wr := ⟨_, rfl⟩
      subst hwD
      have HD1 := hidR d1
      have HD2 := hidR d2
      have HOW := hidR hown
      have HB := hidR hb
      clear hown hlo hb HFI d1 d2
      go_upto_region 45 with fail
      go_loopw [16, 20] (fun v16 v20 wi => ∃ k : Nat, k ≤ n2 ∧ v16 = .int .i64 (ttlF p.ttl (all.take k)) ∧ v20 = .int .i64 (k : Int) ∧ wi = wD) (fun _ v20 _ => ((n2 : Int) - intOf v20).toNat)
      case atStart => exact ⟨0, by omega, by rw [List.take_zero]; rfl, rfl, rfl⟩
      case round =>
        obtain ⟨k, hk, rfl, rfl, hwi⟩ := hrel
        have hwi' := hwi.symm
        clear hwi
        subst hwi'
        by_cases hlt : k < n2
        · have i5 : (k : Int) < (n2 : Int) := by omega
          have i6 : (0 : Int) ≤ (k : Int) := by omega
          have hkl : k < all.length := by rw [← HN2'.out]; exact hlt
          obtain ⟨bk, ⟨_, k1, _, _, _, _, _, _⟩, _⟩ := HCC.out k hkl
          have k1' := (HB.out.cell (p := ⟨g2, k * 8 + 1, none⟩) hg2).trans k1
          have HTK := hidR (show ttlF p.ttl (all.take (k + 1)) = if all[k].ttl < ttlF p.ttl (all.take k) then all[k].ttl else ttlF p.ttl (all.take k) from by rw [List.take_succ_eq_append_getElem hkl, ttlF_snoc])
          clear k1
          generalize all[k].ttl = T1 at k1' HTK
          generalize ttlF p.ttl (all.take k) = T2 at HTK ⊢
          clear HCC
          by_cases hc : T1 < T2
          · have HR := hidR (show ttlF p.ttl (all.take (k + 1)) = T1 by rw [HTK.out, if_pos hc])
            clear HTK
            go_wp2_with fail
            go_roundw
            case rel => exact ⟨k + 1, by omega, by rw [HR.out], by go_num, by first | rfl | trivial⟩
            case measure => simp [intOf]; omega
          · have HR := hidR (show ttlF p.ttl (all.take (k + 1)) = T2 by rw [HTK.out, if_neg hc])
            clear HTK
            go_wp2_with fail
            go_roundw
            case rel => exact ⟨k + 1, by omega, by rw [HR.out], by go_num, by first | rfl | trivial⟩
            case measure => simp [intOf]; omega
        · have i5 : ¬ (k : Int) < (n2 : Int) := by omega
          have eT : ttlF p.ttl (all.take k) = ttlM all := by rw [List.take_of_length_le (by have := HN2'.out; omega)]; exact ttlF_any HPM.out
          rw [eT]
          obtain ⟨T, hT⟩ : ∃ T, ttlM all = T := ⟨_, rfl⟩
          have HTT := hidR hT
          rw [hT]
          have hsD : W7.heap.size ≤ wD.heap.size := HB.out.size
          have hinD : RpIn w0 wD (Plus2 F w wD) pb _ _ _ := (HK.out.1.below (fun k hk => Plus2.lt HF.out hsW hk) HB.out).mono (fun k hk => Plus2.mono hsD hk) (fun k hk => Plus2.ge HNEW.out.1 HNEW.out.2 hk)
          have q2D := hinD.cells.2.2.1
          have zD := hinD.cells.2.2.2.2
          have hplD : pb < wD.heap.size := hinD.lt
          have hS1 : Hps wD (.slice (some ⟨g, 0, none⟩) m cap) A := by have := Hps.head hinD.row (by simp; omega) rfl; rw [HM.out] at this; exact this
          have hslA : ∀ q ∈ A, SlV q.fv ∧ SlV q.av := fun q hq => hinD.slv q (List.mem_append_left _ hq)
          have hslB : ∀ q ∈ B, SlV q.fv ∧ SlV q.av := fun q hq => hinD.slv q (List.mem_append_right _ (List.mem_cons_of_mem _ hq))
          have hlA : ([] : List Rh).length + A.length ≤ 100000 := by have := HM.out; simp only [List.length_nil]; omega
          have hlAB : A.length + B.length ≤ 100000 := by have := HM.out; have := HMM.out; omega
          obtain ⟨m1, hm1⟩ : ∃ m1, m + 1 = m1 := ⟨_, rfl⟩
          have HM1 := hidR hm1
          have tm : (m : Int) + 1 = (m1 : Int) := by omega
          have tl2 : (m : Int) ≤ (cap : Int) := by omega
          have tl3 : (0 : Int) ≤ (m1 : Int) := by omega
          have tl4 : (m1 : Int) ≤ (M : Int) := by omega
          have HIND := hidR hinD
          clear hinD hm1 eT hT HCC hlt hk kA q7 y1
          go_upto_region 51 with (at_builtin; go_must (refine wpList_append_hps rfl (.tmp 227) (.tmp 233) rfl wD.heap.size (.slice none 0 0) [] rfl (OwnH.nil _ _) (.slice (some ⟨g, 0, none⟩) m cap) A rfl hS1 hslA hlA (Nat.le_refl _) ?_; intro v5 w5 own5 grow5 n5))
          rw [List.nil_append] at own5
          have B5 : Below wD.heap.size wD w5 := (Below.refl _ _).grown grow5 (Nat.le_refl _) (fun y hy => by cases hy)
          have q25 := (B5.cell (p := ⟨pb, 2, none⟩) hplD).trans q2D
          have z25 : w5.frozen? ⟨pb, 2, none⟩ = false := by rw [World.frozen?_of_block (w := wD) (B5.block pb hplD)]; exact zD
          have hsz5 : wD.heap.size ≤ w5.heap.size := B5.size
          have HB5 := hidR B5
          have HO5 := hidR (fun y hy => (own5.block y hy).1)
          have HFD : Hid (∀ v8 w7, OwnH w7 wD.heap.size v8 (A ++ B) → Below wD.heap.size wD w7 → PkAt (w7.setCell ⟨pb, 2, none⟩ v8) w.heap.size p (.slice a L c) ∧ PkAt (w7.setCell ⟨pb, 2, none⟩ v8) (w.heap.size + 1) zeroK (.slice none 0 0) ∧ ∀ w9 w10, Only w.heap.size (w7.setCell ⟨pb, 2, none⟩ v8) w9 → Only (w.heap.size + 1) w9 w10 → Q (.returned (.tuple #[.agg #[.int .i64 p.kind, .int .i64 T, .int .i64 p.ident, .int .i64 p.src, .int .i64 p.dst, .int .i64 0, .bool false, .slice av2 n cv2], .bool true, .int .i64 0])) w10) := by
            intro v8 w7 own8 B8
            have hw2D : w.heap.size + 2 ≤ wD.heap.size := by omega
            obtain ⟨hc1, hc2⟩ := HIND.out.cut own8 B8 hw2D HF.out HNEW.out.1 HNEW.out.2
            have nx : ¬ Plus2 F w wD w.heap.size := fun hx => by
              rcases hx with hx | hx
              · have := HF.out _ hx; omega
              · omega
            have nz : ¬ Plus2 F w wD (w.heap.size + 1) := fun hx => by
              rcases hx with hx | hx
              · have := HF.out _ hx; omega
              · omega
            refine ⟨(HK.out.2.2.1.below (by omega) HB.out).turn hc2 nx, (HK.out.2.2.2.1.below (by omega) HB.out).turn hc2 nz, fun w9 w10 o9 o10 => ?_⟩
            have ea := HEA1.out HD1.out
            have szs : (w7.setCell ⟨pb, 2, none⟩ v8).heap.size = w7.heap.size := by simp [World.setCell]
            have npx : pb ≠ w.heap.size := fun e => nx (e ▸ HIND.out.fpb)
            have npz : pb ≠ w.heap.size + 1 := fun e => nz (e ▸ HIND.out.fpb)
            have hbl9 := o9.below HNEW.out.2 hc1.bel
            have hbl10 := o10.below (by have := HNEW.out.2; omega) hbl9
            have hB8s := B8.size
            refine HQ.out _ _ ⟨.slice av2 n cv2, ?_, ?_, ?_, ?_, fun b off len cap e hl => .inr (by have := (HOW.out.1.lt b (by rw [e]; rfl)).1; omega)⟩
            · rw [ea]
              unfold pkV madeP
              simp only [HTT.out]
            · rw [ea]
              show Bytes w10 (.slice av2 n cv2) (wholeN all (finN all))
              rw [HD2.out]
              refine OwnB.bytes (base := W7.heap.size) (HOW.out.blk (fun y hy => ?_)) (by rw [wholeN_len]; omega)
              have hy1 := HOW.out.1.lt y hy
              rw [o10.block y (by omega), o9.block y (by omega), heap_setCell_other w7 ⟨pb, 2, none⟩ y v8 (fun e => by have e' : y = pb := e; have := HK.out.1.lt; omega), B8.block y hy1.2]
            · rw [ea]
              have eL : ({ life := (tickS s now).life, now := (tickS s now).now, l := delH (tickS s now).l (nmOf p) } : Po) = { life := (tickS s now).life, now := (tickS s now).now, l := (A ++ B).map Rh.h } := by rw [← HNMD.out, HDEL.out, List.map_append]
              show RPool w0 w10 (Plus F w w10) pb { life := (tickS s now).life, now := (tickS s now).now, l := delH (tickS s now).l (nmOf p) }
              rw [eL]
              exact RPool.moved ⟨_, _, hc1⟩ (fun q hq => by rcases hq with hq | hq; exact .inl hq; exact .inr ⟨by omega, by rw [o10.size, o9.size, szs]; exact hq.2⟩) (fun q hq => by rw [o10.block q (by rcases hq with hq | hq; have := HF.out q hq; omega; omega), o9.block q (by rcases hq with hq | hq; have := HF.out q hq; omega; omega)]) HNEW.out.1 HNEW.out.2 hbl10
            · exact (((HK.out.2.1.trans (Turn.of_below HB.out F)).andThen hc2 (fun i hi => by rcases hi with hi | hi; exact .inl hi; exact .inr (by omega))).andThen (Turn.of_only (F := fun q => q = w.heap.size) o9 rfl) (fun i hi => .inr (by omega))).andThen (Turn.of_only (F := fun q => q = w.heap.size + 1) o10 rfl) (fun i hi => .inr (by omega))
          have hrow5 := HIND.out.row.below B5
          have HML := hidR (show (A ++ moreR r p (.slice (some ⟨g2, 0, none⟩) n2 cap2) (.slice a L c) :: B).length = M by have := HM.out; have := HMM.out; simp; omega)
          by_cases hmn : m1 < M
          · have hS2 : Hps w5 (.slice (some ⟨g, m1 * 11, none⟩) (M - m1) (cap - m1)) B := by
              have h1 := Hps.tail (c := cap - m1) hrow5 (by rw [HML.out]; omega) rfl (by have := HM.out; have := HMM.out; have := HM1.out; omega) (by unfold maxLen; omega)
              rw [HM.out, HM1.out, show B.length = M - m1 by have := HM.out; have := HMM.out; have := HM1.out; omega] at h1
              exact h1
            clear hrow5 HML HK HOW HEA1 HDEL HIND B5 q2D zD hS1 hslA grow5 n5
            go_upto_region 52 with (at_builtin; go_must (refine wpList_append_hps rfl (.tmp 236) (.tmp 243) rfl wD.heap.size v5 A rfl own5 _ B rfl hS2 hslB hlAB hsz5 ?_; intro v7 w7 own7 grow7 n7; obtain ⟨a7, c7, hv7⟩ := own7.len; generalize (A ++ B).length = M7 at hv7; subst hv7; have B7 := HB5.out.grown grow7 hsz5 HO5.out; have q27 := (B7.cell (p := ⟨pb, 2, none⟩) hplD).trans ((HB5.out.cell (p := ⟨pb, 2, none⟩) hplD).symm.trans q25); have z27 : w7.frozen? ⟨pb, 2, none⟩ = false := by (rw [World.frozen?_of_block (w := wD) (B7.block pb hplD), ← World.frozen?_of_block (w := wD) (w' := w5) (HB5.out.block pb hplD)]; exact z25)))
            all_goals
              have hfd := HFD.out _ _ own7 B7
              obtain ⟨W8, hW8⟩ : ∃ W8, w7.setCell ⟨pb, 2, none⟩ (.slice a7 M7 c7) = W8 := ⟨_, rfl⟩
              rw [hW8] at hfd ⊢
              obtain ⟨hX8, hZ8, hfin⟩ := hfd
              have HFN := hidR hfin
              have HX8 := hidR hX8
              have HZ8 := hidR hZ8
              obtain ⟨y0, y1, y2, y3, y4, y5, y6, y7⟩ := hX8.cells
              have e1 := hX8.free 1
              have e5 := hX8.free 5
              have e6 := hX8.free 6
              have e7 := hX8.free 7
              clear hfin HFD own7 grow7 n7 B7 q27 z27 q25 z25 own5 hslB hX8 hZ8 hW8 HB5 HO5 hS2
              go_upto_region 56 with fail
              obtain ⟨w9, hw9, hp9, o9⟩ := HX8.out.made T (.slice av2 n cv2)
              rw [hw9]
              obtain ⟨r0, r1, r2, r3, r4, r5, r6, r7⟩ := hp9.cells
              simp only at r0 r1 r2 r3 r4 r5 r6 r7
              have hZ9 := HZ8.out.only (by omega) o9
              have HZ9 := hidR hZ9
              have HFN9 := hidR (fun w10 h => HFN.out w9 w10 o9 h)
              obtain ⟨z0, z1, z2, z3, z4, z5, z6, z7⟩ := hZ9.cells
              have f0 := hZ9.free 0
              have f1 := hZ9.free 1
              have f2 := hZ9.free 2
              have f3 := hZ9.free 3
              have f4 := hZ9.free 4
              have f5 := hZ9.free 5
              have f6 := hZ9.free 6
              have f7 := hZ9.free 7
              clear y0 y1 y2 y3 y4 y5 y6 y7 e1 e5 e6 e7 hp9 hw9 o9 hZ9 HFN HX8 HZ8
              go_wp2_with fail
              all_goals
                obtain ⟨wZ, hwZ, hpZ, oZ⟩ := HZ9.out.store p.kind T p.ident p.src p.dst 0 false (.slice av2 n cv2)
                rw [hwZ]
                obtain ⟨r0, r1, r2, r3, r4, r5, r6, r7⟩ := hpZ.cells
                simp only at r0 r1 r2 r3 r4 r5 r6 r7
                exact bodyPost_ret (v := .tuple #[.agg #[.int .i64 p.kind, .int .i64 T, .int .i64 p.ident, .int .i64 p.src, .int .i64 p.dst, .int .i64 0, .bool false, .slice av2 n cv2], .bool true, .int .i64 0]) (by simp [results, Tryd.results8, go_sem, r0, r1, r2, r3, r4, r5, r6, r7]) rfl (HFN9.out wZ oZ)
          · have hS2 : ∀ a c, Hps w5 (.slice a 0 c) B := fun a c => .inl ⟨List.eq_nil_of_length_eq_zero (by have := HM.out; have := HMM.out; have := HM1.out; omega), a, c, rfl⟩
            have hMm : M ≤ m1 := by omega
            clear hmn
            clear hrow5 HML HK HOW HEA1 HDEL HIND B5 q2D zD hS1 hslA grow5 n5
            go_upto_region 52 with (at_builtin; go_must (refine wpList_append_hps rfl (.tmp 236) (.tmp 243) rfl wD.heap.size v5 A rfl own5 _ B rfl (hS2 _ _) hslB hlAB hsz5 ?_; intro v7 w7 own7 grow7 n7; obtain ⟨a7, c7, hv7⟩ := own7.len; generalize (A ++ B).length = M7 at hv7; subst hv7; have B7 := HB5.out.grown grow7 hsz5 HO5.out; have q27 := (B7.cell (p := ⟨pb, 2, none⟩) hplD).trans ((HB5.out.cell (p := ⟨pb, 2, none⟩) hplD).symm.trans q25); have z27 : w7.frozen? ⟨pb, 2, none⟩ = false := by (rw [World.frozen?_of_block (w := wD) (B7.block pb hplD), ← World.frozen?_of_block (w := wD) (w' := w5) (HB5.out.block pb hplD)]; exact z25)))
            all_goals
              have hfd := HFD.out _ _ own7 B7
              obtain ⟨W8, hW8⟩ : ∃ W8, w7.setCell ⟨pb, 2, none⟩ (.slice a7 M7 c7) = W8 := ⟨_, rfl⟩
              rw [hW8] at hfd ⊢
              obtain ⟨hX8, hZ8, hfin⟩ := hfd
              have HFN := hidR hfin
              have HX8 := hidR hX8
              have HZ8 := hidR hZ8
              obtain ⟨y0, y1, y2, y3, y4, y5, y6, y7⟩ := hX8.cells
              have e1 := hX8.free 1
              have e5 := hX8.free 5
              have e6 := hX8.free 6
              have e7 := hX8.free 7
              clear hfin HFD own7 grow7 n7 B7 q27 z27 q25 z25 own5 hslB hX8 hZ8 hW8 HB5 HO5 hS2
              go_upto_region 56 with fail
              obtain ⟨w9, hw9, hp9, o9⟩ := HX8.out.made T (.slice av2 n cv2)
              rw [hw9]
              obtain ⟨r0, r1, r2, r3, r4, r5, r6, r7⟩ := hp9.cells
              simp only at r0 r1 r2 r3 r4 r5 r6 r7
              have hZ9 := HZ8.out.only (by omega) o9
              have HZ9 := hidR hZ9
              have HFN9 := hidR (fun w10 h => HFN.out w9 w10 o9 h)
              obtain ⟨z0, z1, z2, z3, z4, z5, z6, z7⟩ := hZ9.cells
              have f0 := hZ9.free 0
              have f1 := hZ9.free 1
              have f2 := hZ9.free 2
              have f3 := hZ9.free 3
              have f4 := hZ9.free 4
              have f5 := hZ9.free 5
              have f6 := hZ9.free 6
              have f7 := hZ9.free 7
              clear y0 y1 y2 y3 y4 y5 y6 y7 e1 e5 e6 e7 hp9 hw9 o9 hZ9 HFN HX8 HZ8
              go_wp2_with fail
              all_goals
                obtain ⟨wZ, hwZ, hpZ, oZ⟩ := HZ9.out.store p.kind T p.ident p.src p.dst 0 false (.slice av2 n cv2)
                rw [hwZ]
                obtain ⟨r0, r1, r2, r3, r4, r5, r6, r7⟩ := hpZ.cells
                simp only at r0 r1 r2 r3 r4 r5 r6 r7
                exact bodyPost_ret (v := .tuple #[.agg #[.int .i64 p.kind, .int .i64 T, .int .i64 p.ident, .int .i64 p.src, .int .i64 p.dst, .int .i64 0, .bool false, .slice av2 n cv2], .bool true, .int .i64 0]) (by simp [results, Tryd.results8, go_sem, r0, r1, r2, r3, r4, r5, r6, r7]) rfl (HFN9.out wZ oZ)
end Go.Proofs.YtgodjaffmojhlaaDoor
