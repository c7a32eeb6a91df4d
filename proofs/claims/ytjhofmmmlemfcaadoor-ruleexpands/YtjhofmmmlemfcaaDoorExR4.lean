/- What the reference's Expand returns (package portref1) from its lines on: their braces in pairs, or 2. -/
import Derived.Test.YtjhofmmmlemfcaaDoorExR3
namespace Go.Proofs.YtjhofmmmlemfcaaDoor
open Go.RowKit
set_option linter.unusedVariables false
set_option maxRecDepth 10000

set_option maxRecDepth 100000 in
set_option maxHeartbeats 64000000 in
theorem re_t23 (t : List UInt8) (w0 W : World) (Q : Ending → World → Prop) (C : Code) (hC : C = exTail 23)
    (ht : t.length ≤ 2000) (hbl : Below w0.heap.size w0 W)
    (v0 v1 v2 v3 v4 v5 v6 v7 v9 v10 v11 v12 v13 v14 v15 v16 v17 v18 v19 v20 v21 v22 v23 v24 v25 v26 v27 v28 v29 v30 v31 v32 v33 v34 v35 v36 v37 v38 v39 v40 v41 v42 v43 v44 v45 v46 v47 v48 v49 v50 v51 v52 v53 v54 v55 v56 v57 v58 v59 v60 v61 v62 v63 v64 v65 v66 v67 v68 v69 v70 v71 v72 v73 v74 v75 v76 v77 v78 v79 v80 v81 v82 v83 v84 v85 v86 v87 v88 v89 v90 v91 v92 v93 v94 v95 v96 v97 v98 v99 v100 v101 v102 v103 v104 v105 v106 v107 v108 v109 v110 v111 v112 v113 v114 v115 v116 v117 v118 v119 v120 v121 v122 v123 v124 v125 v126 v127 v128 v129 v130 v131 v132 v133 v134 v135 v136 v137 v138 v139 v140 v141 v142 v143 v144 v145 v146 v147 v148 v149 v150 v151 v152 v153 v154 v155 v156 v157 v158 v159 v160 v161 v162 v163 v164 v165 v166 v167 v168 v169 v170 v171 v172 v173 v174 v175 v176 v177 v178 v179 v180 v181 v182 v183 v184 v185 v186 v187 v188 v189 v190 v191 v192 v193 v194 v195 v196 v197 v198 v199 v200 v201 v202 v203 v204 v205 v206 v207 v208 v209 v210 v211 v212 v213 v214 v215 v216 v217 v218 v219 v220 v221 v222 v223 v224 v225 v226 v227 v228 v229 v230 v231 v232 v233 v234 v235 v236 v237 v238 v239 v240 v241 v242 v243 v244 v245 v246 v247 v248 v249 v250 v251 v252 v253 v254 v255 v256 v257 v258 v259 v260 v261 v262 v263 v264 v265 v266 v267 v268 v269 v270 v271 v272 v273 : Value)
    (hQ : ∀ l E w', sprO t = (l, E) → Below w0.heap.size w0 w' → Q (.returned (.tuple #[.string (mkB l), .int .i64 E])) w') :
    Code.wp Tryd.prog C (bodyPost Tryd.prog Tryd.f7 Q) { tmps := #[v0, v1, v2, v3, v4, v5, v6, v7, .string (mkB t), v9, v10, v11, v12, v13, v14, v15, v16, v17, v18, v19, v20, v21, v22, v23, v24, v25, v26, v27, v28, v29, v30, v31, v32, v33, v34, v35, v36, v37, v38, v39, v40, v41, v42, v43, v44, v45, v46, v47, v48, v49, v50, v51, v52, v53, v54, v55, v56, v57, v58, v59, v60, v61, v62, v63, v64, v65, v66, v67, v68, v69, v70, v71, v72, v73, v74, v75, v76, v77, v78, v79, v80, v81, v82, v83, v84, v85, v86, v87, v88, v89, v90, v91, v92, v93, v94, v95, v96, v97, v98, v99, v100, v101, v102, v103, v104, v105, v106, v107, v108, v109, v110, v111, v112, v113, v114, v115, v116, v117, v118, v119, v120, v121, v122, v123, v124, v125, v126, v127, v128, v129, v130, v131, v132, v133, v134, v135, v136, v137, v138, v139, v140, v141, v142, v143, v144, v145, v146, v147, v148, v149, v150, v151, v152, v153, v154, v155, v156, v157, v158, v159, v160, v161, v162, v163, v164, v165, v166, v167, v168, v169, v170, v171, v172, v173, v174, v175, v176, v177, v178, v179, v180, v181, v182, v183, v184, v185, v186, v187, v188, v189, v190, v191, v192, v193, v194, v195, v196, v197, v198, v199, v200, v201, v202, v203, v204, v205, v206, v207, v208, v209, v210, v211, v212, v213, v214, v215, v216, v217, v218, v219, v220, v221, v222, v223, v224, v225, v226, v227, v228, v229, v230, v231, v232, v233, v234, v235, v236, v237, v238, v239, v240, v241, v242, v243, v244, v245, v246, v247, v248, v249, v250, v251, v252, v253, v254, v255, v256, v257, v258, v259, v260, v261, v262, v263, v264, v265, v266, v267, v268, v269, v270, v271, v272, v273], defers := [] } W := by
  have HQ := hidR hQ
  clear hQ
  subst hC
  conv =>
    arg 2
    unfold exTail
    unfold Tryd.f7
    simp only [Option.getD_some, exTailOf]
  have hct := fun w => cut_any (mkB t) 10 w (by rw [mkB_size]; omega)
  rw [mkB_toList] at hct
  rw [show ((10 : UInt8).toNat : Int) = 10 from rfl] at hct
  go_upto_region 24 with (go_at_call 9; go_must (refine (hct _).mono ?_; rintro e W1 ⟨lv, rfl, own1, b1⟩))
  have hcl : ∀ x ∈ cutL 10 t, x.length ≤ 2000 := fun x hx => by have := cut_len 10 t x hx; omega
  have hcc := cut_cnt 10 t
  have hne := cut_ne 10 t
  have HSP : Hid (((cutL 10 t).all (pairB false) = true → sprO t = refE (cutL 10 t) (flE ((lsE (cutL 10 t)).flatMap expL))) ∧ (¬ (cutL 10 t).all (pairB false) = true → sprO t = ([], 2))) := ⟨fun h => refE_is h, fun h => by unfold sprO; rw [if_neg h]⟩
  obtain ⟨ls, hls⟩ : ∃ ls, cutL 10 t = ls := ⟨_, rfl⟩
  rw [hls] at own1 hcl hcc hne HSP
  obtain ⟨ga, cl, hlv, hrow0⟩ := own1.rowT
  obtain ⟨g, hga, hg1, hg2⟩ := hrow0 (List.length_pos_iff.2 hne)
  subst hga
  have hrow : RowL W1 g ls := ⟨hg1, hg2⟩
  obtain ⟨NL, hN⟩ : ∃ n, ls.length = n := ⟨_, rfl⟩
  rw [hN] at hlv hcc
  have hN2 : NL ≤ 2001 := by omega
  subst hlv
  have HROW := hidO hrow
  have HBL := hidO (hbl.trans (b1.mono hbl.size))
  have HN := hidR hN
  have HLS := hidR (And.intro hcl hne)
  clear hls hct own1 b1 hcl hcc hne hrow hN hbl ht hrow0 hg1 hg2
  go_upto_region 25 with fail
  go_loopw [14, 15, 16, 17] (fun i _ _ _ w2 => ∃ k : Nat, k ≤ NL ∧ i = .int .i64 (k : Int) ∧ Hid (∀ x ∈ ls.take k, pairB false x = true) ∧ w2 = W1) (fun i _ _ _ _ => ((NL : Int) - intOf i).toNat)
  case atStart => exact ⟨0, by omega, rfl, by simp [Hid], rfl⟩
  case round =>
    obtain ⟨k, hk, rfl, HAL, hw⟩ := hrel
    subst hw
    by_cases hlt : k < NL
    · have hlt' : (k : Int) < (NL : Int) := by omega
      have hk0 : (0 : Int) ≤ (k : Int) := by omega
      have hkl : k < ls.length := by rw [HN.out]; exact hlt
      have c0 := HROW.out.2 k hkl
      have HMEM : Hid (ls[k] ∈ ls) := List.getElem_mem hkl
      have HKX : Hid (ls[k]? = some ls[k]) := List.getElem?_eq_getElem hkl
      have hxl := HLS.out.1 _ (List.getElem_mem hkl)
      generalize ls[k] = x0 at c0 hxl HMEM HKX
      have HG : Hid (∀ k (hk : k < (mkB x0).size), (mkB x0)[k] = x0.getD k 0) := mkB_get x0
      have hxz : (mkB x0).size = x0.length := mkB_size x0
      have HXZ := hidR hxz
      clear hkl hxz
      go_upto_region 29 with fail
      go_loopw [15, 16, 17] (fun ov i _ w3 => ∃ (j : Nat) (o : Bool), j ≤ x0.length ∧ i = .int .i64 (j : Int) ∧ ov = .bool o ∧ Hid (pairB o (x0.drop j) = pairB false x0) ∧ w3 = wr) (fun _ i _ _ => ((x0.length : Int) - intOf i).toNat)
      case atStart => exact ⟨0, false, by omega, rfl, rfl, rfl, rfl⟩
      case round =>
        obtain ⟨j, o, hj, rfl, rfl, HP, hw3⟩ := hrel
        subst hw3
        by_cases hlt : j < x0.length
        · have hjz : j < (mkB x0).size := by rw [mkB_size]; exact hlt
          have hjz' : (j : Int) < ((mkB x0).size : Int) := by omega
          have hj0 : (0 : Int) ≤ (j : Int) := by omega
          have hg := HG.out j hjz
          rw [List.getD_eq_getElem?_getD, List.getElem?_eq_getElem hlt, Option.getD_some] at hg
          by_cases h1 : x0[j] = 123
          · have e0 : (mkB x0)[j] = 123 := by rw [hg]; exact h1
            have e1 : (((mkB x0)[j].toNat : Int) == 123) = true := by rw [e0]; rfl
            have e2 : (((mkB x0)[j].toNat : Int) == 125) = false := by rw [e0]; rfl
            have hn := pairB_opn (o := o) hlt h1
            have hp := HP.out
            rw [hn] at hp
            clear hn hg h1 e0 HP
            rcases o with _ | _
            · as_aux_lemma =>
              have HP2 : Hid (pairB true (x0.drop (j + 1)) = pairB false x0) := by rw [← hp]; rfl
              clear hp
              go_wp2
              go_roundw
              case rel => exact ⟨j + 1, true, by omega, by go_num, rfl, HP2, by first | rfl | trivial⟩
              case measure => simp [intOf]; omega
            · as_aux_lemma =>
              have HP2 : Hid (false = pairB false x0) := by rw [← hp]; rfl
              clear hp
              have HB : Hid (false = pairB false x0) := HP2
              clear HP2
              have hna : ¬ ls.all (pairB false) = true := fun h => by
                have h2 := List.all_eq_true.1 h x0 HMEM.out
                rw [← HB.out] at h2; exact absurd h2 (by decide)
              have HQQ := hidO (HQ.out [] 2 wr (HSP.out.2 hna) HBL.out)
              clear hna HB
              go_wp2
              exact HQQ.out
          · have e1 : (((mkB x0)[j].toNat : Int) == 123) = false := by
              rw [beq_eq_false_iff_ne]; intro e; exact h1 (hg.symm.trans (UInt8.toNat_inj.1 (by show _ = (123 : UInt8).toNat; have : (123 : UInt8).toNat = 123 := rfl; omega)))
            by_cases h2 : x0[j] = 125
            · have e0 : (mkB x0)[j] = 125 := by rw [hg]; exact h2
              have e2 : (((mkB x0)[j].toNat : Int) == 125) = true := by rw [e0]; rfl
              have hn := pairB_cls (o := o) hlt h2
              have hp := HP.out
              rw [hn] at hp
              clear hn hg h1 h2 e0 HP
              rcases o with _ | _
              · as_aux_lemma =>
                have HP2 : Hid (false = pairB false x0) := by rw [← hp]; rfl
                clear hp
                have HB : Hid (false = pairB false x0) := HP2
                clear HP2
                have hna : ¬ ls.all (pairB false) = true := fun h => by
                  have h2 := List.all_eq_true.1 h x0 HMEM.out
                  rw [← HB.out] at h2; exact absurd h2 (by decide)
                have HQQ := hidO (HQ.out [] 2 wr (HSP.out.2 hna) HBL.out)
                clear hna HB
                go_wp2
                exact HQQ.out
              · as_aux_lemma =>
                have HP2 : Hid (pairB false (x0.drop (j + 1)) = pairB false x0) := by rw [← hp]; rfl
                clear hp
                go_wp2
                go_roundw
                case rel => exact ⟨j + 1, false, by omega, by go_num, rfl, HP2, by first | rfl | trivial⟩
                case measure => simp [intOf]; omega
            · as_aux_lemma =>
              have e2 : (((mkB x0)[j].toNat : Int) == 125) = false := by
                rw [beq_eq_false_iff_ne]; intro e; exact h2 (hg.symm.trans (UInt8.toNat_inj.1 (by show _ = (125 : UInt8).toNat; have : (125 : UInt8).toNat = 125 := rfl; omega)))
              have HP2 : Hid (pairB o (x0.drop (j + 1)) = pairB false x0) := by rw [← HP.out]; exact (pairB_next hlt h1 h2).symm
              clear hg h1 h2 HP
              go_wp2
              go_roundw
              case rel => exact ⟨j + 1, o, by omega, by go_num, rfl, HP2, by first | rfl | trivial⟩
              case measure => simp [intOf]; omega
        · have hlf : ¬ (j : Int) < ((mkB x0).size : Int) := by rw [mkB_size]; omega
          have hje : j = x0.length := by omega
          have hp := HP.out
          rw [hje, List.drop_length] at hp
          clear HP hlt
          rcases o with _ | _
          · as_aux_lemma =>
            have HP2 : Hid (true = pairB false x0) := by rw [← hp]; rfl
            clear hp hje
            go_wp2
            go_roundw
            case rel => exact ⟨k + 1, by omega, by go_num, fun y hy => by
              rw [List.take_add_one, HKX.out] at hy
              rcases List.mem_append.1 hy with h | h
              · exact HAL.out y h
              · have : y = x0 := by simpa using h
                rw [this]; exact HP2.out.symm, by first | rfl | trivial⟩
            case measure => simp [intOf]; omega
          · as_aux_lemma =>
            have HP2 : Hid (false = pairB false x0) := by rw [← hp]; rfl
            clear hp hje
            have HB : Hid (false = pairB false x0) := HP2
            clear HP2
            have hna : ¬ ls.all (pairB false) = true := fun h => by
              have h2 := List.all_eq_true.1 h x0 HMEM.out
              rw [← HB.out] at h2; exact absurd h2 (by decide)
            have HQQ := hidO (HQ.out [] 2 wr (HSP.out.2 hna) HBL.out)
            clear hna HB
            go_wp2
            exact HQQ.out
    · as_aux_lemma =>
      have hkn : k = NL := by omega
      have hlf : ¬ (k : Int) < (NL : Int) := by omega
      have HPA : Hid (∀ x ∈ ls, pairB false x = true) := fun x hx => HAL.out x (by rw [List.take_of_length_le (by rw [HN.out]; omega)]; exact hx)
      have HQ2 : Hid (∀ l E w', refE ls (flE ((lsE ls).flatMap expL)) = (l, E) → Below w0.heap.size w0 w' → Q (.returned (.tuple #[.string (mkB l), .int .i64 E])) w') := fun l E w' h hb => HQ.out l E w' (by rw [HSP.out.1 (List.all_eq_true.2 HPA.out)]; exact h) hb
      clear hlt hkn HAL
      repeat (first | (refine re_t40 ls g NL cl w0 _ Q _ (by kernel_rfl) HN.out HLS.out.2 hN2 HLS.out.1 HPA.out HROW.out HBL.out _ _ _ _ _ _ _ _ _ _ _ _ _ _ _ _ _ _ _ _ _ _ _ _ _ _ _ _ _ _ _ _ _ _ _ _ _ _ _ _ _ _ _ _ _ _ _ _ _ _ _ _ _ _ _ _ _ _ _ _ _ _ _ _ _ _ _ _ _ _ _ _ _ _ _ _ _ _ _ _ _ _ _ _ _ _ _ _ _ _ _ _ _ _ _ _ _ _ _ _ _ _ _ _ _ _ _ _ _ _ _ _ _ _ _ _ _ _ _ _ _ _ _ _ _ _ _ _ _ _ _ _ _ _ _ _ _ _ _ _ _ _ _ _ _ _ _ _ _ _ _ _ _ _ _ _ _ _ _ _ _ _ _ _ _ _ _ _ _ _ _ _ _ _ _ _ _ _ _ _ _ _ _ _ _ _ _ _ _ _ _ _ _ _ _ _ _ _ _ _ _ _ _ _ _ _ _ _ _ _ _ _ _ _ _ _ _ _ _ _ _ _ _ _ _ _ _ _ _ _ _ _ _ _ _ _ _ _ _ _ _ _ _ _ _ _ _ _ _ _ _ _ _ _ _ _ _ _ _ _ _ _ _ _ _ _ _ _ _ _ _ _ _ HQ2.out; done) | go_step)
end Go.Proofs.YtjhofmmmlemfcaaDoor
