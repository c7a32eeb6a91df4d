/- SyncHears, the last rounds: all that are due are heard (block 10). -/
import Derived.Test.YtkkefgoidjjehaaDoorSynH1
namespace Go.Proofs.YtkkefgoidjjehaaDoor
open Go.RowKit Go.Maps
set_option linter.unusedVariables false

theorem nextG_len : ∀ (f s : Nat) (W : List Nat), (nextG f s W).2.length ≤ W.length
  | 0, s, W => Nat.le_refl _
  | f + 1, s, W => by
    simp only [nextG]
    split
    · exact Nat.le_trans (nextG_len f _ _) (List.length_filter_le _ _)
    · exact Nat.le_refl _
theorem hearS_len (s : Nat) (W : List Nat) (j : Nat) : (hearS s W j).2.length ≤ W.length + 1 := by
  unfold hearS
  refine Nat.le_trans (nextG_len _ _ _) ?_
  unfold putW
  split
  · simp
  · omega
theorem take_rev {L : List Nat} {p : Nat} (hp : p < L.length) : (L.take (p + 1)).reverse = L[p] :: (L.take p).reverse := by
  rw [List.take_succ_eq_append_getElem hp, List.reverse_append]
  rfl
set_option maxRecDepth 100000 in
set_option maxHeartbeats 32000000 in
theorem hr_lastL (w W0 : World) (now h n s0 LN ca : Nat) (ao : Option Addr) (ds : Nat → Nat) (Wt0 : List Nat) (bt mt bh mh : Nat) (L : List Nat) (K : Act → World → Prop) (E : Exit → Act → World → Prop) (C : Code) (hC : C = hrBlk 10)
    (HO : Hid (HrO w bt mt bh mh)) (HS0 : Hid (HrS w now h n ds s0 Wt0 bt mt bh mh W0)) (HL : Hid (∀ W, Below w.heap.size w W → Lives W)) (HW0 : Hid (OwnNt W0 w.heap.size (.slice ao LN ca) (L.map nK))) (HN : Hid (L.length = LN)) (HJ : Hid (∀ j ∈ L, 1 ≤ j ∧ j ≤ n)) (hn : n ≤ 100) (HOK0 : Hid (HOk n s0 Wt0)) (hWt : Wt0.length ≤ 4000) (hLN : LN ≤ 1000)
    (v0 v1 v2 v3 v4 v5 v6 v7 v8 v9 v10 v11 v13 v14 v15 v16 v18 v19 v20 v21 v22 v23 v24 v25 v26 v27 v29 v31 v32 v33 v34 v35 v36 v37 v38 v39 v40 v41 v42 v43 v44 v45 v46 v47 v48 v49 v50 v51 v52 v53 v54 v55 v56 v57 v58 v59 v60 v61 v62 v63 v64 v65 v66 v67 v68 v69 v70 v71 v72 v73 v74 v75 v76 v77 v78 v79 v80 v81 v82 v83 v84 v85 v86 v87 v88 v89 v90 v91 v92 v93 v94 v95 v96 v97 v98 v99 v100 v101 v102 v103 v104 v105 v106 v107 v108 v109 v110 v111 v112 v113 v114 v115 v116 v117 v118 v119 v120 v121 v122 v123 v124 v125 v126 v127 v128 v129 v130 v131 v132 v133 v134 v135 v136 v137 v138 v139 v140 v141 v142 v143 v144 v145 v146 v147 v148 v149 v150 v151 v152 v153 v154 v155 v156 v157 v158 v159 v160 v161 v162 v163 v164 v165 v166 v167 v168 v169 v170 v171 v172 v173 v174 v175 v176 v177 v178 v179 v180 v181 v182 v183 v184 v185 v186 v187 v188 v189 v190 v191 v192 v193 v194 v195 v196 v197 v198 v199 v200 v201 v202 v203 v204 v205 v206 v207 v208 v209 v210 v211 v212 v213 v214 v215 v216 v217 v218 v219 v220 v221 v222 v223 v224 v225 v226 v227 v228 v229 v230 v231 v232 v233 v234 v235 v236 v237 v238 v239 v240 v241 v242 v243 v244 v245 v246 v247 v248 v249 v250 v251 v252 v253 v254 v255 v256 v257 v258 v259 : Value)
    (hK : ∀ (W9 : World) (u4 u30 u31 u32 u222 u223 u224 u225 u226 u227 u228 u229 u230 u231 u232 u233 u234 u235 u236 u237 u238 u239 u240 : Value), HrS w now h n ds (hearL L.reverse s0 Wt0).1 (hearL L.reverse s0 Wt0).2 bt mt bh mh W9 → (hearL L.reverse s0 Wt0).2.length ≤ Wt0.length + LN → K { tmps := #[v0, v1, v2, v3, u4, v5, v6, v7, v8, v9, v10, v11, .pointer (some ⟨bh, 0, none⟩), v13, v14, v15, v16, .int .i64 ((hearL L.reverse s0 Wt0).1 : Int), v18, v19, v20, v21, v22, v23, v24, v25, v26, v27, .slice ao LN ca, v29, u30, u31, u32, v33, v34, v35, v36, v37, v38, v39, v40, v41, v42, v43, v44, v45, v46, v47, v48, v49, v50, v51, v52, v53, v54, v55, v56, v57, v58, v59, v60, v61, v62, v63, v64, v65, v66, v67, v68, v69, v70, v71, v72, v73, v74, v75, v76, v77, v78, v79, v80, v81, v82, v83, v84, v85, v86, v87, v88, v89, v90, v91, v92, v93, v94, v95, v96, v97, v98, v99, v100, v101, v102, v103, v104, v105, v106, v107, v108, v109, v110, v111, v112, v113, v114, v115, v116, v117, v118, v119, v120, v121, v122, v123, v124, v125, v126, v127, v128, v129, v130, v131, v132, v133, v134, v135, v136, v137, v138, v139, v140, v141, v142, v143, v144, v145, v146, v147, v148, v149, v150, v151, v152, v153, v154, v155, v156, v157, v158, v159, v160, v161, v162, v163, v164, v165, v166, v167, v168, v169, v170, v171, v172, v173, v174, v175, v176, v177, v178, v179, v180, v181, v182, v183, v184, v185, v186, v187, v188, v189, v190, v191, v192, v193, v194, v195, v196, v197, v198, v199, v200, v201, v202, v203, v204, v205, v206, v207, v208, v209, v210, v211, v212, v213, v214, v215, v216, v217, v218, v219, v220, v221, u222, u223, u224, u225, u226, u227, u228, u229, u230, u231, u232, u233, u234, u235, u236, u237, u238, u239, u240, v241, v242, v243, v244, v245, v246, v247, v248, v249, v250, v251, v252, v253, v254, v255, v256, v257, v258, v259], defers := [] } W9) :
    Code.wp Tryd.prog C (Exit.then K E) { tmps := #[v0, v1, v2, v3, v4, v5, v6, v7, v8, v9, v10, v11, .pointer (some ⟨bh, 0, none⟩), v13, v14, v15, v16, .int .i64 (s0 : Int), v18, v19, v20, v21, v22, v23, v24, v25, v26, v27, .slice ao LN ca, v29, .int .i64 ((LN : Int) - 1), v31, v32, v33, v34, v35, v36, v37, v38, v39, v40, v41, v42, v43, v44, v45, v46, v47, v48, v49, v50, v51, v52, v53, v54, v55, v56, v57, v58, v59, v60, v61, v62, v63, v64, v65, v66, v67, v68, v69, v70, v71, v72, v73, v74, v75, v76, v77, v78, v79, v80, v81, v82, v83, v84, v85, v86, v87, v88, v89, v90, v91, v92, v93, v94, v95, v96, v97, v98, v99, v100, v101, v102, v103, v104, v105, v106, v107, v108, v109, v110, v111, v112, v113, v114, v115, v116, v117, v118, v119, v120, v121, v122, v123, v124, v125, v126, v127, v128, v129, v130, v131, v132, v133, v134, v135, v136, v137, v138, v139, v140, v141, v142, v143, v144, v145, v146, v147, v148, v149, v150, v151, v152, v153, v154, v155, v156, v157, v158, v159, v160, v161, v162, v163, v164, v165, v166, v167, v168, v169, v170, v171, v172, v173, v174, v175, v176, v177, v178, v179, v180, v181, v182, v183, v184, v185, v186, v187, v188, v189, v190, v191, v192, v193, v194, v195, v196, v197, v198, v199, v200, v201, v202, v203, v204, v205, v206, v207, v208, v209, v210, v211, v212, v213, v214, v215, v216, v217, v218, v219, v220, v221, v222, v223, v224, v225, v226, v227, v228, v229, v230, v231, v232, v233, v234, v235, v236, v237, v238, v239, v240, v241, v242, v243, v244, v245, v246, v247, v248, v249, v250, v251, v252, v253, v254, v255, v256, v257, v258, v259], defers := [] } W0 := by
  subst hC
  conv =>
    arg 2
    unfold hrBlk
    unfold Tryd.f4
    simp only [Option.getD_some, blkAt]
  conv =>
    arg 4
    zeta
  simp (maxSteps := 10000000) only at hK
  have HK := hidO hK
  clear hK
  obtain ⟨R, HR⟩ : ∃ R, Hid (hearL L.reverse s0 Wt0 = R) := ⟨_, rfl⟩
  have HK2 : Hid _ := HK.out
  rw [HR.out] at HK2
  clear HK
  go_wp2_with fail
  go_loopw [17, 30] (fun v17 v30 wr => ∃ (q s : Nat) (Wt : List Nat), v17 = .int .i64 (s : Int) ∧ v30 = .int .i64 ((q : Int) - 1) ∧ q ≤ LN ∧ Hid (hearL (L.take q).reverse s Wt = R) ∧ Hid (HOk n s Wt) ∧ Wt.length + q ≤ Wt0.length + LN ∧ Hid (HrS w now h n ds s Wt bt mt bh mh wr) ∧ Hid (OwnNt wr w.heap.size (.slice ao LN ca) (L.map nK))) (fun _ v30 _ => (intOf v30 + 1).toNat)
  case atStart => exact ⟨LN, s0, Wt0, rfl, rfl, Nat.le_refl _, by show _ = _; rw [List.take_of_length_le (by rw [HN.out]; exact Nat.le_refl _)]; exact HR.out, HOK0, Nat.le_refl _, HS0, HW0⟩
  case round =>
    clear HS0 HW0 HOK0
    obtain ⟨q, s, Wt, rfl, rfl, hq, HT, HOK, hWl, HS, HW⟩ := hrel
    by_cases hq0 : q = 0
    · subst hq0
      have i1 : ¬ (0 : Int) ≤ ((0 : Nat) : Int) - 1 := by omega
      have e : (s, Wt) = R := by have := HT.out; simpa [hearL] using this
      have HE := hidO e
      clear e
      go_wp2_with fail
      have HK3 := HK2.out
      rw [← HE.out] at HK3
      exact HK3 _ _ _ _ _ _ _ _ _ _ _ _ _ _ _ _ _ _ _ _ _ _ _ _ HS.out (by omega)
    · obtain ⟨p, rfl⟩ : ∃ p, q = p + 1 := ⟨q - 1, by omega⟩
      rw [show ((p + 1 : Nat) : Int) - 1 = (p : Int) by omega]
      have i1 : (0 : Int) ≤ (p : Int) := by omega
      have hpL : p < L.length := by rw [HN.out]; omega
      obtain ⟨j, hj⟩ : ∃ j, L[p] = j := ⟨_, rfl⟩
      have HJP : Hid (L[p]? = some j) := by show _ = _; rw [List.getElem?_eq_getElem hpL, hj]
      obtain ⟨hj1, hj2⟩ := HJ.out j (by rw [← hj]; exact List.getElem_mem _)
      have hT2 : hearL (L.take p).reverse (hearS s Wt j).1 (hearS s Wt j).2 = R := by
        have := HT.out
        rw [take_rev hpL, hj] at this
        exact this
      obtain ⟨g, c2, e2, hb2, hg2, hca, hcm⟩ := OwnN.shape HW.out (by rw [List.length_map]; omega)
      simp only [Value.slice.injEq] at e2
      obtain ⟨rfl, e3, rfl⟩ := e2
      clear e3
      rw [List.length_map, HN.out] at hca
      have HT2 := hidO hT2
      have hln := hearS_len s Wt j
      have HOK2 := hidO (hear_ok HOK.out hj2).1
      clear hT2 hq0 hj hpL hb2 hg2
      go_upto_block 11 with fail
      refine hr_last w wr now h n s p j LN ca g ds Wt bt mt bh mh L _ _ _ (by kernel_rfl) HO HS HL HW HN (by omega) HJP hj1 hj2 hn HOK (by omega) (by omega) hca hcm _ _ _ _ _ _ _ _ _ _ _ _ _ _ _ _ _ _ _ _ _ _ _ _ _ _ _ _ _ _ _ _ _ _ _ _ _ _ _ _ _ _ _ _ _ _ _ _ _ _ _ _ _ _ _ _ _ _ _ _ _ _ _ _ _ _ _ _ _ _ _ _ _ _ _ _ _ _ _ _ _ _ _ _ _ _ _ _ _ _ _ _ _ _ _ _ _ _ _ _ _ _ _ _ _ _ _ _ _ _ _ _ _ _ _ _ _ _ _ _ _ _ _ _ _ _ _ _ _ _ _ _ _ _ _ _ _ _ _ _ _ _ _ _ _ _ _ _ _ _ _ _ _ _ _ _ _ _ _ _ _ _ _ _ _ _ _ _ _ _ _ _ _ _ _ _ _ _ _ _ _ _ _ _ _ _ _ _ _ _ _ _ _ _ _ _ _ _ _ _ _ _ _ _ _ _ _ _ _ _ _ _ _ _ _ _ _ _ _ _ _ _ _ _ _ _ _ _ _ _ _ _ _ _ _ _ _ _ _ _ _ _ _ _ _ _ _ _ _ _ _ _ _ _ _ _ ?_
      intro W9 u31' u32' u226' u227' u228' u229' u230' u231' u232' u233' u234' u235' u236' u237' u238' u239' u240' h9 h10
      have H9 := hidO h9
      have H10 := hidO h10
      clear h9 h10 HS HW HOK HT HJP
      conv =>
        arg 1
        zeta
      try go_step
      obtain ⟨s2, hs2⟩ : ∃ s2, (hearS s Wt j).1 = s2 := ⟨_, rfl⟩
      obtain ⟨Wt2, hWt2⟩ : ∃ Wt2, (hearS s Wt j).2 = Wt2 := ⟨_, rfl⟩
      rw [hs2, hWt2] at HT2 HOK2 H9
      rw [hWt2] at hln
      rw [hs2]
      clear hs2 hWt2
      go_wp2_with fail
      go_roundw
      case rel => exact ⟨p, s2, Wt2, rfl, by simp, by omega, HT2, HOK2, by omega, H9, H10⟩
      case measure => simp only [intOf]; omega
end Go.Proofs.YtkkefgoidjjehaaDoor
