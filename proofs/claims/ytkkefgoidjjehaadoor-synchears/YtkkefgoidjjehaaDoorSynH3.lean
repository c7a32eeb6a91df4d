/- SyncHears: one of the last rounds (block 9). -/
import Derived.Test.YtkkefgoidjjehaaDoorSynH2
namespace Go.Proofs.YtkkefgoidjjehaaDoor
open Go.RowKit Go.Maps
set_option linter.unusedVariables false

set_option maxRecDepth 100000 in
set_option maxHeartbeats 32000000 in
theorem hr_round9 (w W0 : World) (t0 h n s i : Nat) (ds : Nat → Nat) (Wt : List Nat) (bt mt bh mh : Nat) (K : Act → World → Prop) (E : Exit → Act → World → Prop) (C : Code) (hC : C = hrBlk 9)
    (HO : Hid (HrO w bt mt bh mh)) (HS : Hid (HrS w t0 h n ds s Wt bt mt bh mh W0)) (HL : Hid (∀ W, Below w.heap.size w W → Lives W)) (hn : n ≤ 100) (HOK : Hid (HOk n s Wt)) (hhs : h ≤ s) (ht : t0 ≤ i) (hi : i ≤ 1000) (HDB : Hid (∀ j, ds j ≤ 2000)) (hWt : Wt.length ≤ 3000)
    (v0 v1 v2 v3 v4 v5 v6 v7 v8 v9 v11 v13 v14 v15 v16 v18 v19 v20 v21 v22 v23 v24 v25 v26 v28 v29 v30 v31 v32 v33 v34 v35 v36 v37 v38 v39 v40 v41 v42 v43 v44 v45 v46 v47 v48 v49 v50 v51 v52 v53 v54 v55 v56 v57 v58 v59 v60 v61 v62 v63 v64 v65 v66 v67 v68 v69 v70 v71 v72 v73 v74 v75 v76 v77 v78 v79 v80 v81 v82 v83 v84 v85 v86 v87 v88 v89 v90 v91 v92 v93 v94 v95 v96 v97 v98 v99 v100 v101 v102 v103 v104 v105 v106 v107 v108 v109 v110 v111 v112 v113 v114 v115 v116 v117 v118 v119 v120 v121 v122 v123 v124 v125 v126 v127 v128 v129 v130 v131 v132 v133 v134 v135 v136 v137 v138 v139 v140 v141 v142 v143 v144 v145 v146 v147 v148 v149 v150 v151 v152 v153 v154 v155 v156 v157 v158 v159 v160 v161 v162 v163 v164 v165 v166 v167 v168 v169 v170 v171 v172 v173 v174 v175 v176 v177 v178 v179 v180 v181 v182 v183 v184 v185 v186 v187 v188 v189 v190 v191 v192 v193 v194 v195 v196 v197 v198 v199 v200 v201 v202 v203 v204 v205 v206 v207 v208 v209 v210 v211 v212 v213 v214 v215 v216 v217 v218 v219 v220 v221 v222 v223 v224 v225 v226 v227 v228 v229 v230 v231 v232 v233 v234 v235 v236 v237 v238 v239 v240 v241 v242 v243 v244 v245 v246 v247 v248 v249 v250 v251 v252 v253 v254 v255 v256 v257 v258 v259 : Value)
    (hK : ∀ (W9 : World) (u4 u28 u29 u30 u31 u32 u211 u212 u213 u214 u215 u216 u217 u218 u219 u220 u221 u222 u223 u224 u225 u226 u227 u228 u229 u230 u231 u232 u233 u234 u235 u236 u237 u238 u239 u240 u241 u242 u243 u244 u245 : Value), HrS w i (hearL (dueJ h n i ds).reverse s Wt).1 n (dsN i ds) (hearL (dueJ h n i ds).reverse s Wt).1 (hearL (dueJ h n i ds).reverse s Wt).2 bt mt bh mh W9 → (hearL (dueJ h n i ds).reverse s Wt).2.length ≤ Wt.length + 100 → K { tmps := #[v0, v1, v2, v3, u4, v5, v6, v7, v8, v9, .pointer (some ⟨bt, 0, none⟩), v11, .pointer (some ⟨bh, 0, none⟩), v13, v14, v15, v16, .int .i64 ((hearL (dueJ h n i ds).reverse s Wt).1 : Int), v18, v19, v20, v21, v22, v23, v24, v25, v26, .int .i64 (i : Int), u28, u29, u30, u31, u32, v33, v34, v35, v36, v37, v38, v39, v40, v41, v42, v43, v44, v45, v46, v47, v48, v49, v50, v51, v52, v53, v54, v55, v56, v57, v58, v59, v60, v61, v62, v63, v64, v65, v66, v67, v68, v69, v70, v71, v72, v73, v74, v75, v76, v77, v78, v79, v80, v81, v82, v83, v84, v85, v86, v87, v88, v89, v90, v91, v92, v93, v94, v95, v96, v97, v98, v99, v100, v101, v102, v103, v104, v105, v106, v107, v108, v109, v110, v111, v112, v113, v114, v115, v116, v117, v118, v119, v120, v121, v122, v123, v124, v125, v126, v127, v128, v129, v130, v131, v132, v133, v134, v135, v136, v137, v138, v139, v140, v141, v142, v143, v144, v145, v146, v147, v148, v149, v150, v151, v152, v153, v154, v155, v156, v157, v158, v159, v160, v161, v162, v163, v164, v165, v166, v167, v168, v169, v170, v171, v172, v173, v174, v175, v176, v177, v178, v179, v180, v181, v182, v183, v184, v185, v186, v187, v188, v189, v190, v191, v192, v193, v194, v195, v196, v197, v198, v199, v200, v201, v202, v203, v204, v205, v206, v207, v208, v209, v210, u211, u212, u213, u214, u215, u216, u217, u218, u219, u220, u221, u222, u223, u224, u225, u226, u227, u228, u229, u230, u231, u232, u233, u234, u235, u236, u237, u238, u239, u240, u241, u242, u243, u244, u245, v246, v247, v248, v249, v250, v251, v252, v253, v254, v255, v256, v257, v258, v259], defers := [] } W9) :
    Code.wp Tryd.prog C (Exit.then K E) { tmps := #[v0, v1, v2, v3, v4, v5, v6, v7, v8, v9, .pointer (some ⟨bt, 0, none⟩), v11, .pointer (some ⟨bh, 0, none⟩), v13, v14, v15, v16, .int .i64 (s : Int), v18, v19, v20, v21, v22, v23, v24, v25, v26, .int .i64 (i : Int), v28, v29, v30, v31, v32, v33, v34, v35, v36, v37, v38, v39, v40, v41, v42, v43, v44, v45, v46, v47, v48, v49, v50, v51, v52, v53, v54, v55, v56, v57, v58, v59, v60, v61, v62, v63, v64, v65, v66, v67, v68, v69, v70, v71, v72, v73, v74, v75, v76, v77, v78, v79, v80, v81, v82, v83, v84, v85, v86, v87, v88, v89, v90, v91, v92, v93, v94, v95, v96, v97, v98, v99, v100, v101, v102, v103, v104, v105, v106, v107, v108, v109, v110, v111, v112, v113, v114, v115, v116, v117, v118, v119, v120, v121, v122, v123, v124, v125, v126, v127, v128, v129, v130, v131, v132, v133, v134, v135, v136, v137, v138, v139, v140, v141, v142, v143, v144, v145, v146, v147, v148, v149, v150, v151, v152, v153, v154, v155, v156, v157, v158, v159, v160, v161, v162, v163, v164, v165, v166, v167, v168, v169, v170, v171, v172, v173, v174, v175, v176, v177, v178, v179, v180, v181, v182, v183, v184, v185, v186, v187, v188, v189, v190, v191, v192, v193, v194, v195, v196, v197, v198, v199, v200, v201, v202, v203, v204, v205, v206, v207, v208, v209, v210, v211, v212, v213, v214, v215, v216, v217, v218, v219, v220, v221, v222, v223, v224, v225, v226, v227, v228, v229, v230, v231, v232, v233, v234, v235, v236, v237, v238, v239, v240, v241, v242, v243, v244, v245, v246, v247, v248, v249, v250, v251, v252, v253, v254, v255, v256, v257, v258, v259], defers := [] } W0 := by
  subst hC
  conv =>
    arg 2
    unfold hrBlk
    unfold Tryd.f4
    simp only [Option.getD_some, blkAt]
  conv =>
    arg 4
    zeta
  simp (maxSteps := 10000000) only at hK
  have HK := hidO hK
  clear hK
  have hsn := HOK.out.1
  have q1 := tlDue_any bt mt t0 h n i ds W0 HS.out.tl (by omega) hn ht hi HDB.out
  have hll : (dueJ h n i ds).length ≤ 100 := by
    unfold dueJ
    exact Nat.le_trans (List.length_filter_le _ _) (by simp; omega)
  go_upto_region 48 with (go_at_call 14; go_must ((with_reducible refine q1.mono ?_); rintro e W1 ⟨v1, rfl, ow1, k1, t1⟩))
  have HS1 := hidO (HS.out.setT HO.out k1 t1)
  have HW1 : Hid (OwnNt W1 w.heap.size v1 ((dueJ h n i ds).map nK)) := OwnN.rebase ow1 HS.out.bel.size
  obtain ⟨a1, ca1, rfl⟩ := OwnN.len ow1
  rw [List.length_map] at *
  have HLL : Hid ((dueJ h n i ds).length = (dueJ h n i ds).length) := rfl
  have HJ : Hid (∀ j ∈ dueJ h n i ds, 1 ≤ j ∧ j ≤ n) := fun j hj => by
    have := mem_dueJ.1 hj
    omega
  have hl0 : (0 : Int) ≤ ((dueJ h n i ds).length : Int) := by omega
  have hl1 : ((dueJ h n i ds).length : Int) ≤ 100 := by omega
  clear q1 k1 t1 ow1 HS HDB
  go_upto_block 10 with fail
  refine hr_lastL w W1 i h n s (dueJ h n i ds).length ca1 a1 (dsN i ds) Wt bt mt bh mh (dueJ h n i ds) _ _ _ (by kernel_rfl) HO HS1 HL HW1 HLL HJ hn HOK (by omega) (by omega) _ _ _ _ _ _ _ _ _ _ _ _ _ _ _ _ _ _ _ _ _ _ _ _ _ _ _ _ _ _ _ _ _ _ _ _ _ _ _ _ _ _ _ _ _ _ _ _ _ _ _ _ _ _ _ _ _ _ _ _ _ _ _ _ _ _ _ _ _ _ _ _ _ _ _ _ _ _ _ _ _ _ _ _ _ _ _ _ _ _ _ _ _ _ _ _ _ _ _ _ _ _ _ _ _ _ _ _ _ _ _ _ _ _ _ _ _ _ _ _ _ _ _ _ _ _ _ _ _ _ _ _ _ _ _ _ _ _ _ _ _ _ _ _ _ _ _ _ _ _ _ _ _ _ _ _ _ _ _ _ _ _ _ _ _ _ _ _ _ _ _ _ _ _ _ _ _ _ _ _ _ _ _ _ _ _ _ _ _ _ _ _ _ _ _ _ _ _ _ _ _ _ _ _ _ _ _ _ _ _ _ _ _ _ _ _ _ _ _ _ _ _ _ _ _ _ _ _ _ _ _ _ _ _ _ _ _ _ _ _ _ _ _ _ _ _ _ _ _ _ _ _ _ _ _ _ ?_
  intro W2 u4' u30' u31' u32' u222' u223' u224' u225' u226' u227' u228' u229' u230' u231' u232' u233' u234' u235' u236' u237' u238' u239' u240' h9 h10
  have HS2 := hidO h9
  have hb2 := h10
  clear h9 h10 HS1 HW1 HLL hl0 hl1
  conv =>
    arg 1
    zeta
  try go_step
  obtain ⟨hk1, hk2, _⟩ := hearL_ok (n := n) (dueJ h n i ds).reverse s Wt HOK.out (fun j hj => (HJ.out j (List.mem_reverse.1 hj)).2)
  have HK2 : Hid _ := HK.out
  clear HK
  obtain ⟨R, hR⟩ : ∃ R, hearL (dueJ h n i ds).reverse s Wt = R := ⟨_, rfl⟩
  rw [hR] at HS2 hk1 hk2 hb2 HK2
  rw [hR]
  obtain ⟨s2, Wt2⟩ := R
  simp only at HS2 hk1 hk2 hb2 HK2
  simp only
  have q2 := heSeq_any nK bh mh s2 Wt2 W2 HS2.out.he
  have q3 := tlHeard_any bt mt i h n s2 (dsN i ds) W2 HS2.out.tl (by omega) hk1.1 (by omega)
  have hb3 : Wt2.length ≤ Wt.length + 100 := by omega
  clear hR hk1 hk2 hb2
  go_upto_region 57 with fail
  go_wp2_with (first
    | (go_at_call 10; go_must ((with_reducible refine q2.mono ?_); rintro e W3 ⟨rfl, hW3⟩; rw [hW3]; clear hW3 W3))
    | (go_at_call 15; go_must ((with_reducible refine q3.mono ?_); rintro e W4 ⟨rfl, k4, t4⟩; have HF := hidO (HS2.out.setT HO.out k4 t4); clear k4 t4)))
  exact HK2.out _ _ _ _ _ _ _ _ _ _ _ _ _ _ _ _ _ _ _ _ _ _ _ _ _ _ _ _ _ _ _ _ _ _ _ _ _ _ _ _ _ _ HF.out hb3
end Go.Proofs.YtkkefgoidjjehaaDoor
