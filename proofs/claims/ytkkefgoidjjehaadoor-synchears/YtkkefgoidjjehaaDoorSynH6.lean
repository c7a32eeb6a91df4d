/- SyncHears: a row of numbers (block 4), a round (block 3). -/
import Derived.Test.YtkkefgoidjjehaaDoorSynH5
import Derived.Test.YtkkefgoidjjehaaDoorOwnV
namespace Go.Proofs.YtkkefgoidjjehaaDoor
open Go.RowKit Go.Maps
set_option linter.unusedVariables false

set_option maxRecDepth 100000 in
set_option maxHeartbeats 32000000 in
theorem hr_row (w W0 : World) (now h n s0 i LN ca ge oe NE ce : Nat) (ao an : Option Addr) (cn : Nat) (zs : List Int) (ds : Nat → Nat) (Wt0 : List Nat) (bt mt bh mh : Nat) (L : List Nat) (K : Act → World → Prop) (E : Exit → Act → World → Prop) (C : Code) (hC : C = hrBlk 4)
    (HO : Hid (HrO w bt mt bh mh)) (HS0 : Hid (HrS w now h n ds s0 Wt0 bt mt bh mh W0)) (HL : Hid (∀ W, Below w.heap.size w W → Lives W)) (HW0 : Hid (OwnNt W0 w.heap.size (.slice ao LN ca) (L.map nK))) (HN : Hid (L.length = LN)) (HJ : Hid (∀ j ∈ L, 1 ≤ j ∧ j ≤ n)) (hn : n ≤ 100) (HOK0 : Hid (HOk n s0 Wt0)) (hWt : Wt0.length ≤ 3000) (hLN : LN ≤ 5000) (HNZ : Hid (Numz w (.slice an zs.length cn) zs)) (HC0 : Hid (∀ X', Below w.heap.size w X' → X'.cell? ⟨ge, oe + i, none⟩ = some (.slice an zs.length cn))) (hi1 : (i : Int) < (NE : Int)) (hgc : NE ≤ ce) (hgm : ce ≤ maxLen)
    (v0 v2 v3 v4 v5 v6 v7 v8 v9 v10 v11 v13 v14 v15 v16 v20 v21 v23 v24 v25 v26 v27 v28 v29 v30 v31 v32 v33 v34 v35 v36 v37 v38 v39 v40 v41 v42 v43 v44 v45 v46 v47 v48 v49 v50 v51 v52 v53 v54 v55 v56 v57 v58 v59 v60 v61 v62 v63 v64 v65 v66 v67 v68 v69 v70 v71 v72 v73 v74 v75 v76 v77 v78 v79 v80 v81 v82 v83 v84 v85 v86 v87 v88 v89 v90 v91 v92 v93 v94 v95 v96 v97 v98 v99 v100 v101 v102 v103 v104 v105 v106 v107 v108 v109 v110 v111 v112 v113 v114 v115 v116 v117 v118 v119 v120 v121 v122 v123 v124 v125 v126 v127 v128 v129 v130 v131 v132 v133 v134 v135 v136 v137 v138 v139 v140 v141 v142 v143 v144 v145 v146 v147 v148 v149 v150 v151 v152 v153 v154 v155 v156 v157 v158 v159 v160 v161 v162 v163 v164 v165 v166 v167 v168 v169 v170 v171 v172 v173 v174 v175 v176 v177 v178 v179 v180 v181 v182 v183 v184 v185 v186 v187 v188 v189 v190 v191 v192 v193 v194 v195 v196 v197 v198 v199 v200 v201 v202 v203 v204 v205 v206 v207 v208 v209 v210 v211 v212 v213 v214 v215 v216 v217 v218 v219 v220 v221 v222 v223 v224 v225 v226 v227 v228 v229 v230 v231 v232 v233 v234 v235 v236 v237 v238 v239 v240 v241 v242 v243 v244 v245 v246 v247 v248 v249 v250 v251 v252 v253 v254 v255 v256 v257 v258 v259 : Value)
    (hK : ∀ (s9 : Nat) (Wt9 : List Nat) (W9 : World) (u4 u22 u23 u24 u25 u26 u131 u132 u133 u134 u135 u136 u137 u138 u139 u140 u141 u142 u143 u144 u145 u146 u147 u148 u149 u150 u151 u152 u153 u154 u155 u156 u157 u158 u159 u160 u161 u162 u163 u164 u165 u166 u167 u168 u169 u170 u171 u172 u173 u174 u175 u176 u177 u178 u179 u180 u181 u182 u183 u184 u185 u186 u187 u188 u189 u190 u191 u192 u193 u194 u195 u196 : Value), HOk n s9 Wt9 → s0 ≤ s9 → Wt9.length ≤ Wt0.length + 8 → HrS w now h n ds s9 Wt9 bt mt bh mh W9 → OwnNt W9 w.heap.size (.slice ao LN ca) (L.map nK) → K { tmps := #[v0, .slice (some ⟨ge, oe, none⟩) NE ce, v2, v3, u4, v5, v6, v7, v8, v9, v10, v11, .pointer (some ⟨bh, 0, none⟩), v13, v14, v15, v16, .int .i64 (s9 : Int), .slice ao LN ca, .int .i64 (i : Int), v20, v21, u22, u23, u24, u25, u26, v27, v28, v29, v30, v31, v32, v33, v34, v35, v36, v37, v38, v39, v40, v41, v42, v43, v44, v45, v46, v47, v48, v49, v50, v51, v52, v53, v54, v55, v56, v57, v58, v59, v60, v61, v62, v63, v64, v65, v66, v67, v68, v69, v70, v71, v72, v73, v74, v75, v76, v77, v78, v79, v80, v81, v82, v83, v84, v85, v86, v87, v88, v89, v90, v91, v92, v93, v94, v95, v96, v97, v98, v99, v100, v101, v102, v103, v104, v105, v106, v107, v108, v109, v110, v111, v112, v113, v114, v115, v116, v117, v118, v119, v120, v121, v122, v123, v124, v125, v126, v127, v128, v129, v130, u131, u132, u133, u134, u135, u136, u137, u138, u139, u140, u141, u142, u143, u144, u145, u146, u147, u148, u149, u150, u151, u152, u153, u154, u155, u156, u157, u158, u159, u160, u161, u162, u163, u164, u165, u166, u167, u168, u169, u170, u171, u172, u173, u174, u175, u176, u177, u178, u179, u180, u181, u182, u183, u184, u185, u186, u187, u188, u189, u190, u191, u192, u193, u194, u195, u196, v197, v198, v199, v200, v201, v202, v203, v204, v205, v206, v207, v208, v209, v210, v211, v212, v213, v214, v215, v216, v217, v218, v219, v220, v221, v222, v223, v224, v225, v226, v227, v228, v229, v230, v231, v232, v233, v234, v235, v236, v237, v238, v239, v240, v241, v242, v243, v244, v245, v246, v247, v248, v249, v250, v251, v252, v253, v254, v255, v256, v257, v258, v259], defers := [] } W9) :
    Code.wp Tryd.prog C (Exit.then K E) { tmps := #[v0, .slice (some ⟨ge, oe, none⟩) NE ce, v2, v3, v4, v5, v6, v7, v8, v9, v10, v11, .pointer (some ⟨bh, 0, none⟩), v13, v14, v15, v16, .int .i64 (s0 : Int), .slice ao LN ca, .int .i64 (i : Int), v20, v21, .int .i64 0, v23, v24, v25, v26, v27, v28, v29, v30, v31, v32, v33, v34, v35, v36, v37, v38, v39, v40, v41, v42, v43, v44, v45, v46, v47, v48, v49, v50, v51, v52, v53, v54, v55, v56, v57, v58, v59, v60, v61, v62, v63, v64, v65, v66, v67, v68, v69, v70, v71, v72, v73, v74, v75, v76, v77, v78, v79, v80, v81, v82, v83, v84, v85, v86, v87, v88, v89, v90, v91, v92, v93, v94, v95, v96, v97, v98, v99, v100, v101, v102, v103, v104, v105, v106, v107, v108, v109, v110, v111, v112, v113, v114, v115, v116, v117, v118, v119, v120, v121, v122, v123, v124, v125, v126, v127, v128, v129, v130, v131, v132, v133, v134, v135, v136, v137, v138, v139, v140, v141, v142, v143, v144, v145, v146, v147, v148, v149, v150, v151, v152, v153, v154, v155, v156, v157, v158, v159, v160, v161, v162, v163, v164, v165, v166, v167, v168, v169, v170, v171, v172, v173, v174, v175, v176, v177, v178, v179, v180, v181, v182, v183, v184, v185, v186, v187, v188, v189, v190, v191, v192, v193, v194, v195, v196, v197, v198, v199, v200, v201, v202, v203, v204, v205, v206, v207, v208, v209, v210, v211, v212, v213, v214, v215, v216, v217, v218, v219, v220, v221, v222, v223, v224, v225, v226, v227, v228, v229, v230, v231, v232, v233, v234, v235, v236, v237, v238, v239, v240, v241, v242, v243, v244, v245, v246, v247, v248, v249, v250, v251, v252, v253, v254, v255, v256, v257, v258, v259], defers := [] } W0 := by
  subst hC
  conv =>
    arg 2
    unfold hrBlk
    unfold Tryd.f4
    simp only [Option.getD_some, blkAt]
  conv =>
    arg 4
    zeta
  simp (maxSteps := 10000000) only at hK
  have HK := hidO hK
  clear hK
  go_wp2_with fail
  go_loopw [17, 22] (fun v17 v22 wr => ∃ (q s : Nat) (Wt : List Nat), v17 = .int .i64 (s : Int) ∧ v22 = .int .i64 (q : Int) ∧ q ≤ 8 ∧ Hid (HOk n s Wt) ∧ s0 ≤ s ∧ Wt.length ≤ Wt0.length + q ∧ Hid (HrS w now h n ds s Wt bt mt bh mh wr) ∧ Hid (OwnNt wr w.heap.size (.slice ao LN ca) (L.map nK))) (fun _ v22 _ => (100 - intOf v22).toNat)
  case atStart => exact ⟨0, s0, Wt0, rfl, rfl, by omega, HOK0, Nat.le_refl _, Nat.le_refl _, HS0, HW0⟩
  case round =>
    clear HS0 HW0 HOK0
    obtain ⟨q, s, Wt, rfl, rfl, hq8, HOK, hss, hWl, HS, HW⟩ := hrel
    have c0 := HC0.out _ HS.out.bel
    by_cases hq : q < zs.length ∧ q < 8
    · have hq1 := hq.1
      have i1 : (q : Int) < (zs.length : Int) := by omega
      have i2 : (q : Int) < 8 := by omega
      go_upto_block 5 with fail
      refine hr_one w wr now h n s q i LN ca ge oe NE ce ao an cn zs ds Wt bt mt bh mh L _ _ _ (by kernel_rfl) HO HS HL HW HN HJ hn HOK (by omega) hLN HNZ HC0 hi1 hgc hgm hq1 _ _ _ _ _ _ _ _ _ _ _ _ _ _ _ _ _ _ _ _ _ _ _ _ _ _ _ _ _ _ _ _ _ _ _ _ _ _ _ _ _ _ _ _ _ _ _ _ _ _ _ _ _ _ _ _ _ _ _ _ _ _ _ _ _ _ _ _ _ _ _ _ _ _ _ _ _ _ _ _ _ _ _ _ _ _ _ _ _ _ _ _ _ _ _ _ _ _ _ _ _ _ _ _ _ _ _ _ _ _ _ _ _ _ _ _ _ _ _ _ _ _ _ _ _ _ _ _ _ _ _ _ _ _ _ _ _ _ _ _ _ _ _ _ _ _ _ _ _ _ _ _ _ _ _ _ _ _ _ _ _ _ _ _ _ _ _ _ _ _ _ _ _ _ _ _ _ _ _ _ _ _ _ _ _ _ _ _ _ _ _ _ _ _ _ _ _ _ _ _ _ _ _ _ _ _ _ _ _ _ _ _ _ _ _ _ _ _ _ _ _ _ _ _ _ _ _ _ _ _ _ _ _ _ _ _ _ _ _ _ _ _ _ _ _ _ _ _ _ _ _ _ _ _ ?_
      intro s9 Wt9 W9 u4' u23' u24' u25' u26' u144' u145' u146' u147' u148' u149' u150' u151' u152' u153' u154' u155' u156' u157' u158' u159' u160' u161' u162' u163' u164' u165' u166' u167' u168' u169' u170' u171' u172' u173' u174' u175' u176' u177' u178' u179' u180' u181' u182' u183' u184' u185' u186' u187' u188' u189' u190' u191' u192' u193' u194' u195' u196' h1 h2 h3 h4 h5
      have H1 := hidO h1
      have H4 := hidO h4
      have H5 := hidO h5
      clear h1 h4 h5 HS HW HOK c0
      conv =>
        arg 1
        zeta
      try go_step
      go_wp2_with fail
      go_roundw
      case rel => exact ⟨q + 1, s9, Wt9, rfl, by simp, by omega, H1, by omega, by omega, H4, H5⟩
      case measure => simp only [intOf]; omega
    · rcases (by omega : (¬ (q : Int) < (zs.length : Int)) ∨ ((q : Int) < (zs.length : Int) ∧ ¬ (q : Int) < 8)) with hd | ⟨hd, hd2⟩
      all_goals
        clear hq
        go_wp2_with fail
        exact HK.out s Wt _ _ _ _ _ _ _ _ _ _ _ _ _ _ _ _ _ _ _ _ _ _ _ _ _ _ _ _ _ _ _ _ _ _ _ _ _ _ _ _ _ _ _ _ _ _ _ _ _ _ _ _ _ _ _ _ _ _ _ _ _ _ _ _ _ _ _ _ _ _ _ _ _ HOK.out hss (by omega) HS.out HW.out
end Go.Proofs.YtkkefgoidjjehaaDoor
