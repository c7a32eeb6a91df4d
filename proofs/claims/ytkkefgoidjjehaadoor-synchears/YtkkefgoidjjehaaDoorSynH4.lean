/- SyncHears: what comes out is held against what was told (blocks 7 and 6). -/
import Derived.Test.YtkkefgoidjjehaaDoorSynH2
import Derived.Test.YtkkefgoidjjehaaDoorQuietX
import Derived.Test.YtkkefgoidjjehaaDoorMgF
namespace Go.Proofs.YtkkefgoidjjehaaDoor
open Go.RowKit Go.Maps
set_option linter.unusedVariables false

set_option maxRecDepth 100000 in
set_option maxHeartbeats 32000000 in
theorem hr_out (w W0 : World) (base s q LN ca g : Nat) (K : Act → World → Prop) (E : Exit → Act → World → Prop) (C : Code) (hC : C = hrBlk 7)
    (HW : Hid (OwnNt W0 base (.slice (some ⟨g, 0, none⟩) LN ca) (outN nK s LN))) (hq : q < LN) (hs : s + LN ≤ 100) (hca : LN ≤ ca) (hcm : ca ≤ maxLen)
    (v0 v1 v2 v3 v4 v5 v6 v7 v8 v9 v10 v11 v12 v13 v14 v15 v16 v18 v19 v20 v21 v22 v23 v25 v27 v28 v29 v30 v31 v32 v33 v34 v35 v36 v37 v38 v39 v40 v41 v42 v43 v44 v45 v46 v47 v48 v49 v50 v51 v52 v53 v54 v55 v56 v57 v58 v59 v60 v61 v62 v63 v64 v65 v66 v67 v68 v69 v70 v71 v72 v73 v74 v75 v76 v77 v78 v79 v80 v81 v82 v83 v84 v85 v86 v87 v88 v89 v90 v91 v92 v93 v94 v95 v96 v97 v98 v99 v100 v101 v102 v103 v104 v105 v106 v107 v108 v109 v110 v111 v112 v113 v114 v115 v116 v117 v118 v119 v120 v121 v122 v123 v124 v125 v126 v127 v128 v129 v130 v131 v132 v133 v134 v135 v136 v137 v138 v139 v140 v141 v142 v143 v144 v145 v146 v147 v148 v149 v150 v151 v152 v153 v154 v155 v156 v157 v158 v159 v160 v161 v162 v163 v164 v165 v166 v167 v168 v169 v170 v171 v172 v173 v174 v175 v176 v177 v178 v179 v180 v181 v182 v183 v184 v185 v186 v187 v188 v189 v190 v191 v192 v193 v194 v195 v196 v197 v198 v199 v200 v201 v202 v203 v204 v205 v206 v207 v208 v209 v210 v211 v212 v213 v214 v215 v216 v217 v218 v219 v220 v221 v222 v223 v224 v225 v226 v227 v228 v229 v230 v231 v232 v233 v234 v235 v236 v237 v238 v239 v240 v241 v242 v243 v244 v245 v246 v247 v248 v249 v250 v251 v252 v253 v254 v255 v256 v257 v258 v259 : Value)
    (hK : ∀ (W9 : World) (u176 u177 u178 u179 u180 u181 u182 u183 u184 u185 u186 u187 u188 u189 u190 u191 u192 u193 u194 u195 u196 : Value), Below W0.heap.size W0 W9 → K { tmps := #[v0, v1, v2, v3, v4, v5, v6, v7, v8, v9, v10, v11, v12, v13, v14, v15, v16, .int .i64 ((s : Int) + (q : Int) + 1), v18, v19, v20, v21, v22, v23, .slice (some ⟨g, 0, none⟩) LN ca, v25, .int .i64 (q : Int), v27, v28, v29, v30, v31, v32, v33, v34, v35, v36, v37, v38, v39, v40, v41, v42, v43, v44, v45, v46, v47, v48, v49, v50, v51, v52, v53, v54, v55, v56, v57, v58, v59, v60, v61, v62, v63, v64, v65, v66, v67, v68, v69, v70, v71, v72, v73, v74, v75, v76, v77, v78, v79, v80, v81, v82, v83, v84, v85, v86, v87, v88, v89, v90, v91, v92, v93, v94, v95, v96, v97, v98, v99, v100, v101, v102, v103, v104, v105, v106, v107, v108, v109, v110, v111, v112, v113, v114, v115, v116, v117, v118, v119, v120, v121, v122, v123, v124, v125, v126, v127, v128, v129, v130, v131, v132, v133, v134, v135, v136, v137, v138, v139, v140, v141, v142, v143, v144, v145, v146, v147, v148, v149, v150, v151, v152, v153, v154, v155, v156, v157, v158, v159, v160, v161, v162, v163, v164, v165, v166, v167, v168, v169, v170, v171, v172, v173, v174, v175, u176, u177, u178, u179, u180, u181, u182, u183, u184, u185, u186, u187, u188, u189, u190, u191, u192, u193, u194, u195, u196, v197, v198, v199, v200, v201, v202, v203, v204, v205, v206, v207, v208, v209, v210, v211, v212, v213, v214, v215, v216, v217, v218, v219, v220, v221, v222, v223, v224, v225, v226, v227, v228, v229, v230, v231, v232, v233, v234, v235, v236, v237, v238, v239, v240, v241, v242, v243, v244, v245, v246, v247, v248, v249, v250, v251, v252, v253, v254, v255, v256, v257, v258, v259], defers := [] } W9) :
    Code.wp Tryd.prog C (Exit.then K E) { tmps := #[v0, v1, v2, v3, v4, v5, v6, v7, v8, v9, v10, v11, v12, v13, v14, v15, v16, .int .i64 ((s : Int) + (q : Int)), v18, v19, v20, v21, v22, v23, .slice (some ⟨g, 0, none⟩) LN ca, v25, .int .i64 (q : Int), v27, v28, v29, v30, v31, v32, v33, v34, v35, v36, v37, v38, v39, v40, v41, v42, v43, v44, v45, v46, v47, v48, v49, v50, v51, v52, v53, v54, v55, v56, v57, v58, v59, v60, v61, v62, v63, v64, v65, v66, v67, v68, v69, v70, v71, v72, v73, v74, v75, v76, v77, v78, v79, v80, v81, v82, v83, v84, v85, v86, v87, v88, v89, v90, v91, v92, v93, v94, v95, v96, v97, v98, v99, v100, v101, v102, v103, v104, v105, v106, v107, v108, v109, v110, v111, v112, v113, v114, v115, v116, v117, v118, v119, v120, v121, v122, v123, v124, v125, v126, v127, v128, v129, v130, v131, v132, v133, v134, v135, v136, v137, v138, v139, v140, v141, v142, v143, v144, v145, v146, v147, v148, v149, v150, v151, v152, v153, v154, v155, v156, v157, v158, v159, v160, v161, v162, v163, v164, v165, v166, v167, v168, v169, v170, v171, v172, v173, v174, v175, v176, v177, v178, v179, v180, v181, v182, v183, v184, v185, v186, v187, v188, v189, v190, v191, v192, v193, v194, v195, v196, v197, v198, v199, v200, v201, v202, v203, v204, v205, v206, v207, v208, v209, v210, v211, v212, v213, v214, v215, v216, v217, v218, v219, v220, v221, v222, v223, v224, v225, v226, v227, v228, v229, v230, v231, v232, v233, v234, v235, v236, v237, v238, v239, v240, v241, v242, v243, v244, v245, v246, v247, v248, v249, v250, v251, v252, v253, v254, v255, v256, v257, v258, v259], defers := [] } W0 := by
  subst hC
  conv =>
    arg 2
    unfold hrBlk
    unfold Tryd.f4
    simp only [Option.getD_some, blkAt]
  conv =>
    arg 4
    zeta
  simp (maxSteps := 10000000) only at hK
  have HK := hidO hK
  clear hK
  have hql : q < (outN nK s LN).length := by rw [outN_len]; exact hq
  obtain ⟨r0, r1, r2, r3, r4, r5, r6, _⟩ := own_nt HW.out q hql (nK (s + q + 1)) (by simp [outN])
  have hc := fun u : Ext W0 => Ext.call (fun W => skeyOf_any (s + q) W (by omega)) u
  have e1 : (nK (s + q + 1)).seq = (s : Int) + (q : Int) + 1 := by show ((s + q + 1 : Nat) : Int) = _; omega
  have e2 : (nK (s + q + 1)).fl.key = keyJ (s + q) := rfl
  rw [e1] at r1
  rw [e2] at r2 r3 r4 r5 r6
  rw [show (keyJ (s + q)).kind = 1 + ((s + q : Nat) : Int) % 3 from rfl] at r2
  rw [show (keyJ (s + q)).src = 10 + ((s + q : Nat) : Int) % 5 from rfl] at r3
  rw [show (keyJ (s + q)).frm = 7 from rfl] at r4
  rw [show (keyJ (s + q)).dst = 20 - ((s + q : Nat) : Int) % 3 from rfl] at r5
  rw [show (keyJ (s + q)).too = 7 from rfl] at r6
  rw [show ((s + q : Nat) : Int) = (s : Int) + (q : Int) by omega] at hc r2 r3 r5
  have x1 := Ext.cell r1
  have x2 := Ext.cell r2
  have x3 := Ext.cell r3
  have x4 := Ext.cell r4
  have x5 := Ext.cell r5
  have x6 := Ext.cell r6
  generalize (1 + ((s : Int) + (q : Int)) % 3) = k1 at hc x2
  generalize (10 + ((s : Int) + (q : Int)) % 5) = k2 at hc x3
  generalize (20 - ((s : Int) + (q : Int)) % 3) = k3 at hc x5
  have hneq : ∀ u : Ext W0, (binOp .neq 23 (.agg #[.int .i64 k1, .int .i64 k2, .int .i64 7, .int .i64 k3, .int .i64 7]) (.agg #[.int .i64 k1, .int .i64 k2, .int .i64 7, .int .i64 k3, .int .i64 7])).run Tryd.prog u.W = .ok (.bool false) u.W := fun u => Tryd.keyNeq _ _ _ _ _ _
  have i1 : (q : Int) < (LN : Int) := by omega
  have i2 : (0 : Int) ≤ (q : Int) := by omega
  obtain ⟨z, hz⟩ : ∃ z, (s : Int) + (q : Int) = z := ⟨_, rfl⟩
  have z1 : 0 ≤ z := by omega
  have z2 : z ≤ 100 := by omega
  rw [hz] at hc x1 HK
  rw [hz]
  clear hz HW hql e1 e2 r0 r1 r2 r3 r4 r5 r6
  go_upto_region 40 with fail
  refine wp_region_ext (by kernel_rfl) (by kernel_rfl) ?_
  repeat (go_big_quiet_step (first | (go_at_call 12; exact hc _)))
  refine wpQuiet_nil ?_
  rintro _ ⟨u, rfl⟩
  have HF := hidO u.h
  obtain ⟨W8, hW8⟩ : ∃ X9, u.W = X9 := ⟨_, rfl⟩
  rw [hW8] at HF
  rw [hW8]
  clear hW8 u hc x1 x2 x3 x4 x5 x6 hneq
  go_wp2_with fail
  exact HK.out _ _ _ _ _ _ _ _ _ _ _ _ _ _ _ _ _ _ _ _ _ _ HF.out
set_option maxRecDepth 100000 in
set_option maxHeartbeats 32000000 in
theorem hr_outL (w W0 : World) (base s LN ca : Nat) (ao : Option Addr) (E : Exit → Act → World → Prop) (C : Code) (hC : C = hrBlk 6)
    (HW : Hid (OwnNt W0 base (.slice ao LN ca) (outN nK s LN))) (hs : s + LN ≤ 100)
    (v0 v1 v2 v3 v4 v5 v6 v7 v8 v9 v10 v11 v12 v13 v14 v15 v16 v18 v19 v20 v21 v22 v23 v25 v27 v28 v29 v30 v31 v32 v33 v34 v35 v36 v37 v38 v39 v40 v41 v42 v43 v44 v45 v46 v47 v48 v49 v50 v51 v52 v53 v54 v55 v56 v57 v58 v59 v60 v61 v62 v63 v64 v65 v66 v67 v68 v69 v70 v71 v72 v73 v74 v75 v76 v77 v78 v79 v80 v81 v82 v83 v84 v85 v86 v87 v88 v89 v90 v91 v92 v93 v94 v95 v96 v97 v98 v99 v100 v101 v102 v103 v104 v105 v106 v107 v108 v109 v110 v111 v112 v113 v114 v115 v116 v117 v118 v119 v120 v121 v122 v123 v124 v125 v126 v127 v128 v129 v130 v131 v132 v133 v134 v135 v136 v137 v138 v139 v140 v141 v142 v143 v144 v145 v146 v147 v148 v149 v150 v151 v152 v153 v154 v155 v156 v157 v158 v159 v160 v161 v162 v163 v164 v165 v166 v167 v168 v169 v170 v171 v172 v173 v174 v175 v176 v177 v178 v179 v180 v181 v182 v183 v184 v185 v186 v187 v188 v189 v190 v191 v192 v193 v194 v195 v196 v197 v198 v199 v200 v201 v202 v203 v204 v205 v206 v207 v208 v209 v210 v211 v212 v213 v214 v215 v216 v217 v218 v219 v220 v221 v222 v223 v224 v225 v226 v227 v228 v229 v230 v231 v232 v233 v234 v235 v236 v237 v238 v239 v240 v241 v242 v243 v244 v245 v246 v247 v248 v249 v250 v251 v252 v253 v254 v255 v256 v257 v258 v259 : Value)
    (hK : ∀ (W9 : World) (u4 u26 u170 u171 u172 u173 u174 u175 u176 u177 u178 u179 u180 u181 u182 u183 u184 u185 u186 u187 u188 u189 u190 u191 u192 u193 u194 u195 u196 : Value), Below W0.heap.size W0 W9 → E .normal { tmps := #[v0, v1, v2, v3, u4, v5, v6, v7, v8, v9, v10, v11, v12, v13, v14, v15, v16, .int .i64 ((s : Int) + (LN : Int)), v18, v19, v20, v21, v22, v23, .slice ao LN ca, v25, u26, v27, v28, v29, v30, v31, v32, v33, v34, v35, v36, v37, v38, v39, v40, v41, v42, v43, v44, v45, v46, v47, v48, v49, v50, v51, v52, v53, v54, v55, v56, v57, v58, v59, v60, v61, v62, v63, v64, v65, v66, v67, v68, v69, v70, v71, v72, v73, v74, v75, v76, v77, v78, v79, v80, v81, v82, v83, v84, v85, v86, v87, v88, v89, v90, v91, v92, v93, v94, v95, v96, v97, v98, v99, v100, v101, v102, v103, v104, v105, v106, v107, v108, v109, v110, v111, v112, v113, v114, v115, v116, v117, v118, v119, v120, v121, v122, v123, v124, v125, v126, v127, v128, v129, v130, v131, v132, v133, v134, v135, v136, v137, v138, v139, v140, v141, v142, v143, v144, v145, v146, v147, v148, v149, v150, v151, v152, v153, v154, v155, v156, v157, v158, v159, v160, v161, v162, v163, v164, v165, v166, v167, v168, v169, u170, u171, u172, u173, u174, u175, u176, u177, u178, u179, u180, u181, u182, u183, u184, u185, u186, u187, u188, u189, u190, u191, u192, u193, u194, u195, u196, v197, v198, v199, v200, v201, v202, v203, v204, v205, v206, v207, v208, v209, v210, v211, v212, v213, v214, v215, v216, v217, v218, v219, v220, v221, v222, v223, v224, v225, v226, v227, v228, v229, v230, v231, v232, v233, v234, v235, v236, v237, v238, v239, v240, v241, v242, v243, v244, v245, v246, v247, v248, v249, v250, v251, v252, v253, v254, v255, v256, v257, v258, v259], defers := [] } W9) :
    Code.wp Tryd.prog C E { tmps := #[v0, v1, v2, v3, v4, v5, v6, v7, v8, v9, v10, v11, v12, v13, v14, v15, v16, .int .i64 (s : Int), v18, v19, v20, v21, v22, v23, .slice ao LN ca, v25, .int .i64 0, v27, v28, v29, v30, v31, v32, v33, v34, v35, v36, v37, v38, v39, v40, v41, v42, v43, v44, v45, v46, v47, v48, v49, v50, v51, v52, v53, v54, v55, v56, v57, v58, v59, v60, v61, v62, v63, v64, v65, v66, v67, v68, v69, v70, v71, v72, v73, v74, v75, v76, v77, v78, v79, v80, v81, v82, v83, v84, v85, v86, v87, v88, v89, v90, v91, v92, v93, v94, v95, v96, v97, v98, v99, v100, v101, v102, v103, v104, v105, v106, v107, v108, v109, v110, v111, v112, v113, v114, v115, v116, v117, v118, v119, v120, v121, v122, v123, v124, v125, v126, v127, v128, v129, v130, v131, v132, v133, v134, v135, v136, v137, v138, v139, v140, v141, v142, v143, v144, v145, v146, v147, v148, v149, v150, v151, v152, v153, v154, v155, v156, v157, v158, v159, v160, v161, v162, v163, v164, v165, v166, v167, v168, v169, v170, v171, v172, v173, v174, v175, v176, v177, v178, v179, v180, v181, v182, v183, v184, v185, v186, v187, v188, v189, v190, v191, v192, v193, v194, v195, v196, v197, v198, v199, v200, v201, v202, v203, v204, v205, v206, v207, v208, v209, v210, v211, v212, v213, v214, v215, v216, v217, v218, v219, v220, v221, v222, v223, v224, v225, v226, v227, v228, v229, v230, v231, v232, v233, v234, v235, v236, v237, v238, v239, v240, v241, v242, v243, v244, v245, v246, v247, v248, v249, v250, v251, v252, v253, v254, v255, v256, v257, v258, v259], defers := [] } W0 := by
  subst hC
  conv =>
    arg 2
    unfold hrBlk
    unfold Tryd.f4
    simp only [Option.getD_some, blkAt]
  conv =>
    arg 4
    zeta
  simp (maxSteps := 10000000) only at hK
  have HK := hidO hK
  clear hK
  go_wp2_with fail
  go_loopw [17, 26] (fun v17 v26 wr => ∃ q : Nat, v17 = .int .i64 ((s : Int) + (q : Int)) ∧ v26 = .int .i64 (q : Int) ∧ q ≤ LN ∧ Hid (Below W0.heap.size W0 wr)) (fun _ v26 _ => (200 - intOf v26).toNat)
  case atStart => exact ⟨0, by simp, rfl, Nat.zero_le _, Below.refl _ _⟩
  case round =>
    obtain ⟨q, rfl, rfl, hq, HB⟩ := hrel
    by_cases hql : q < LN
    · have i1 : (q : Int) < (LN : Int) := by omega
      have hq := hql
      obtain ⟨g, c2, e2, hb2, hg2, hca, hcm⟩ := OwnN.shape HW.out (by rw [outN_len]; omega)
      simp only [Value.slice.injEq] at e2
      obtain ⟨rfl, e3, rfl⟩ := e2
      clear e3
      rw [outN_len] at hca
      have HW2 : Hid (OwnNt wr base (.slice (some ⟨g, 0, none⟩) LN ca) (outN nK s LN)) := OwnN.below HW.out HB.out
      clear hb2 hg2 hql
      go_upto_block 7 with fail
      refine hr_out w wr base s q LN ca g _ _ _ (by kernel_rfl) HW2 hq hs hca hcm _ _ _ _ _ _ _ _ _ _ _ _ _ _ _ _ _ _ _ _ _ _ _ _ _ _ _ _ _ _ _ _ _ _ _ _ _ _ _ _ _ _ _ _ _ _ _ _ _ _ _ _ _ _ _ _ _ _ _ _ _ _ _ _ _ _ _ _ _ _ _ _ _ _ _ _ _ _ _ _ _ _ _ _ _ _ _ _ _ _ _ _ _ _ _ _ _ _ _ _ _ _ _ _ _ _ _ _ _ _ _ _ _ _ _ _ _ _ _ _ _ _ _ _ _ _ _ _ _ _ _ _ _ _ _ _ _ _ _ _ _ _ _ _ _ _ _ _ _ _ _ _ _ _ _ _ _ _ _ _ _ _ _ _ _ _ _ _ _ _ _ _ _ _ _ _ _ _ _ _ _ _ _ _ _ _ _ _ _ _ _ _ _ _ _ _ _ _ _ _ _ _ _ _ _ _ _ _ _ _ _ _ _ _ _ _ _ _ _ _ _ _ _ _ _ _ _ _ _ _ _ _ _ _ _ _ _ _ _ _ _ _ _ _ _ _ _ _ _ _ _ _ _ _ _ _ _ ?_
      intro W9 u176' u177' u178' u179' u180' u181' u182' u183' u184' u185' u186' u187' u188' u189' u190' u191' u192' u193' u194' u195' u196' h9
      have H9 := hidO (HB.out.trans (h9.mono HB.out.size))
      clear h9 HW2
      conv =>
        arg 1
        zeta
      try go_step
      go_wp2_with fail
      go_roundw
      case rel => exact ⟨q + 1, by simp; omega, by simp, by omega, H9⟩
      case measure => simp only [intOf]; omega
    · have HQ : Hid ((s : Int) + (LN : Int) = (s : Int) + (q : Int)) := by show _ = _; omega
      have i1 : ¬ (q : Int) < (LN : Int) := by omega
      clear hql
      go_wp2_with fail
      have HK3 := HK.out wr
      rw [HQ.out] at HK3
      exact HK3 _ _ _ _ _ _ _ _ _ _ _ _ _ _ _ _ _ _ _ _ _ _ _ _ _ _ _ _ _ HB.out
end Go.Proofs.YtkkefgoidjjehaaDoor
