/- SyncHears: notes are told (block 0), the last rounds (block 8). -/
import Derived.Test.YtkkefgoidjjehaaDoorSynH3
namespace Go.Proofs.YtkkefgoidjjehaaDoor
open Go.RowKit Go.Maps
set_option linter.unusedVariables false

set_option maxRecDepth 100000 in
set_option maxHeartbeats 32000000 in
theorem hr_tellL (w W0 : World) (n bt mt bh mh : Nat) (K : Act → World → Prop) (E : Exit → Act → World → Prop) (C : Code) (hC : C = hrBlk 0)
    (HO : Hid (HrO w bt mt bh mh)) (HS0 : Hid (HrS w 0 0 0 (fun _ => 0) 0 [] bt mt bh mh W0)) (HL : Hid (∀ W, Below w.heap.size w W → Lives W)) (hn : n ≤ 40)
    (v1 v2 v3 v4 v5 v6 v7 v8 v9 v11 v12 v14 v15 v16 v17 v18 v19 v20 v21 v22 v23 v24 v25 v26 v27 v28 v29 v30 v31 v32 v33 v34 v35 v36 v37 v38 v39 v40 v41 v42 v43 v44 v45 v46 v47 v48 v49 v50 v51 v52 v53 v54 v55 v56 v57 v58 v59 v60 v61 v62 v63 v64 v65 v66 v67 v68 v69 v70 v71 v72 v73 v74 v75 v76 v77 v78 v79 v80 v81 v82 v83 v84 v85 v86 v87 v88 v89 v90 v91 v92 v93 v94 v95 v96 v97 v98 v99 v100 v101 v102 v103 v104 v105 v106 v107 v108 v109 v110 v111 v112 v113 v114 v115 v116 v117 v118 v119 v120 v121 v122 v123 v124 v125 v126 v127 v128 v129 v130 v131 v132 v133 v134 v135 v136 v137 v138 v139 v140 v141 v142 v143 v144 v145 v146 v147 v148 v149 v150 v151 v152 v153 v154 v155 v156 v157 v158 v159 v160 v161 v162 v163 v164 v165 v166 v167 v168 v169 v170 v171 v172 v173 v174 v175 v176 v177 v178 v179 v180 v181 v182 v183 v184 v185 v186 v187 v188 v189 v190 v191 v192 v193 v194 v195 v196 v197 v198 v199 v200 v201 v202 v203 v204 v205 v206 v207 v208 v209 v210 v211 v212 v213 v214 v215 v216 v217 v218 v219 v220 v221 v222 v223 v224 v225 v226 v227 v228 v229 v230 v231 v232 v233 v234 v235 v236 v237 v238 v239 v240 v241 v242 v243 v244 v245 v246 v247 v248 v249 v250 v251 v252 v253 v254 v255 v256 v257 v258 v259 : Value)
    (hK : ∀ (W9 : World) (u4 u13 u14 u15 u16 u87 u88 u89 u90 u91 u92 u93 u94 u95 u96 u97 u98 u99 u100 u101 u102 u103 u104 u105 u106 u107 u108 u109 : Value), HrS w 0 0 n (fun _ => 0) 0 [] bt mt bh mh W9 → K { tmps := #[.int .i64 (n : Int), v1, v2, v3, u4, v5, v6, v7, v8, v9, .pointer (some ⟨bt, 0, none⟩), v11, v12, u13, u14, u15, u16, v17, v18, v19, v20, v21, v22, v23, v24, v25, v26, v27, v28, v29, v30, v31, v32, v33, v34, v35, v36, v37, v38, v39, v40, v41, v42, v43, v44, v45, v46, v47, v48, v49, v50, v51, v52, v53, v54, v55, v56, v57, v58, v59, v60, v61, v62, v63, v64, v65, v66, v67, v68, v69, v70, v71, v72, v73, v74, v75, v76, v77, v78, v79, v80, v81, v82, v83, v84, v85, v86, u87, u88, u89, u90, u91, u92, u93, u94, u95, u96, u97, u98, u99, u100, u101, u102, u103, u104, u105, u106, u107, u108, u109, v110, v111, v112, v113, v114, v115, v116, v117, v118, v119, v120, v121, v122, v123, v124, v125, v126, v127, v128, v129, v130, v131, v132, v133, v134, v135, v136, v137, v138, v139, v140, v141, v142, v143, v144, v145, v146, v147, v148, v149, v150, v151, v152, v153, v154, v155, v156, v157, v158, v159, v160, v161, v162, v163, v164, v165, v166, v167, v168, v169, v170, v171, v172, v173, v174, v175, v176, v177, v178, v179, v180, v181, v182, v183, v184, v185, v186, v187, v188, v189, v190, v191, v192, v193, v194, v195, v196, v197, v198, v199, v200, v201, v202, v203, v204, v205, v206, v207, v208, v209, v210, v211, v212, v213, v214, v215, v216, v217, v218, v219, v220, v221, v222, v223, v224, v225, v226, v227, v228, v229, v230, v231, v232, v233, v234, v235, v236, v237, v238, v239, v240, v241, v242, v243, v244, v245, v246, v247, v248, v249, v250, v251, v252, v253, v254, v255, v256, v257, v258, v259], defers := [] } W9) :
    Code.wp Tryd.prog C (Exit.then K E) { tmps := #[.int .i64 (n : Int), v1, v2, v3, v4, v5, v6, v7, v8, v9, .pointer (some ⟨bt, 0, none⟩), v11, v12, .int .i64 0, v14, v15, v16, v17, v18, v19, v20, v21, v22, v23, v24, v25, v26, v27, v28, v29, v30, v31, v32, v33, v34, v35, v36, v37, v38, v39, v40, v41, v42, v43, v44, v45, v46, v47, v48, v49, v50, v51, v52, v53, v54, v55, v56, v57, v58, v59, v60, v61, v62, v63, v64, v65, v66, v67, v68, v69, v70, v71, v72, v73, v74, v75, v76, v77, v78, v79, v80, v81, v82, v83, v84, v85, v86, v87, v88, v89, v90, v91, v92, v93, v94, v95, v96, v97, v98, v99, v100, v101, v102, v103, v104, v105, v106, v107, v108, v109, v110, v111, v112, v113, v114, v115, v116, v117, v118, v119, v120, v121, v122, v123, v124, v125, v126, v127, v128, v129, v130, v131, v132, v133, v134, v135, v136, v137, v138, v139, v140, v141, v142, v143, v144, v145, v146, v147, v148, v149, v150, v151, v152, v153, v154, v155, v156, v157, v158, v159, v160, v161, v162, v163, v164, v165, v166, v167, v168, v169, v170, v171, v172, v173, v174, v175, v176, v177, v178, v179, v180, v181, v182, v183, v184, v185, v186, v187, v188, v189, v190, v191, v192, v193, v194, v195, v196, v197, v198, v199, v200, v201, v202, v203, v204, v205, v206, v207, v208, v209, v210, v211, v212, v213, v214, v215, v216, v217, v218, v219, v220, v221, v222, v223, v224, v225, v226, v227, v228, v229, v230, v231, v232, v233, v234, v235, v236, v237, v238, v239, v240, v241, v242, v243, v244, v245, v246, v247, v248, v249, v250, v251, v252, v253, v254, v255, v256, v257, v258, v259], defers := [] } W0 := by
  subst hC
  conv =>
    arg 2
    unfold hrBlk
    unfold Tryd.f4
    simp only [Option.getD_some, blkAt]
  conv =>
    arg 4
    zeta
  simp (maxSteps := 10000000) only at hK
  have HK := hidO hK
  clear hK
  go_wp2_with fail
  go_loopw [13] (fun v13 wr => ∃ i : Nat, v13 = .int .i64 (i : Int) ∧ i ≤ n ∧ Hid (HrS w 0 0 i (fun _ => 0) 0 [] bt mt bh mh wr)) (fun v13 _ => (100 - intOf v13).toNat)
  case atStart => exact ⟨0, rfl, Nat.zero_le _, HS0⟩
  case round =>
    clear HS0
    obtain ⟨i, rfl, hin, HS⟩ := hrel
    by_cases hi : i < n
    · have hi1 : (i : Int) < (n : Int) := by omega
      go_upto_block 1 with fail
      refine hr_tell w wr i 0 [] bt mt bh mh _ _ _ (by kernel_rfl) HO HS HL (by omega) _ _ _ _ _ _ _ _ _ _ _ _ _ _ _ _ _ _ _ _ _ _ _ _ _ _ _ _ _ _ _ _ _ _ _ _ _ _ _ _ _ _ _ _ _ _ _ _ _ _ _ _ _ _ _ _ _ _ _ _ _ _ _ _ _ _ _ _ _ _ _ _ _ _ _ _ _ _ _ _ _ _ _ _ _ _ _ _ _ _ _ _ _ _ _ _ _ _ _ _ _ _ _ _ _ _ _ _ _ _ _ _ _ _ _ _ _ _ _ _ _ _ _ _ _ _ _ _ _ _ _ _ _ _ _ _ _ _ _ _ _ _ _ _ _ _ _ _ _ _ _ _ _ _ _ _ _ _ _ _ _ _ _ _ _ _ _ _ _ _ _ _ _ _ _ _ _ _ _ _ _ _ _ _ _ _ _ _ _ _ _ _ _ _ _ _ _ _ _ _ _ _ _ _ _ _ _ _ _ _ _ _ _ _ _ _ _ _ _ _ _ _ _ _ _ _ _ _ _ _ _ _ _ _ _ _ _ _ _ _ _ _ _ _ _ _ _ _ _ _ _ _ _ _ _ _ _ _ ?_
      intro W9 u14' u15' u16' u92' u93' u94' u95' u96' u97' u98' u99' u100' u101' u102' u103' u104' u105' u106' u107' u108' u109' h9
      have H9 := hidO h9
      clear h9 HS
      conv =>
        arg 1
        zeta
      try go_step
      go_wp2_with fail
      go_roundw
      case rel => exact ⟨i + 1, by simp, by omega, H9⟩
      case measure => simp only [intOf]; omega
    · have hi1 : ¬ (i : Int) < (n : Int) := by omega
      have HQ : Hid (i = n) := by show _ = _; omega
      clear hi
      go_wp2_with fail
      exact HK.out _ _ _ _ _ _ _ _ _ _ _ _ _ _ _ _ _ _ _ _ _ _ _ _ _ _ _ _ _ (by have := HS.out; rw [HQ.out] at this; exact this)
theorem TInv.mono {h h' n s : Nat} {W : List Nat} {ds : Nat → Nat} (t : TInv h n s W ds) (hh : h ≤ h') : TInv h' n s W ds := fun j h1 h2 => t j (by omega) h2
set_option maxRecDepth 100000 in
set_option maxHeartbeats 32000000 in
theorem hr_loop8 (w W0 : World) (n s0 h0 t0 : Nat) (ds0 : Nat → Nat) (Wt0 : List Nat) (bt mt bh mh : Nat) (K : Act → World → Prop) (E : Exit → Act → World → Prop) (C : Code) (hC : C = hrBlk 8)
    (HO : Hid (HrO w bt mt bh mh)) (HS0 : Hid (HrS w t0 h0 n ds0 s0 Wt0 bt mt bh mh W0)) (HL : Hid (∀ W, Below w.heap.size w W → Lives W)) (hn : n ≤ 40) (HOK0 : Hid (HOk n s0 Wt0)) (hh0 : h0 ≤ s0) (hW0 : Wt0.length ≤ 400) (ht0 : t0 ≤ 40) (HD0 : Hid (∀ j, ds0 j ≤ 42))
    (v0 v1 v2 v3 v4 v5 v6 v7 v8 v9 v11 v13 v14 v15 v16 v18 v19 v20 v21 v22 v23 v24 v25 v26 v28 v29 v30 v31 v32 v33 v34 v35 v36 v37 v38 v39 v40 v41 v42 v43 v44 v45 v46 v47 v48 v49 v50 v51 v52 v53 v54 v55 v56 v57 v58 v59 v60 v61 v62 v63 v64 v65 v66 v67 v68 v69 v70 v71 v72 v73 v74 v75 v76 v77 v78 v79 v80 v81 v82 v83 v84 v85 v86 v87 v88 v89 v90 v91 v92 v93 v94 v95 v96 v97 v98 v99 v100 v101 v102 v103 v104 v105 v106 v107 v108 v109 v110 v111 v112 v113 v114 v115 v116 v117 v118 v119 v120 v121 v122 v123 v124 v125 v126 v127 v128 v129 v130 v131 v132 v133 v134 v135 v136 v137 v138 v139 v140 v141 v142 v143 v144 v145 v146 v147 v148 v149 v150 v151 v152 v153 v154 v155 v156 v157 v158 v159 v160 v161 v162 v163 v164 v165 v166 v167 v168 v169 v170 v171 v172 v173 v174 v175 v176 v177 v178 v179 v180 v181 v182 v183 v184 v185 v186 v187 v188 v189 v190 v191 v192 v193 v194 v195 v196 v197 v198 v199 v200 v201 v202 v203 v204 v205 v206 v207 v208 v209 v210 v211 v212 v213 v214 v215 v216 v217 v218 v219 v220 v221 v222 v223 v224 v225 v226 v227 v228 v229 v230 v231 v232 v233 v234 v235 v236 v237 v238 v239 v240 v241 v242 v243 v244 v245 v246 v247 v248 v249 v250 v251 v252 v253 v254 v255 v256 v257 v258 v259 : Value)
    (hK : ∀ (t9 : Nat) (ds9 : Nat → Nat) (Wt9 : List Nat) (W9 : World) (u4 u27 u28 u29 u30 u31 u32 u207 u208 u209 u210 u211 u212 u213 u214 u215 u216 u217 u218 u219 u220 u221 u222 u223 u224 u225 u226 u227 u228 u229 u230 u231 u232 u233 u234 u235 u236 u237 u238 u239 u240 u241 u242 u243 u244 u245 : Value), HrS w t9 n n ds9 n Wt9 bt mt bh mh W9 → K { tmps := #[v0, v1, v2, v3, u4, v5, v6, v7, v8, v9, .pointer (some ⟨bt, 0, none⟩), v11, .pointer (some ⟨bh, 0, none⟩), v13, v14, v15, v16, .int .i64 (n : Int), v18, v19, v20, v21, v22, v23, v24, v25, v26, u27, u28, u29, u30, u31, u32, v33, v34, v35, v36, v37, v38, v39, v40, v41, v42, v43, v44, v45, v46, v47, v48, v49, v50, v51, v52, v53, v54, v55, v56, v57, v58, v59, v60, v61, v62, v63, v64, v65, v66, v67, v68, v69, v70, v71, v72, v73, v74, v75, v76, v77, v78, v79, v80, v81, v82, v83, v84, v85, v86, v87, v88, v89, v90, v91, v92, v93, v94, v95, v96, v97, v98, v99, v100, v101, v102, v103, v104, v105, v106, v107, v108, v109, v110, v111, v112, v113, v114, v115, v116, v117, v118, v119, v120, v121, v122, v123, v124, v125, v126, v127, v128, v129, v130, v131, v132, v133, v134, v135, v136, v137, v138, v139, v140, v141, v142, v143, v144, v145, v146, v147, v148, v149, v150, v151, v152, v153, v154, v155, v156, v157, v158, v159, v160, v161, v162, v163, v164, v165, v166, v167, v168, v169, v170, v171, v172, v173, v174, v175, v176, v177, v178, v179, v180, v181, v182, v183, v184, v185, v186, v187, v188, v189, v190, v191, v192, v193, v194, v195, v196, v197, v198, v199, v200, v201, v202, v203, v204, v205, v206, u207, u208, u209, u210, u211, u212, u213, u214, u215, u216, u217, u218, u219, u220, u221, u222, u223, u224, u225, u226, u227, u228, u229, u230, u231, u232, u233, u234, u235, u236, u237, u238, u239, u240, u241, u242, u243, u244, u245, v246, v247, v248, v249, v250, v251, v252, v253, v254, v255, v256, v257, v258, v259], defers := [] } W9) :
    Code.wp Tryd.prog C (Exit.then K E) { tmps := #[v0, v1, v2, v3, v4, v5, v6, v7, v8, v9, .pointer (some ⟨bt, 0, none⟩), v11, .pointer (some ⟨bh, 0, none⟩), v13, v14, v15, v16, .int .i64 (s0 : Int), v18, v19, v20, v21, v22, v23, v24, v25, v26, .int .i64 40, v28, v29, v30, v31, v32, v33, v34, v35, v36, v37, v38, v39, v40, v41, v42, v43, v44, v45, v46, v47, v48, v49, v50, v51, v52, v53, v54, v55, v56, v57, v58, v59, v60, v61, v62, v63, v64, v65, v66, v67, v68, v69, v70, v71, v72, v73, v74, v75, v76, v77, v78, v79, v80, v81, v82, v83, v84, v85, v86, v87, v88, v89, v90, v91, v92, v93, v94, v95, v96, v97, v98, v99, v100, v101, v102, v103, v104, v105, v106, v107, v108, v109, v110, v111, v112, v113, v114, v115, v116, v117, v118, v119, v120, v121, v122, v123, v124, v125, v126, v127, v128, v129, v130, v131, v132, v133, v134, v135, v136, v137, v138, v139, v140, v141, v142, v143, v144, v145, v146, v147, v148, v149, v150, v151, v152, v153, v154, v155, v156, v157, v158, v159, v160, v161, v162, v163, v164, v165, v166, v167, v168, v169, v170, v171, v172, v173, v174, v175, v176, v177, v178, v179, v180, v181, v182, v183, v184, v185, v186, v187, v188, v189, v190, v191, v192, v193, v194, v195, v196, v197, v198, v199, v200, v201, v202, v203, v204, v205, v206, v207, v208, v209, v210, v211, v212, v213, v214, v215, v216, v217, v218, v219, v220, v221, v222, v223, v224, v225, v226, v227, v228, v229, v230, v231, v232, v233, v234, v235, v236, v237, v238, v239, v240, v241, v242, v243, v244, v245, v246, v247, v248, v249, v250, v251, v252, v253, v254, v255, v256, v257, v258, v259], defers := [] } W0 := by
  subst hC
  conv =>
    arg 2
    unfold hrBlk
    unfold Tryd.f4
    simp only [Option.getD_some, blkAt]
  conv =>
    arg 4
    zeta
  simp (maxSteps := 10000000) only at hK
  have HK := hidO hK
  clear hK
  go_wp2_with fail
  go_loopw [17, 27] (fun v17 v27 wr => ∃ (i t h s : Nat) (ds : Nat → Nat) (Wt : List Nat), v17 = .int .i64 (s : Int) ∧ v27 = .int .i64 (i : Int) ∧ 40 ≤ i ∧ i ≤ 50 ∧ t ≤ i ∧ h ≤ s ∧ Hid (HOk n s Wt) ∧ Wt.length ≤ 400 + 100 * (i - 40) ∧ Hid (TInv h n s Wt ds) ∧ Hid (43 ≤ i → s = n) ∧ Hid (41 ≤ i → h = s) ∧ Hid (∀ j, ds j ≤ 2000) ∧ Hid (HrS w t h n ds s Wt bt mt bh mh wr)) (fun _ v27 _ => (100 - intOf v27).toNat)
  case atStart => exact ⟨40, t0, h0, s0, ds0, Wt0, rfl, rfl, by omega, by omega, ht0, hh0, HOK0, by omega, (fun j _ _ => .inr (HD0.out j)), (fun h => by omega), (fun h => by omega), (fun j => by have := HD0.out j; omega), HS0⟩
  case round =>
    clear HS0 HOK0 HD0
    obtain ⟨i, t, h, s, ds, Wt, rfl, rfl, hi40, hi50, hti, hhs, HOK, hWl, HT, HE1, HE2, HDB, HS⟩ := hrel
    by_cases hi : i < 50
    · have hi1 : (i : Int) < 50 := by omega
      obtain ⟨hk1, hk2, _⟩ := hearL_ok (n := n) (dueJ h n i ds).reverse s Wt HOK.out (fun j hj => (mem_dueJ.1 (List.mem_reverse.1 hj)).1.2)
      have hT2 := (tail_step (i := i) hi40 HOK.out HT.out).mono (Nat.le_trans hhs hk2)
      have HX : Hid (43 ≤ i + 1 → (hearL (dueJ h n i ds).reverse s Wt).1 = n) := fun h43 => by
        by_cases e : i = 42
        · subst e
          exact tail_done hhs HOK.out HT.out
        · have e1 := HE1.out (by omega)
          have e2 := hk1.1
          omega
      have HDB9 : Hid (∀ j, dsN i ds j ≤ 2000) := fun j => by
        have := HDB.out j
        unfold dsN
        split <;> omega
      have HK1 := hidO hk1
      have HT2 := hidO hT2
      clear hk1 hT2
      go_upto_block 9 with fail
      refine hr_round9 w wr t h n s i ds Wt bt mt bh mh _ _ _ (by kernel_rfl) HO HS HL (by omega) HOK hhs hti (by omega) HDB (by omega) _ _ _ _ _ _ _ _ _ _ _ _ _ _ _ _ _ _ _ _ _ _ _ _ _ _ _ _ _ _ _ _ _ _ _ _ _ _ _ _ _ _ _ _ _ _ _ _ _ _ _ _ _ _ _ _ _ _ _ _ _ _ _ _ _ _ _ _ _ _ _ _ _ _ _ _ _ _ _ _ _ _ _ _ _ _ _ _ _ _ _ _ _ _ _ _ _ _ _ _ _ _ _ _ _ _ _ _ _ _ _ _ _ _ _ _ _ _ _ _ _ _ _ _ _ _ _ _ _ _ _ _ _ _ _ _ _ _ _ _ _ _ _ _ _ _ _ _ _ _ _ _ _ _ _ _ _ _ _ _ _ _ _ _ _ _ _ _ _ _ _ _ _ _ _ _ _ _ _ _ _ _ _ _ _ _ _ _ _ _ _ _ _ _ _ _ _ _ _ _ _ _ _ _ _ _ _ _ _ _ _ _ _ _ _ _ _ _ _ _ _ _ _ _ _ _ _ _ _ _ _ _ _ _ _ _ _ _ _ _ _ _ _ _ _ _ _ _ _ _ _ _ _ _ _ _ ?_
      intro W9 u4' u28' u29' u30' u31' u32' u211' u212' u213' u214' u215' u216' u217' u218' u219' u220' u221' u222' u223' u224' u225' u226' u227' u228' u229' u230' u231' u232' u233' u234' u235' u236' u237' u238' u239' u240' u241' u242' u243' u244' u245' h9 h10
      have H9 := hidO h9
      clear h9 HS HOK HT HE1 HE2
      conv =>
        arg 1
        zeta
      try go_step
      obtain ⟨R, hR⟩ : ∃ R, hearL (dueJ h n i ds).reverse s Wt = R := ⟨_, rfl⟩
      rw [hR] at H9 h10 HX HK1 HT2 hk2
      rw [hR]
      obtain ⟨s2, Wt2⟩ := R
      simp only at H9 h10 HX HK1 HT2 hk2
      simp only
      clear hR
      go_wp2_with fail
      go_roundw
      case rel => exact ⟨i + 1, i, s2, s2, dsN i ds, Wt2, rfl, by simp, by omega, by omega, by omega, Nat.le_refl _, HK1, by omega, HT2, HX, (fun _ => rfl), HDB9, H9⟩
      case measure => simp only [intOf]; omega
    · have hi1 : ¬ (i : Int) < 50 := by omega
      have e1 := HE1.out (by omega)
      have e2 := HE2.out (by omega)
      have HQ : Hid (HrS w t n n ds n Wt bt mt bh mh wr) := by have k := HS.out; rw [e2, e1] at k; exact k
      have HQ2 : Hid (s = n) := e1
      clear hi e1 e2
      go_wp2_with fail
      have HK9 := HK.out t ds Wt wr
      rw [← HQ2.out] at HK9
      exact HK9 _ _ _ _ _ _ _ _ _ _ _ _ _ _ _ _ _ _ _ _ _ _ _ _ _ _ _ _ _ _ _ _ _ _ _ _ _ _ _ _ _ _ _ _ _ _ (by rw [HQ2.out]; exact HQ.out)
end Go.Proofs.YtkkefgoidjjehaaDoor
