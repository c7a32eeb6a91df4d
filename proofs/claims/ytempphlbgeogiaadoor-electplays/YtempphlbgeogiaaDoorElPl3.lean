/- ElectPlays: Demote, Wants and Role of both. -/
import Derived.Test.YtempphlbgeogiaaDoorElPl0
namespace Go.Proofs.YtempphlbgeogiaaDoor
open Go.RowKit
set_option linter.unusedVariables false

theorem onlyDrew {g : Nat} {a w : World} (h : Only g a w) : Only g a w.drew := ⟨h.os, h.tape, h.output, h.size, h.block⟩
set_option maxRecDepth 100000 in
set_option maxHeartbeats 32000000 in
theorem pl_sw4 (w wc : World) (A X M R V : Nat) (a : Ar) (v : Vt) (m : Ra) (r : Rv) (s1 s2 : Int) (K : Act → World → Prop) (E : Exit → Act → World → Prop) (C : Code) (hC : C = plBlk 4)
    (HO : Hid (ElO w A X M R)) (HT : Hid (ElT w A X M R a v m r wc)) (HN : Hid (ElN a v m r)) (HV : Hid (VrAt wc V 4 s1 s2)) (hRV : R < V) (HE : Hid (∀ W, Below w.heap.size w W → ErrLaid W))
    (v0 v1 v2 v3 v4 v5 v6 v7 v8 v9 v10 v12 v14 v16 v17 v20 v22 v24 v25 v26 v27 v28 v29 v30 v31 v32 v33 v34 v35 v36 v37 v38 v39 v40 v41 v42 v43 v44 v45 v46 v47 v48 v49 v50 v51 v52 v53 v54 v55 v56 v57 v58 v59 v60 v61 v62 v63 v64 v65 v66 v67 v68 v69 v70 v71 v72 v73 v74 v75 v76 v77 v78 v79 v80 v81 v82 v83 v84 v85 v86 v87 v88 v89 v90 v91 v92 v93 v94 v95 v96 v97 v98 v99 v100 v101 v102 v103 v104 v105 v106 v107 v108 v109 v110 v111 v112 v113 v114 v115 v116 v117 v118 v119 v120 v121 v122 v123 v124 v125 v126 v127 v128 v129 v130 v131 v132 v133 v134 v135 v136 v137 v138 v139 v140 v141 v142 v144 v145 v146 v147 v148 v149 v150 v151 v152 v153 v154 v155 v156 v157 v158 v159 v160 v161 v162 v163 v164 v165 v166 v167 v168 v169 v170 v171 v172 v173 v174 v175 v176 v177 v178 v179 v180 v181 v182 v183 v184 v185 v186 v187 v188 v189 v190 v191 v192 v193 v194 v195 v196 v197 v198 v199 v200 v201 v202 v203 v204 v205 v206 v207 v208 v209 v210 v211 v212 v213 v214 v215 v216 v217 v218 v219 v220 v221 v222 v223 v224 v225 v226 v227 v228 v229 v230 v231 v232 v233 v234 v235 v236 v237 v238 v239 v240 v241 v242 v243 v244 v245 v246 v247 v248 v249 v250 v251 v252 v253 v254 v255 v256 v257 v258 v259 v260 v261 v262 v263 v264 v265 v266 v267 v268 v269 v270 v271 v272 v273 v274 v275 v276 v277 v278 v279 v280 v281 v282 v283 v284 v285 v286 v287 v288 v289 v290 v291 v292 v293 v294 v295 v296 v297 v298 v299 v300 v301 v302 v303 v304 v305 v306 v307 v308 v309 v310 v311 v312 v313 v314 v315 v316 v317 v318 v319 v320 v321 v322 v323 v324 v325 v326 v327 v328 v329 v330 v331 v332 v333 v334 v335 v336 v337 v338 v339 v340 v341 v342 v343 v344 v345 v346 v347 v348 v349 v350 v351 v352 v353 v354 v355 v356 v357 v358 v359 v360 v361 v362 v363 v364 v365 : Value)
    (hK : ∀ (W9 : World) (u13 u24 u25 u26 u27 u28 u29 u30 u31 u32 u33 u144 u145 u146 u147 u148 u149 u150 u151 u152 u153 u154 u155 u156 u157 u158 u159 u160 u161 u162 u163 u164 u165 u166 u167 u168 u169 u170 u171 u172 u173 u174 u175 u176 u177 u178 u179 u180 u181 u182 u183 u184 u185 u186 u187 u188 u189 u190 u191 u192 u193 u194 u195 u196 u197 u198 u199 u200 u201 u202 u203 u204 u205 u206 u207 u208 u209 u210 u211 u212 u213 u214 u215 u216 u217 u218 u219 u220 u221 u222 u223 u224 u225 u226 u227 u228 u229 u230 u231 u232 u233 u234 u235 u236 u237 u238 u239 u240 u241 u242 u243 u244 u245 u246 u247 u248 u249 u250 u251 u252 u253 u254 u255 u256 u257 u258 u259 u260 u261 u262 u263 u264 u265 u266 u267 u268 u269 u270 u271 u272 u273 u274 u275 u276 u277 u278 u279 u280 u281 u282 u283 u284 u285 u286 u287 u288 u289 u290 u291 u292 u293 u294 u295 u296 u297 u298 u299 u300 u301 u302 u303 u304 u305 u306 u307 u308 u309 u310 u311 u312 u313 u314 u315 u316 u317 u318 u319 u320 u321 u322 u323 u324 u325 u326 u327 u328 u329 u330 u331 u332 u333 u334 u335 u336 u337 u338 u339 u340 u341 u342 u343 u344 u345 u346 u347 u348 u349 u350 u351 u352 u353 u354 : Value), ElS w A X M R W9 → K { tmps := #[v0, v1, v2, v3, v4, v5, v6, v7, v8, v9, v10, .pointer (some ⟨A, 0, none⟩), v12, u13, v14, .pointer (some ⟨X, 0, none⟩), v16, v17, .pointer (some ⟨M, 0, none⟩), .pointer (some ⟨R, 0, none⟩), v20, .pointer (some ⟨V, 0, none⟩), v22, .bool true, u24, u25, u26, u27, u28, u29, u30, u31, u32, u33, v34, v35, v36, v37, v38, v39, v40, v41, v42, v43, v44, v45, v46, v47, v48, v49, v50, v51, v52, v53, v54, v55, v56, v57, v58, v59, v60, v61, v62, v63, v64, v65, v66, v67, v68, v69, v70, v71, v72, v73, v74, v75, v76, v77, v78, v79, v80, v81, v82, v83, v84, v85, v86, v87, v88, v89, v90, v91, v92, v93, v94, v95, v96, v97, v98, v99, v100, v101, v102, v103, v104, v105, v106, v107, v108, v109, v110, v111, v112, v113, v114, v115, v116, v117, v118, v119, v120, v121, v122, v123, v124, v125, v126, v127, v128, v129, v130, v131, v132, v133, v134, v135, v136, v137, v138, v139, v140, v141, v142, .int .i64 4, u144, u145, u146, u147, u148, u149, u150, u151, u152, u153, u154, u155, u156, u157, u158, u159, u160, u161, u162, u163, u164, u165, u166, u167, u168, u169, u170, u171, u172, u173, u174, u175, u176, u177, u178, u179, u180, u181, u182, u183, u184, u185, u186, u187, u188, u189, u190, u191, u192, u193, u194, u195, u196, u197, u198, u199, u200, u201, u202, u203, u204, u205, u206, u207, u208, u209, u210, u211, u212, u213, u214, u215, u216, u217, u218, u219, u220, u221, u222, u223, u224, u225, u226, u227, u228, u229, u230, u231, u232, u233, u234, u235, u236, u237, u238, u239, u240, u241, u242, u243, u244, u245, u246, u247, u248, u249, u250, u251, u252, u253, u254, u255, u256, u257, u258, u259, u260, u261, u262, u263, u264, u265, u266, u267, u268, u269, u270, u271, u272, u273, u274, u275, u276, u277, u278, u279, u280, u281, u282, u283, u284, u285, u286, u287, u288, u289, u290, u291, u292, u293, u294, u295, u296, u297, u298, u299, u300, u301, u302, u303, u304, u305, u306, u307, u308, u309, u310, u311, u312, u313, u314, u315, u316, u317, u318, u319, u320, u321, u322, u323, u324, u325, u326, u327, u328, u329, u330, u331, u332, u333, u334, u335, u336, u337, u338, u339, u340, u341, u342, u343, u344, u345, u346, u347, u348, u349, u350, u351, u352, u353, u354, v355, v356, v357, v358, v359, v360, v361, v362, v363, v364, v365], defers := [] } W9) :
    Code.wp Tryd.prog C (Exit.then K E) { tmps := #[v0, v1, v2, v3, v4, v5, v6, v7, v8, v9, v10, .pointer (some ⟨A, 0, none⟩), v12, .int .i64 (tmE r.now s1), v14, .pointer (some ⟨X, 0, none⟩), v16, v17, .pointer (some ⟨M, 0, none⟩), .pointer (some ⟨R, 0, none⟩), v20, .pointer (some ⟨V, 0, none⟩), v22, .bool true, v24, v25, v26, v27, v28, v29, v30, v31, v32, v33, v34, v35, v36, v37, v38, v39, v40, v41, v42, v43, v44, v45, v46, v47, v48, v49, v50, v51, v52, v53, v54, v55, v56, v57, v58, v59, v60, v61, v62, v63, v64, v65, v66, v67, v68, v69, v70, v71, v72, v73, v74, v75, v76, v77, v78, v79, v80, v81, v82, v83, v84, v85, v86, v87, v88, v89, v90, v91, v92, v93, v94, v95, v96, v97, v98, v99, v100, v101, v102, v103, v104, v105, v106, v107, v108, v109, v110, v111, v112, v113, v114, v115, v116, v117, v118, v119, v120, v121, v122, v123, v124, v125, v126, v127, v128, v129, v130, v131, v132, v133, v134, v135, v136, v137, v138, v139, v140, v141, v142, .int .i64 4, v144, v145, v146, v147, v148, v149, v150, v151, v152, v153, v154, v155, v156, v157, v158, v159, v160, v161, v162, v163, v164, v165, v166, v167, v168, v169, v170, v171, v172, v173, v174, v175, v176, v177, v178, v179, v180, v181, v182, v183, v184, v185, v186, v187, v188, v189, v190, v191, v192, v193, v194, v195, v196, v197, v198, v199, v200, v201, v202, v203, v204, v205, v206, v207, v208, v209, v210, v211, v212, v213, v214, v215, v216, v217, v218, v219, v220, v221, v222, v223, v224, v225, v226, v227, v228, v229, v230, v231, v232, v233, v234, v235, v236, v237, v238, v239, v240, v241, v242, v243, v244, v245, v246, v247, v248, v249, v250, v251, v252, v253, v254, v255, v256, v257, v258, v259, v260, v261, v262, v263, v264, v265, v266, v267, v268, v269, v270, v271, v272, v273, v274, v275, v276, v277, v278, v279, v280, v281, v282, v283, v284, v285, v286, v287, v288, v289, v290, v291, v292, v293, v294, v295, v296, v297, v298, v299, v300, v301, v302, v303, v304, v305, v306, v307, v308, v309, v310, v311, v312, v313, v314, v315, v316, v317, v318, v319, v320, v321, v322, v323, v324, v325, v326, v327, v328, v329, v330, v331, v332, v333, v334, v335, v336, v337, v338, v339, v340, v341, v342, v343, v344, v345, v346, v347, v348, v349, v350, v351, v352, v353, v354, v355, v356, v357, v358, v359, v360, v361, v362, v363, v364, v365], defers := [] } wc := by
  subst hC
  conv =>
    arg 2
    unfold plBlk
    unfold Tryd.f3
    simp only [Option.getD_some, blkAt]
  conv =>
    arg 4
    zeta
  simp (maxSteps := 10000000) only at hK
  have HK := hidO hK
  clear hK
  have o1 := HO.out.o1
  have o2 := HO.out.o2
  have o3 := HO.out.o3
  have o4 := HO.out.o4
  generalize tmE r.now s1 = ee
  obtain ⟨⟨c0, c1, c2⟩, _⟩ := vr_cells HV.out
  have HQ : Hid (∀ W, VtAt W X v → Calls Tryd.prog 15 #[.pointer (some ⟨X, 0, none⟩), .int .i64 s2] W fun e w' => e = .returned (elV (demE s2)) ∧ VtAt w' X (demV v s2) ∧ Turn (fun i => i = X) W w') := fun W hW => dem_any X v s2 W hW HN.out.ov
  by_cases hd : s2 < -255 ∨ 255 < s2
  · have he : demE s2 = 1 := if_pos hd
    have hs : demV v s2 = v := by unfold demV; rw [he]; rfl
    rw [he, hs] at HQ
    have q1 := HQ.out wc HT.out.kx
    rcases (by omega : s2 < -255 ∨ (¬ s2 < -255 ∧ 255 < s2)) with h1 | ⟨h1, h2⟩
    all_goals
      clear hd he hs HQ
      go_wp2_with (first
        | (go_at_call 15; go_must ((with_reducible refine q1.mono ?_); rintro e' W2 ⟨rfl, k2, t2⟩; have T2 := HT.out.setX HO.out k2 t2; have q3 := el_same 1 W2 (HE.out W2 T2.bel); have HT2 := hidP T2; clear k2 t2 T2))
        | (go_at_call 6; go_must ((with_reducible refine q3.mono ?_); rintro e' W3 ⟨rfl, b3⟩; have HT3 := hidP (HT2.out.below HO.out b3); clear b3)))
      exact HK.out _ _ _ _ _ _ _ _ _ _ _ _ _ _ _ _ _ _ _ _ _ _ _ _ _ _ _ _ _ _ _ _ _ _ _ _ _ _ _ _ _ _ _ _ _ _ _ _ _ _ _ _ _ _ _ _ _ _ _ _ _ _ _ _ _ _ _ _ _ _ _ _ _ _ _ _ _ _ _ _ _ _ _ _ _ _ _ _ _ _ _ _ _ _ _ _ _ _ _ _ _ _ _ _ _ _ _ _ _ _ _ _ _ _ _ _ _ _ _ _ _ _ _ _ _ _ _ _ _ _ _ _ _ _ _ _ _ _ _ _ _ _ _ _ _ _ _ _ _ _ _ _ _ _ _ _ _ _ _ _ _ _ _ _ _ _ _ _ _ _ _ _ _ _ _ _ _ _ _ _ _ _ _ _ _ _ _ _ _ _ _ _ _ _ _ _ _ _ _ _ _ _ _ _ _ _ _ _ _ _ _ _ _ _ _ _ _ _ _ _ _ _ _ ⟨_, _, _, _, HT3.out, HN.out⟩
  · have he : demE s2 = 0 := if_neg hd
    have hs : demV v s2 = { v with prio := demI v.prio s2 } := by unfold demV; rw [he]; rfl
    have ov := HN.out.ov.dem s2
    rw [he, hs] at HQ
    rw [hs] at ov
    have HN' : Hid (ElN a _ m _) := ⟨HN.out.oa, ov, HN.out.orr.dem (demI v.prio s2), HN.out.sa, HN.out.sv.dem (demI v.prio s2)⟩
    have ep := HN.out.sv.p
    have p1 := HN.out.ov.p1
    have p2 := HN.out.ov.p2
    rw [ep] at p1 p2
    have hdI : demI v.prio s2 = demI r.prio s2 := by rw [ep]
    have h1 : -255 ≤ s2 := by omega
    have h2 : s2 ≤ 255 := by omega
    obtain ⟨⟨_, d1, _⟩, f1, _⟩ := rv_cells HT.out.kr
    have HR : Hid (∀ W1 p, Only R wc W1 → RvAt W1 R { r with prio := p } → demI r.prio s2 = p → ElT w A X M R a v m { r with prio := demI v.prio s2 } W1 ∧ VrAt W1 V 4 s1 s2) := fun W1 p ho e ep => by
      have t1 : Turn (fun i => i = R) wc W1 := Turn.of_only ho rfl
      refine ⟨HT.out.setR HO.out ?_ t1, HV.out.turn t1 (by omega)⟩
      rw [hdI, ep]
      exact e
    have HR0 : Hid (∀ W1, Only R wc W1 → VrAt W1 V 4 s1 s2) := fun W1 ho => HV.out.turn (F := fun i => i = R) (Turn.of_only ho rfl) (by omega)
    have hRV2 : V ≠ R := by omega
    have HKR := hidP (rv_prio HT.out.kr (r.prio - s2))
    generalize r.prio = pr at HR d1 p1 p2 hdI HKR
    clear hd he hs ov ep
    obtain ⟨w0, hw0⟩ : ∃ w0, w0 = wc := ⟨_, rfl⟩
    subst hw0
    go_upto_region 66 with fail
    go_cut [23] from 144 to 354 (fun v23 wx => v23 = .bool true ∧ Hid (Only R w0 wx ∧ wx.heap[R]? = (w0.setCell ⟨R, 1, none⟩ (.int .i64 (pr - s2))).heap[R]?))
    case first =>
      go_region
      all_goals
        go_wp2_with fail
        go_meet
        exact ⟨rfl, onlyDrew ((Only.refl _ _).setCell _ _), rfl⟩
    case rest =>
      obtain ⟨rfl, H1⟩ := hcut
      have k0 : RvAt wc R _ := H1.out.2.trans HKR.out
      clear c0 c1 c2 d1 f1
      obtain ⟨⟨_, d1, _⟩, f1, _⟩ := rv_cells k0
      obtain ⟨⟨c0, c1, c2⟩, _⟩ := vr_cells (HR0.out wc H1.out.1)
      have HK0 := hidP k0
      have hdm : demI pr s2 = min (max (pr - s2) 0) 255 := rfl
      clear k0 HKR
      rcases (by omega : (pr - s2 < 0) ∨ (¬ pr - s2 < 0 ∧ ¬ 255 < pr - s2) ∨ (¬ pr - s2 < 0 ∧ 255 < pr - s2)) with g1 | ⟨g1, g2⟩ | ⟨g1, g2⟩
      · obtain ⟨T1, V1⟩ := HR.out (wc.setCell ⟨R, 1, none⟩ (.int .i64 0)) 0 (H1.out.1.setCell _ _) (rv_prio HK0.out 0) (by rw [hdm]; omega)
        have HT1 := hidP T1
        have HV1 := hidP V1
        clear hdm T1 V1
        go_upto_region 71 with fail
        obtain ⟨W1, hW1⟩ : ∃ W1, (wc.setCell ⟨R, 1, none⟩ (.int .i64 0)) = W1 := ⟨_, rfl⟩
        rw [hW1] at HT1 HV1
        rw [hW1]
        clear hW1
        clear c0 c1 c2
        obtain ⟨⟨c0, c1, c2⟩, _⟩ := vr_cells HV1.out
        have q1 := HQ.out W1 HT1.out.kx
        clear HR HR0 HQ H1 HK0 d1 f1
        go_wp2_with (first
          | (go_at_call 15; go_must ((with_reducible refine q1.mono ?_); rintro e' W2 ⟨rfl, k2, t2⟩; have T2 := HT1.out.setX HO.out k2 t2; have q3 := el_same 0 W2 (HE.out W2 T2.bel); have HT2 := hidP T2; clear k2 t2 T2))
          | (go_at_call 6; go_must ((with_reducible refine q3.mono ?_); rintro e' W3 ⟨rfl, b3⟩; have HT3 := hidP (HT2.out.below HO.out b3); clear b3)))
        exact HK.out _ _ _ _ _ _ _ _ _ _ _ _ _ _ _ _ _ _ _ _ _ _ _ _ _ _ _ _ _ _ _ _ _ _ _ _ _ _ _ _ _ _ _ _ _ _ _ _ _ _ _ _ _ _ _ _ _ _ _ _ _ _ _ _ _ _ _ _ _ _ _ _ _ _ _ _ _ _ _ _ _ _ _ _ _ _ _ _ _ _ _ _ _ _ _ _ _ _ _ _ _ _ _ _ _ _ _ _ _ _ _ _ _ _ _ _ _ _ _ _ _ _ _ _ _ _ _ _ _ _ _ _ _ _ _ _ _ _ _ _ _ _ _ _ _ _ _ _ _ _ _ _ _ _ _ _ _ _ _ _ _ _ _ _ _ _ _ _ _ _ _ _ _ _ _ _ _ _ _ _ _ _ _ _ _ _ _ _ _ _ _ _ _ _ _ _ _ _ _ _ _ _ _ _ _ _ _ _ _ _ _ _ _ _ _ _ _ _ _ _ _ _ _ ⟨_, _, _, _, HT3.out, HN'.out⟩
      · obtain ⟨T1, V1⟩ := HR.out wc (pr - s2) H1.out.1 HK0.out (by rw [hdm]; omega)
        have HT1 := hidP T1
        have HV1 := hidP V1
        clear hdm T1 V1
        go_upto_region 71 with fail
        obtain ⟨W1, hW1⟩ : ∃ W1, W1 = wc := ⟨_, rfl⟩
        subst hW1
        clear c0 c1 c2
        obtain ⟨⟨c0, c1, c2⟩, _⟩ := vr_cells HV1.out
        have q1 := HQ.out W1 HT1.out.kx
        clear HR HR0 HQ H1 HK0 d1 f1
        go_wp2_with (first
          | (go_at_call 15; go_must ((with_reducible refine q1.mono ?_); rintro e' W2 ⟨rfl, k2, t2⟩; have T2 := HT1.out.setX HO.out k2 t2; have q3 := el_same 0 W2 (HE.out W2 T2.bel); have HT2 := hidP T2; clear k2 t2 T2))
          | (go_at_call 6; go_must ((with_reducible refine q3.mono ?_); rintro e' W3 ⟨rfl, b3⟩; have HT3 := hidP (HT2.out.below HO.out b3); clear b3)))
        exact HK.out _ _ _ _ _ _ _ _ _ _ _ _ _ _ _ _ _ _ _ _ _ _ _ _ _ _ _ _ _ _ _ _ _ _ _ _ _ _ _ _ _ _ _ _ _ _ _ _ _ _ _ _ _ _ _ _ _ _ _ _ _ _ _ _ _ _ _ _ _ _ _ _ _ _ _ _ _ _ _ _ _ _ _ _ _ _ _ _ _ _ _ _ _ _ _ _ _ _ _ _ _ _ _ _ _ _ _ _ _ _ _ _ _ _ _ _ _ _ _ _ _ _ _ _ _ _ _ _ _ _ _ _ _ _ _ _ _ _ _ _ _ _ _ _ _ _ _ _ _ _ _ _ _ _ _ _ _ _ _ _ _ _ _ _ _ _ _ _ _ _ _ _ _ _ _ _ _ _ _ _ _ _ _ _ _ _ _ _ _ _ _ _ _ _ _ _ _ _ _ _ _ _ _ _ _ _ _ _ _ _ _ _ _ _ _ _ _ _ _ _ _ _ _ ⟨_, _, _, _, HT3.out, HN'.out⟩
      · obtain ⟨T1, V1⟩ := HR.out (wc.setCell ⟨R, 1, none⟩ (.int .i64 255)) 255 (H1.out.1.setCell _ _) (rv_prio HK0.out 255) (by rw [hdm]; omega)
        have HT1 := hidP T1
        have HV1 := hidP V1
        clear hdm T1 V1
        go_upto_region 71 with fail
        obtain ⟨W1, hW1⟩ : ∃ W1, (wc.setCell ⟨R, 1, none⟩ (.int .i64 255)) = W1 := ⟨_, rfl⟩
        rw [hW1] at HT1 HV1
        rw [hW1]
        clear hW1
        clear c0 c1 c2
        obtain ⟨⟨c0, c1, c2⟩, _⟩ := vr_cells HV1.out
        have q1 := HQ.out W1 HT1.out.kx
        clear HR HR0 HQ H1 HK0 d1 f1
        go_wp2_with (first
          | (go_at_call 15; go_must ((with_reducible refine q1.mono ?_); rintro e' W2 ⟨rfl, k2, t2⟩; have T2 := HT1.out.setX HO.out k2 t2; have q3 := el_same 0 W2 (HE.out W2 T2.bel); have HT2 := hidP T2; clear k2 t2 T2))
          | (go_at_call 6; go_must ((with_reducible refine q3.mono ?_); rintro e' W3 ⟨rfl, b3⟩; have HT3 := hidP (HT2.out.below HO.out b3); clear b3)))
        exact HK.out _ _ _ _ _ _ _ _ _ _ _ _ _ _ _ _ _ _ _ _ _ _ _ _ _ _ _ _ _ _ _ _ _ _ _ _ _ _ _ _ _ _ _ _ _ _ _ _ _ _ _ _ _ _ _ _ _ _ _ _ _ _ _ _ _ _ _ _ _ _ _ _ _ _ _ _ _ _ _ _ _ _ _ _ _ _ _ _ _ _ _ _ _ _ _ _ _ _ _ _ _ _ _ _ _ _ _ _ _ _ _ _ _ _ _ _ _ _ _ _ _ _ _ _ _ _ _ _ _ _ _ _ _ _ _ _ _ _ _ _ _ _ _ _ _ _ _ _ _ _ _ _ _ _ _ _ _ _ _ _ _ _ _ _ _ _ _ _ _ _ _ _ _ _ _ _ _ _ _ _ _ _ _ _ _ _ _ _ _ _ _ _ _ _ _ _ _ _ _ _ _ _ _ _ _ _ _ _ _ _ _ _ _ _ _ _ _ _ _ _ _ _ _ ⟨_, _, _, _, HT3.out, HN'.out⟩
set_option maxRecDepth 100000 in
set_option maxHeartbeats 32000000 in
theorem pl_sw5 (w wc : World) (A X M R V : Nat) (a : Ar) (v : Vt) (m : Ra) (r : Rv) (s0 s1 s2 : Int) (K : Act → World → Prop) (E : Exit → Act → World → Prop) (C : Code) (hC : C = plBlk 4)
    (HO : Hid (ElO w A X M R)) (HT : Hid (ElT w A X M R a v m r wc)) (HN : Hid (ElN a v m r)) (HV : Hid (VrAt wc V s0 s1 s2)) (hRV : R < V) (HE : Hid (∀ W, Below w.heap.size w W → ErrLaid W)) (e0 : (s0 == 0) = false) (e1 : (s0 == 1) = false) (e2 : (s0 == 2) = false) (e3 : (s0 == 3) = false) (e4 : (s0 == 4) = false)
    (v0 v1 v2 v3 v4 v5 v6 v7 v8 v9 v10 v12 v14 v16 v17 v20 v22 v24 v25 v26 v27 v28 v29 v30 v31 v32 v33 v34 v35 v36 v37 v38 v39 v40 v41 v42 v43 v44 v45 v46 v47 v48 v49 v50 v51 v52 v53 v54 v55 v56 v57 v58 v59 v60 v61 v62 v63 v64 v65 v66 v67 v68 v69 v70 v71 v72 v73 v74 v75 v76 v77 v78 v79 v80 v81 v82 v83 v84 v85 v86 v87 v88 v89 v90 v91 v92 v93 v94 v95 v96 v97 v98 v99 v100 v101 v102 v103 v104 v105 v106 v107 v108 v109 v110 v111 v112 v113 v114 v115 v116 v117 v118 v119 v120 v121 v122 v123 v124 v125 v126 v127 v128 v129 v130 v131 v132 v133 v134 v135 v136 v137 v138 v139 v140 v141 v142 v144 v145 v146 v147 v148 v149 v150 v151 v152 v153 v154 v155 v156 v157 v158 v159 v160 v161 v162 v163 v164 v165 v166 v167 v168 v169 v170 v171 v172 v173 v174 v175 v176 v177 v178 v179 v180 v181 v182 v183 v184 v185 v186 v187 v188 v189 v190 v191 v192 v193 v194 v195 v196 v197 v198 v199 v200 v201 v202 v203 v204 v205 v206 v207 v208 v209 v210 v211 v212 v213 v214 v215 v216 v217 v218 v219 v220 v221 v222 v223 v224 v225 v226 v227 v228 v229 v230 v231 v232 v233 v234 v235 v236 v237 v238 v239 v240 v241 v242 v243 v244 v245 v246 v247 v248 v249 v250 v251 v252 v253 v254 v255 v256 v257 v258 v259 v260 v261 v262 v263 v264 v265 v266 v267 v268 v269 v270 v271 v272 v273 v274 v275 v276 v277 v278 v279 v280 v281 v282 v283 v284 v285 v286 v287 v288 v289 v290 v291 v292 v293 v294 v295 v296 v297 v298 v299 v300 v301 v302 v303 v304 v305 v306 v307 v308 v309 v310 v311 v312 v313 v314 v315 v316 v317 v318 v319 v320 v321 v322 v323 v324 v325 v326 v327 v328 v329 v330 v331 v332 v333 v334 v335 v336 v337 v338 v339 v340 v341 v342 v343 v344 v345 v346 v347 v348 v349 v350 v351 v352 v353 v354 v355 v356 v357 v358 v359 v360 v361 v362 v363 v364 v365 : Value)
    (hK : ∀ (W9 : World) (u13 u24 u25 u26 u27 u28 u29 u30 u31 u32 u33 u144 u145 u146 u147 u148 u149 u150 u151 u152 u153 u154 u155 u156 u157 u158 u159 u160 u161 u162 u163 u164 u165 u166 u167 u168 u169 u170 u171 u172 u173 u174 u175 u176 u177 u178 u179 u180 u181 u182 u183 u184 u185 u186 u187 u188 u189 u190 u191 u192 u193 u194 u195 u196 u197 u198 u199 u200 u201 u202 u203 u204 u205 u206 u207 u208 u209 u210 u211 u212 u213 u214 u215 u216 u217 u218 u219 u220 u221 u222 u223 u224 u225 u226 u227 u228 u229 u230 u231 u232 u233 u234 u235 u236 u237 u238 u239 u240 u241 u242 u243 u244 u245 u246 u247 u248 u249 u250 u251 u252 u253 u254 u255 u256 u257 u258 u259 u260 u261 u262 u263 u264 u265 u266 u267 u268 u269 u270 u271 u272 u273 u274 u275 u276 u277 u278 u279 u280 u281 u282 u283 u284 u285 u286 u287 u288 u289 u290 u291 u292 u293 u294 u295 u296 u297 u298 u299 u300 u301 u302 u303 u304 u305 u306 u307 u308 u309 u310 u311 u312 u313 u314 u315 u316 u317 u318 u319 u320 u321 u322 u323 u324 u325 u326 u327 u328 u329 u330 u331 u332 u333 u334 u335 u336 u337 u338 u339 u340 u341 u342 u343 u344 u345 u346 u347 u348 u349 u350 u351 u352 u353 u354 : Value), ElS w A X M R W9 → K { tmps := #[v0, v1, v2, v3, v4, v5, v6, v7, v8, v9, v10, .pointer (some ⟨A, 0, none⟩), v12, u13, v14, .pointer (some ⟨X, 0, none⟩), v16, v17, .pointer (some ⟨M, 0, none⟩), .pointer (some ⟨R, 0, none⟩), v20, .pointer (some ⟨V, 0, none⟩), v22, .bool true, u24, u25, u26, u27, u28, u29, u30, u31, u32, u33, v34, v35, v36, v37, v38, v39, v40, v41, v42, v43, v44, v45, v46, v47, v48, v49, v50, v51, v52, v53, v54, v55, v56, v57, v58, v59, v60, v61, v62, v63, v64, v65, v66, v67, v68, v69, v70, v71, v72, v73, v74, v75, v76, v77, v78, v79, v80, v81, v82, v83, v84, v85, v86, v87, v88, v89, v90, v91, v92, v93, v94, v95, v96, v97, v98, v99, v100, v101, v102, v103, v104, v105, v106, v107, v108, v109, v110, v111, v112, v113, v114, v115, v116, v117, v118, v119, v120, v121, v122, v123, v124, v125, v126, v127, v128, v129, v130, v131, v132, v133, v134, v135, v136, v137, v138, v139, v140, v141, v142, .int .i64 s0, u144, u145, u146, u147, u148, u149, u150, u151, u152, u153, u154, u155, u156, u157, u158, u159, u160, u161, u162, u163, u164, u165, u166, u167, u168, u169, u170, u171, u172, u173, u174, u175, u176, u177, u178, u179, u180, u181, u182, u183, u184, u185, u186, u187, u188, u189, u190, u191, u192, u193, u194, u195, u196, u197, u198, u199, u200, u201, u202, u203, u204, u205, u206, u207, u208, u209, u210, u211, u212, u213, u214, u215, u216, u217, u218, u219, u220, u221, u222, u223, u224, u225, u226, u227, u228, u229, u230, u231, u232, u233, u234, u235, u236, u237, u238, u239, u240, u241, u242, u243, u244, u245, u246, u247, u248, u249, u250, u251, u252, u253, u254, u255, u256, u257, u258, u259, u260, u261, u262, u263, u264, u265, u266, u267, u268, u269, u270, u271, u272, u273, u274, u275, u276, u277, u278, u279, u280, u281, u282, u283, u284, u285, u286, u287, u288, u289, u290, u291, u292, u293, u294, u295, u296, u297, u298, u299, u300, u301, u302, u303, u304, u305, u306, u307, u308, u309, u310, u311, u312, u313, u314, u315, u316, u317, u318, u319, u320, u321, u322, u323, u324, u325, u326, u327, u328, u329, u330, u331, u332, u333, u334, u335, u336, u337, u338, u339, u340, u341, u342, u343, u344, u345, u346, u347, u348, u349, u350, u351, u352, u353, u354, v355, v356, v357, v358, v359, v360, v361, v362, v363, v364, v365], defers := [] } W9) :
    Code.wp Tryd.prog C (Exit.then K E) { tmps := #[v0, v1, v2, v3, v4, v5, v6, v7, v8, v9, v10, .pointer (some ⟨A, 0, none⟩), v12, .int .i64 (tmE r.now s1), v14, .pointer (some ⟨X, 0, none⟩), v16, v17, .pointer (some ⟨M, 0, none⟩), .pointer (some ⟨R, 0, none⟩), v20, .pointer (some ⟨V, 0, none⟩), v22, .bool true, v24, v25, v26, v27, v28, v29, v30, v31, v32, v33, v34, v35, v36, v37, v38, v39, v40, v41, v42, v43, v44, v45, v46, v47, v48, v49, v50, v51, v52, v53, v54, v55, v56, v57, v58, v59, v60, v61, v62, v63, v64, v65, v66, v67, v68, v69, v70, v71, v72, v73, v74, v75, v76, v77, v78, v79, v80, v81, v82, v83, v84, v85, v86, v87, v88, v89, v90, v91, v92, v93, v94, v95, v96, v97, v98, v99, v100, v101, v102, v103, v104, v105, v106, v107, v108, v109, v110, v111, v112, v113, v114, v115, v116, v117, v118, v119, v120, v121, v122, v123, v124, v125, v126, v127, v128, v129, v130, v131, v132, v133, v134, v135, v136, v137, v138, v139, v140, v141, v142, .int .i64 s0, v144, v145, v146, v147, v148, v149, v150, v151, v152, v153, v154, v155, v156, v157, v158, v159, v160, v161, v162, v163, v164, v165, v166, v167, v168, v169, v170, v171, v172, v173, v174, v175, v176, v177, v178, v179, v180, v181, v182, v183, v184, v185, v186, v187, v188, v189, v190, v191, v192, v193, v194, v195, v196, v197, v198, v199, v200, v201, v202, v203, v204, v205, v206, v207, v208, v209, v210, v211, v212, v213, v214, v215, v216, v217, v218, v219, v220, v221, v222, v223, v224, v225, v226, v227, v228, v229, v230, v231, v232, v233, v234, v235, v236, v237, v238, v239, v240, v241, v242, v243, v244, v245, v246, v247, v248, v249, v250, v251, v252, v253, v254, v255, v256, v257, v258, v259, v260, v261, v262, v263, v264, v265, v266, v267, v268, v269, v270, v271, v272, v273, v274, v275, v276, v277, v278, v279, v280, v281, v282, v283, v284, v285, v286, v287, v288, v289, v290, v291, v292, v293, v294, v295, v296, v297, v298, v299, v300, v301, v302, v303, v304, v305, v306, v307, v308, v309, v310, v311, v312, v313, v314, v315, v316, v317, v318, v319, v320, v321, v322, v323, v324, v325, v326, v327, v328, v329, v330, v331, v332, v333, v334, v335, v336, v337, v338, v339, v340, v341, v342, v343, v344, v345, v346, v347, v348, v349, v350, v351, v352, v353, v354, v355, v356, v357, v358, v359, v360, v361, v362, v363, v364, v365], defers := [] } wc := by
  subst hC
  conv =>
    arg 2
    unfold plBlk
    unfold Tryd.f3
    simp only [Option.getD_some, blkAt]
  conv =>
    arg 4
    zeta
  simp (maxSteps := 10000000) only at hK
  have HK := hidO hK
  clear hK
  have o1 := HO.out.o1
  have o2 := HO.out.o2
  have o3 := HO.out.o3
  have o4 := HO.out.o4
  have en : tmE v.now s1 = tmE r.now s1 := by rw [HN.out.sv.n]
  obtain ⟨⟨c0, c1, c2⟩, _⟩ := vr_cells HV.out
  have HQ : Hid (∀ W, VtAt W X v → Calls Tryd.prog 18 #[.pointer (some ⟨X, 0, none⟩), .int .i64 s1] W fun e w' => e = .returned (.tuple #[.bool (wanR v s1), elV (tmE v.now s1)]) ∧ VtAt w' X (movV v s1) ∧ Turn (fun i => i = X) W w') := fun W hW => want_any X v s1 W hW HN.out.ov
  have HQ2 : Hid (∀ W, VtAt W X (movV v s1) → Calls Tryd.prog 19 #[.pointer (some ⟨X, 0, none⟩), .int .i64 s1] W fun e w' => e = .returned (.tuple #[.int .i64 (rolR (movV v s1) s1), elV (tmE (movV v s1).now s1)]) ∧ VtAt w' X (movV (movV v s1) s1) ∧ Turn (fun i => i = X) W w') := fun W hW => role_any X (movV v s1) s1 W hW (HN.out.ov.mov s1)
  by_cases hz : tmE r.now s1 = 0
  · obtain ⟨n0, n1, n2⟩ := tmE_ok (en.trans hz)
    have em : movV v s1 = { v with now := s1 } := by unfold movV; rw [if_pos (en.trans hz)]
    have hz2 : tmE s1 s1 = 0 := tmE_of n0 n1 (Int.le_refl _)
    have em2 : movV { v with now := s1 } s1 = { v with now := s1 } := by unfold movV; rw [if_pos hz2]
    have ew : wanR v s1 = rWanB { r with now := s1 } s1 := by unfold wanR; rw [if_pos (en.trans hz)]; exact (HN.out.sv.wan n2).symm
    have er : rolR { v with now := s1 } s1 = if rMasB { r with now := s1 } s1 = true then 2 else 1 := by
      unfold rolR rolI
      rw [if_pos hz2, show masB { v with now := s1 } s1 = masB v s1 from rfl, show rMasB { r with now := s1 } s1 = rMasB r s1 from rfl, HN.out.sv.mas]
    rw [em, em2, er, show tmE ({ v with now := s1 } : Vt).now s1 = 0 from hz2, show elV 0 = .nilIface from rfl] at HQ2
    rw [em, ew, en.trans hz, show elV 0 = .nilIface from rfl] at HQ
    have HN' : Hid (ElN a { v with now := s1 } m { r with now := s1 }) := ⟨HN.out.oa, HN.out.ov.at s1, HN.out.orr.at s1, HN.out.sa, HN.out.sv.at n2⟩
    have HQ3 : Hid (∀ W, RvAt W R { r with now := s1 } → Calls Tryd.prog 16 #[.pointer (some ⟨R, 0, none⟩), .int .i64 s1] W fun e w' => e = .returned (.bool (rWanB { r with now := s1 } s1)) ∧ Below W.heap.size W w') := fun W hW => rWan_any R _ s1 W hW (HN.out.orr.at s1) n0 n1
    have HQ4 : Hid (∀ W, RvAt W R { r with now := s1 } → Calls Tryd.prog 17 #[.pointer (some ⟨R, 0, none⟩), .int .i64 s1] W fun e w' => e = .returned (.bool (rMasB { r with now := s1 } s1)) ∧ Below W.heap.size W w') := fun W hW => rMas_any R _ s1 W hW (HN.out.orr.at s1) n0 n1
    obtain ⟨_, _, f3, _⟩ := rv_cells HT.out.kr
    have ho : Only R wc (wc.setCell ⟨R, 3, none⟩ (.int .i64 s1)) := (Only.refl _ _).setCell _ _
    have k1 := rv_at HT.out.kr s1
    have hRV2 : V ≠ R := by omega
    obtain ⟨v1, hv1⟩ : ∃ v1, ({ v with now := s1 } : Vt) = v1 := ⟨_, rfl⟩
    obtain ⟨r1, hr1⟩ : ∃ r1, ({ r with now := s1 } : Rv) = r1 := ⟨_, rfl⟩
    rw [hv1] at HQ HQ2 HN'
    rw [hr1] at HQ HQ2 HN' HQ3 HQ4 k1
    rw [hz]
    generalize rWanB r1 s1 = wb at HQ HQ3
    clear hz en em em2 ew er hz2 hv1 hr1 n0 n1 n2
    go_upto_region 30 with fail
    obtain ⟨W1, hW1⟩ : ∃ W1, wc.setCell ⟨R, 3, none⟩ (.int .i64 s1) = W1 := ⟨_, rfl⟩
    rw [hW1] at ho k1
    rw [hW1]
    have t1 : Turn (fun i => i = R) wc W1 := Turn.of_only ho rfl
    have HT1 := hidP (HT.out.setR HO.out k1 t1)
    have HV1 := hidP (HV.out.turn t1 (by omega))
    have q1 := HQ3.out W1 HT1.out.kr
    clear c0 c1 c2
    obtain ⟨⟨c0, c1, c2⟩, _⟩ := vr_cells HV1.out
    clear hW1 ho k1 t1 HT HV f3 HQ3
    go_upto_region 31 with (go_at_call 16; go_must ((with_reducible refine q1.mono ?_); rintro e' W2 ⟨rfl, b2⟩))
    have HT2 := hidP (HT1.out.below HO.out b2)
    have HV2 := hidP (HV1.out.turn (Turn.of_below b2 NoF) (fun h => h.elim))
    clear c0 c1 c2 b2 q1 HT1 HV1
    obtain ⟨⟨c0, c1, c2⟩, _⟩ := vr_cells HV2.out
    have q2 := HQ4.out W2 HT2.out.kr
    obtain ⟨B, hB⟩ : ∃ B, rMasB r1 s1 = B := ⟨_, rfl⟩
    rw [hB] at q2 HQ2
    clear HQ4 hB
    go_upto_region 32 with fail
    cases B
    all_goals
      simp only [Bool.false_eq_true, if_false, if_true] at HQ2
      go_upto_region 34 with (go_at_call 17; go_must ((with_reducible refine q2.mono ?_); rintro e' W3 ⟨rfl, b3⟩))
      have HT3 := hidP (HT2.out.below HO.out b3)
      have HV3 := hidP (HV2.out.turn (Turn.of_below b3 NoF) (fun h => h.elim))
      clear c0 c1 c2 b3 q2 HT2 HV2
      obtain ⟨⟨c0, c1, c2⟩, _⟩ := vr_cells HV3.out
      have q3 := HQ.out W3 HT3.out.kx
      go_upto_region 35 with (go_at_call 18; go_must ((with_reducible refine q3.mono ?_); rintro e' W4 ⟨rfl, k4, t4⟩))
      have HT4 := hidP (HT3.out.setX HO.out k4 t4)
      have HV4 := hidP (HV3.out.turn t4 (by omega))
      clear c0 c1 c2 k4 t4 q3 HT3 HV3
      obtain ⟨⟨c0, c1, c2⟩, _⟩ := vr_cells HV4.out
      have q4 := el_same 0 W4 (HE.out W4 HT4.out.bel)
      rw [show elV 0 = .nilIface from rfl] at q4
      go_upto_region 36 with (go_at_call 6; go_must ((with_reducible refine q4.mono ?_); rintro e' W5 ⟨rfl, b5⟩))
      have HT5 := hidP (HT4.out.below HO.out b5)
      have HV5 := hidP (HV4.out.turn (Turn.of_below b5 NoF) (fun h => h.elim))
      clear c0 c1 c2 b5 q4 HT4 HV4
      obtain ⟨⟨c0, c1, c2⟩, _⟩ := vr_cells HV5.out
      have q5 := HQ2.out W5 HT5.out.kx
      go_upto_region 37 with (go_at_call 19; go_must ((with_reducible refine q5.mono ?_); rintro e' W6 ⟨rfl, k6, t6⟩))
      have HT6 := hidP (HT5.out.setX HO.out k6 t6)
      have q6 := el_same 0 W6 (HE.out W6 HT6.out.bel)
      rw [show elV 0 = .nilIface from rfl] at q6
      clear c0 c1 c2 k6 t6 q5 HT5 HV5
      go_upto_region 38 with (go_at_call 6; go_must ((with_reducible refine q6.mono ?_); rintro e' W7 ⟨rfl, b7⟩))
      have HT7 := hidP (HT6.out.below HO.out b7)
      clear b7 q6 HT6
      cases wb
      all_goals
        go_wp2_with fail
        exact HK.out _ _ _ _ _ _ _ _ _ _ _ _ _ _ _ _ _ _ _ _ _ _ _ _ _ _ _ _ _ _ _ _ _ _ _ _ _ _ _ _ _ _ _ _ _ _ _ _ _ _ _ _ _ _ _ _ _ _ _ _ _ _ _ _ _ _ _ _ _ _ _ _ _ _ _ _ _ _ _ _ _ _ _ _ _ _ _ _ _ _ _ _ _ _ _ _ _ _ _ _ _ _ _ _ _ _ _ _ _ _ _ _ _ _ _ _ _ _ _ _ _ _ _ _ _ _ _ _ _ _ _ _ _ _ _ _ _ _ _ _ _ _ _ _ _ _ _ _ _ _ _ _ _ _ _ _ _ _ _ _ _ _ _ _ _ _ _ _ _ _ _ _ _ _ _ _ _ _ _ _ _ _ _ _ _ _ _ _ _ _ _ _ _ _ _ _ _ _ _ _ _ _ _ _ _ _ _ _ _ _ _ _ _ _ _ _ _ _ _ _ _ _ _ ⟨_, _, _, _, HT7.out, HN'.out⟩
  · have em : movV v s1 = v := by unfold movV; rw [en, if_neg hz]
    rw [em, em, show rolR v s1 = 0 by unfold rolR; rw [en, if_neg hz], en] at HQ2
    rw [em, show wanR v s1 = false by unfold wanR; rw [en, if_neg hz], en] at HQ
    generalize tmE r.now s1 = z at HQ HQ2 hz ⊢
    have h0 : (z == 0) = false := by simpa using hz
    clear hz em en
    have q3 := HQ.out wc HT.out.kx
    generalize hev : elV z = ev at HQ2 q3
    go_upto_region 35 with (go_at_call 18; go_must ((with_reducible refine q3.mono ?_); rintro e' W4 ⟨rfl, k4, t4⟩))
    have HT4 := hidP (HT.out.setX HO.out k4 t4)
    have HV4 := hidP (HV.out.turn t4 (by omega))
    clear c0 c1 c2 k4 t4 q3 HT HV
    obtain ⟨⟨c0, c1, c2⟩, _⟩ := vr_cells HV4.out
    have HER : Hid (∀ W, Below w.heap.size w W → Calls Tryd.prog 6 #[ev, .int .i64 z] W fun e w' => e = .returned (.bool true) ∧ Below W.heap.size W w') := fun W bW => by rw [← hev]; exact el_same z W (HE.out W bW)
    clear hev
    have q4 := HER.out W4 HT4.out.bel
    go_upto_region 36 with (go_at_call 6; go_must ((with_reducible refine q4.mono ?_); rintro e' W5 ⟨rfl, b5⟩))
    have HT5 := hidP (HT4.out.below HO.out b5)
    have HV5 := hidP (HV4.out.turn (Turn.of_below b5 NoF) (fun h => h.elim))
    clear c0 c1 c2 b5 q4 HT4 HV4
    obtain ⟨⟨c0, c1, c2⟩, _⟩ := vr_cells HV5.out
    have q5 := HQ2.out W5 HT5.out.kx
    go_upto_region 37 with (go_at_call 19; go_must ((with_reducible refine q5.mono ?_); rintro e' W6 ⟨rfl, k6, t6⟩))
    have HT6 := hidP (HT5.out.setX HO.out k6 t6)
    have q6 := HER.out W6 HT6.out.bel
    clear c0 c1 c2 k6 t6 q5 HT5 HV5
    go_upto_region 38 with (go_at_call 6; go_must ((with_reducible refine q6.mono ?_); rintro e' W7 ⟨rfl, b7⟩))
    have HT7 := hidP (HT6.out.below HO.out b7)
    clear b7 q6 HT6
    go_wp2_with fail
    exact HK.out _ _ _ _ _ _ _ _ _ _ _ _ _ _ _ _ _ _ _ _ _ _ _ _ _ _ _ _ _ _ _ _ _ _ _ _ _ _ _ _ _ _ _ _ _ _ _ _ _ _ _ _ _ _ _ _ _ _ _ _ _ _ _ _ _ _ _ _ _ _ _ _ _ _ _ _ _ _ _ _ _ _ _ _ _ _ _ _ _ _ _ _ _ _ _ _ _ _ _ _ _ _ _ _ _ _ _ _ _ _ _ _ _ _ _ _ _ _ _ _ _ _ _ _ _ _ _ _ _ _ _ _ _ _ _ _ _ _ _ _ _ _ _ _ _ _ _ _ _ _ _ _ _ _ _ _ _ _ _ _ _ _ _ _ _ _ _ _ _ _ _ _ _ _ _ _ _ _ _ _ _ _ _ _ _ _ _ _ _ _ _ _ _ _ _ _ _ _ _ _ _ _ _ _ _ _ _ _ _ _ _ _ _ _ _ _ _ _ _ _ _ _ _ ⟨_, _, _, _, HT7.out, HN.out⟩
end Go.Proofs.YtempphlbgeogiaaDoor
