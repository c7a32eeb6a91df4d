/- ElectPlays: Hear and Grant of both. -/
import Derived.Test.YtempphlbgeogiaaDoorElPl0
namespace Go.Proofs.YtempphlbgeogiaaDoor
open Go.RowKit
set_option linter.unusedVariables false

set_option maxRecDepth 100000 in
set_option maxHeartbeats 32000000 in
theorem pl_sw2 (w wc : World) (A X M R V : Nat) (a : Ar) (v : Vt) (m : Ra) (r : Rv) (s1 s2 : Int) (K : Act → World → Prop) (E : Exit → Act → World → Prop) (C : Code) (hC : C = plBlk 4)
    (HO : Hid (ElO w A X M R)) (HT : Hid (ElT w A X M R a v m r wc)) (HN : Hid (ElN a v m r)) (HV : Hid (VrAt wc V 2 s1 s2)) (hRV : R < V) (HE : Hid (∀ W, Below w.heap.size w W → ErrLaid W))
    (v0 v1 v2 v3 v4 v5 v6 v7 v8 v9 v10 v12 v14 v16 v17 v20 v22 v24 v25 v26 v27 v28 v29 v30 v31 v32 v33 v34 v35 v36 v37 v38 v39 v40 v41 v42 v43 v44 v45 v46 v47 v48 v49 v50 v51 v52 v53 v54 v55 v56 v57 v58 v59 v60 v61 v62 v63 v64 v65 v66 v67 v68 v69 v70 v71 v72 v73 v74 v75 v76 v77 v78 v79 v80 v81 v82 v83 v84 v85 v86 v87 v88 v89 v90 v91 v92 v93 v94 v95 v96 v97 v98 v99 v100 v101 v102 v103 v104 v105 v106 v107 v108 v109 v110 v111 v112 v113 v114 v115 v116 v117 v118 v119 v120 v121 v122 v123 v124 v125 v126 v127 v128 v129 v130 v131 v132 v133 v134 v135 v136 v137 v138 v139 v140 v141 v142 v144 v145 v146 v147 v148 v149 v150 v151 v152 v153 v154 v155 v156 v157 v158 v159 v160 v161 v162 v163 v164 v165 v166 v167 v168 v169 v170 v171 v172 v173 v174 v175 v176 v177 v178 v179 v180 v181 v182 v183 v184 v185 v186 v187 v188 v189 v190 v191 v192 v193 v194 v195 v196 v197 v198 v199 v200 v201 v202 v203 v204 v205 v206 v207 v208 v209 v210 v211 v212 v213 v214 v215 v216 v217 v218 v219 v220 v221 v222 v223 v224 v225 v226 v227 v228 v229 v230 v231 v232 v233 v234 v235 v236 v237 v238 v239 v240 v241 v242 v243 v244 v245 v246 v247 v248 v249 v250 v251 v252 v253 v254 v255 v256 v257 v258 v259 v260 v261 v262 v263 v264 v265 v266 v267 v268 v269 v270 v271 v272 v273 v274 v275 v276 v277 v278 v279 v280 v281 v282 v283 v284 v285 v286 v287 v288 v289 v290 v291 v292 v293 v294 v295 v296 v297 v298 v299 v300 v301 v302 v303 v304 v305 v306 v307 v308 v309 v310 v311 v312 v313 v314 v315 v316 v317 v318 v319 v320 v321 v322 v323 v324 v325 v326 v327 v328 v329 v330 v331 v332 v333 v334 v335 v336 v337 v338 v339 v340 v341 v342 v343 v344 v345 v346 v347 v348 v349 v350 v351 v352 v353 v354 v355 v356 v357 v358 v359 v360 v361 v362 v363 v364 v365 : Value)
    (hK : ∀ (W9 : World) (u13 u24 u25 u26 u27 u28 u29 u30 u31 u32 u33 u144 u145 u146 u147 u148 u149 u150 u151 u152 u153 u154 u155 u156 u157 u158 u159 u160 u161 u162 u163 u164 u165 u166 u167 u168 u169 u170 u171 u172 u173 u174 u175 u176 u177 u178 u179 u180 u181 u182 u183 u184 u185 u186 u187 u188 u189 u190 u191 u192 u193 u194 u195 u196 u197 u198 u199 u200 u201 u202 u203 u204 u205 u206 u207 u208 u209 u210 u211 u212 u213 u214 u215 u216 u217 u218 u219 u220 u221 u222 u223 u224 u225 u226 u227 u228 u229 u230 u231 u232 u233 u234 u235 u236 u237 u238 u239 u240 u241 u242 u243 u244 u245 u246 u247 u248 u249 u250 u251 u252 u253 u254 u255 u256 u257 u258 u259 u260 u261 u262 u263 u264 u265 u266 u267 u268 u269 u270 u271 u272 u273 u274 u275 u276 u277 u278 u279 u280 u281 u282 u283 u284 u285 u286 u287 u288 u289 u290 u291 u292 u293 u294 u295 u296 u297 u298 u299 u300 u301 u302 u303 u304 u305 u306 u307 u308 u309 u310 u311 u312 u313 u314 u315 u316 u317 u318 u319 u320 u321 u322 u323 u324 u325 u326 u327 u328 u329 u330 u331 u332 u333 u334 u335 u336 u337 u338 u339 u340 u341 u342 u343 u344 u345 u346 u347 u348 u349 u350 u351 u352 u353 u354 : Value), ElS w A X M R W9 → K { tmps := #[v0, v1, v2, v3, v4, v5, v6, v7, v8, v9, v10, .pointer (some ⟨A, 0, none⟩), v12, u13, v14, .pointer (some ⟨X, 0, none⟩), v16, v17, .pointer (some ⟨M, 0, none⟩), .pointer (some ⟨R, 0, none⟩), v20, .pointer (some ⟨V, 0, none⟩), v22, .bool true, u24, u25, u26, u27, u28, u29, u30, u31, u32, u33, v34, v35, v36, v37, v38, v39, v40, v41, v42, v43, v44, v45, v46, v47, v48, v49, v50, v51, v52, v53, v54, v55, v56, v57, v58, v59, v60, v61, v62, v63, v64, v65, v66, v67, v68, v69, v70, v71, v72, v73, v74, v75, v76, v77, v78, v79, v80, v81, v82, v83, v84, v85, v86, v87, v88, v89, v90, v91, v92, v93, v94, v95, v96, v97, v98, v99, v100, v101, v102, v103, v104, v105, v106, v107, v108, v109, v110, v111, v112, v113, v114, v115, v116, v117, v118, v119, v120, v121, v122, v123, v124, v125, v126, v127, v128, v129, v130, v131, v132, v133, v134, v135, v136, v137, v138, v139, v140, v141, v142, .int .i64 2, u144, u145, u146, u147, u148, u149, u150, u151, u152, u153, u154, u155, u156, u157, u158, u159, u160, u161, u162, u163, u164, u165, u166, u167, u168, u169, u170, u171, u172, u173, u174, u175, u176, u177, u178, u179, u180, u181, u182, u183, u184, u185, u186, u187, u188, u189, u190, u191, u192, u193, u194, u195, u196, u197, u198, u199, u200, u201, u202, u203, u204, u205, u206, u207, u208, u209, u210, u211, u212, u213, u214, u215, u216, u217, u218, u219, u220, u221, u222, u223, u224, u225, u226, u227, u228, u229, u230, u231, u232, u233, u234, u235, u236, u237, u238, u239, u240, u241, u242, u243, u244, u245, u246, u247, u248, u249, u250, u251, u252, u253, u254, u255, u256, u257, u258, u259, u260, u261, u262, u263, u264, u265, u266, u267, u268, u269, u270, u271, u272, u273, u274, u275, u276, u277, u278, u279, u280, u281, u282, u283, u284, u285, u286, u287, u288, u289, u290, u291, u292, u293, u294, u295, u296, u297, u298, u299, u300, u301, u302, u303, u304, u305, u306, u307, u308, u309, u310, u311, u312, u313, u314, u315, u316, u317, u318, u319, u320, u321, u322, u323, u324, u325, u326, u327, u328, u329, u330, u331, u332, u333, u334, u335, u336, u337, u338, u339, u340, u341, u342, u343, u344, u345, u346, u347, u348, u349, u350, u351, u352, u353, u354, v355, v356, v357, v358, v359, v360, v361, v362, v363, v364, v365], defers := [] } W9) :
    Code.wp Tryd.prog C (Exit.then K E) { tmps := #[v0, v1, v2, v3, v4, v5, v6, v7, v8, v9, v10, .pointer (some ⟨A, 0, none⟩), v12, .int .i64 (tmE r.now s1), v14, .pointer (some ⟨X, 0, none⟩), v16, v17, .pointer (some ⟨M, 0, none⟩), .pointer (some ⟨R, 0, none⟩), v20, .pointer (some ⟨V, 0, none⟩), v22, .bool true, v24, v25, v26, v27, v28, v29, v30, v31, v32, v33, v34, v35, v36, v37, v38, v39, v40, v41, v42, v43, v44, v45, v46, v47, v48, v49, v50, v51, v52, v53, v54, v55, v56, v57, v58, v59, v60, v61, v62, v63, v64, v65, v66, v67, v68, v69, v70, v71, v72, v73, v74, v75, v76, v77, v78, v79, v80, v81, v82, v83, v84, v85, v86, v87, v88, v89, v90, v91, v92, v93, v94, v95, v96, v97, v98, v99, v100, v101, v102, v103, v104, v105, v106, v107, v108, v109, v110, v111, v112, v113, v114, v115, v116, v117, v118, v119, v120, v121, v122, v123, v124, v125, v126, v127, v128, v129, v130, v131, v132, v133, v134, v135, v136, v137, v138, v139, v140, v141, v142, .int .i64 2, v144, v145, v146, v147, v148, v149, v150, v151, v152, v153, v154, v155, v156, v157, v158, v159, v160, v161, v162, v163, v164, v165, v166, v167, v168, v169, v170, v171, v172, v173, v174, v175, v176, v177, v178, v179, v180, v181, v182, v183, v184, v185, v186, v187, v188, v189, v190, v191, v192, v193, v194, v195, v196, v197, v198, v199, v200, v201, v202, v203, v204, v205, v206, v207, v208, v209, v210, v211, v212, v213, v214, v215, v216, v217, v218, v219, v220, v221, v222, v223, v224, v225, v226, v227, v228, v229, v230, v231, v232, v233, v234, v235, v236, v237, v238, v239, v240, v241, v242, v243, v244, v245, v246, v247, v248, v249, v250, v251, v252, v253, v254, v255, v256, v257, v258, v259, v260, v261, v262, v263, v264, v265, v266, v267, v268, v269, v270, v271, v272, v273, v274, v275, v276, v277, v278, v279, v280, v281, v282, v283, v284, v285, v286, v287, v288, v289, v290, v291, v292, v293, v294, v295, v296, v297, v298, v299, v300, v301, v302, v303, v304, v305, v306, v307, v308, v309, v310, v311, v312, v313, v314, v315, v316, v317, v318, v319, v320, v321, v322, v323, v324, v325, v326, v327, v328, v329, v330, v331, v332, v333, v334, v335, v336, v337, v338, v339, v340, v341, v342, v343, v344, v345, v346, v347, v348, v349, v350, v351, v352, v353, v354, v355, v356, v357, v358, v359, v360, v361, v362, v363, v364, v365], defers := [] } wc := by
  subst hC
  conv =>
    arg 2
    unfold plBlk
    unfold Tryd.f3
    simp only [Option.getD_some, blkAt]
  conv =>
    arg 4
    zeta
  simp (maxSteps := 10000000) only at hK
  have HK := hidO hK
  clear hK
  have o1 := HO.out.o1
  have o2 := HO.out.o2
  have o3 := HO.out.o3
  have o4 := HO.out.o4
  have en : tmE v.now s1 = tmE r.now s1 := by rw [HN.out.sv.n]
  obtain ⟨⟨c0, c1, c2⟩, _⟩ := vr_cells HV.out
  have HQ : Hid (∀ W, VtAt W X v → Calls Tryd.prog 13 #[.pointer (some ⟨X, 0, none⟩), .int .i64 s2, .int .i64 s1] W fun e w' => e = .returned (elV (hearE v s2 s1)) ∧ VtAt w' X (hearV v s2 s1) ∧ Turn (fun i => i = X) W w') := fun W hW => hear_any X v s2 s1 W hW
  by_cases hz : tmE r.now s1 = 0
  · obtain ⟨n0, n1, n2⟩ := tmE_ok (en.trans hz)
    cases hp : prB s2
    · have he : hearE v s2 s1 = 1 := by unfold hearE; rw [if_pos (en.trans hz), hp]; rfl
      have hs : hearV v s2 s1 = v := by unfold hearV; rw [he]; rfl
      rw [he, hs] at HQ
      have hp' := of_decide_eq_false hp
      have q1 := HQ.out wc HT.out.kx
      rw [hz]
      rcases (by omega : s2 < 0 ∨ (¬ s2 < 0 ∧ 255 < s2)) with h1 | ⟨h1, h2⟩
      all_goals
        clear hz hp hp' he hs en HQ n0 n1 n2
        go_upto_region 54 with fail
        go_wp2_with (first
          | (go_at_call 13; go_must ((with_reducible refine q1.mono ?_); rintro e' W2 ⟨rfl, k2, t2⟩; have T2 := HT.out.setX HO.out k2 t2; have q3 := el_same 1 W2 (HE.out W2 T2.bel); have HT2 := hidP T2; clear k2 t2 T2))
          | (go_at_call 6; go_must ((with_reducible refine q3.mono ?_); rintro e' W3 ⟨rfl, b3⟩; have HT3 := hidP (HT2.out.below HO.out b3); clear b3)))
        exact HK.out _ _ _ _ _ _ _ _ _ _ _ _ _ _ _ _ _ _ _ _ _ _ _ _ _ _ _ _ _ _ _ _ _ _ _ _ _ _ _ _ _ _ _ _ _ _ _ _ _ _ _ _ _ _ _ _ _ _ _ _ _ _ _ _ _ _ _ _ _ _ _ _ _ _ _ _ _ _ _ _ _ _ _ _ _ _ _ _ _ _ _ _ _ _ _ _ _ _ _ _ _ _ _ _ _ _ _ _ _ _ _ _ _ _ _ _ _ _ _ _ _ _ _ _ _ _ _ _ _ _ _ _ _ _ _ _ _ _ _ _ _ _ _ _ _ _ _ _ _ _ _ _ _ _ _ _ _ _ _ _ _ _ _ _ _ _ _ _ _ _ _ _ _ _ _ _ _ _ _ _ _ _ _ _ _ _ _ _ _ _ _ _ _ _ _ _ _ _ _ _ _ _ _ _ _ _ _ _ _ _ _ _ _ _ _ _ _ _ _ _ _ _ _ ⟨_, _, _, _, HT3.out, HN.out⟩
    · have he : hearE v s2 s1 = 0 := by unfold hearE; rw [if_pos (en.trans hz), hp]; rfl
      have hs : hearV v s2 s1 = { v with now := s1, oth := s2, cnt := s1 + 30 } := by unfold hearV; rw [he]; rfl
      have ov := HN.out.ov.hear s2 s1
      rw [he, hs] at HQ
      rw [hs] at ov
      have hp' := of_decide_eq_true hp
      have h1 : ¬ s2 < 0 := by omega
      have h2 : ¬ 255 < s2 := by omega
      have HN' : Hid (ElN a _ m _) := ⟨HN.out.oa, ov, HN.out.orr.hear n0 n1 s2, HN.out.sa, HN.out.sv.hear s1 s2⟩
      have ho : Only R wc ((((wc.setCell ⟨R, 3, none⟩ (.int .i64 s1)).setCell ⟨R, 5, none⟩ (.bool true)).setCell ⟨R, 6, none⟩ (.int .i64 s2)).setCell ⟨R, 7, none⟩ (.int .i64 s1)) := ((((Only.refl _ _).setCell _ _).setCell _ _).setCell _ _).setCell _ _
      have k1 := rv_hear HT.out.kr s1 s2
      obtain ⟨_, f1, f3, f4, f5, f6, f7⟩ := rv_cells HT.out.kr
      have hRV2 : V ≠ R := by omega
      rw [hz]
      clear hz hp hp' he hs en ov
      go_upto_region 54 with fail
      obtain ⟨W1, hW1⟩ : ∃ W1, ((((wc.setCell ⟨R, 3, none⟩ (.int .i64 s1)).setCell ⟨R, 5, none⟩ (.bool true)).setCell ⟨R, 6, none⟩ (.int .i64 s2)).setCell ⟨R, 7, none⟩ (.int .i64 s1)) = W1 := ⟨_, rfl⟩
      rw [hW1] at ho k1
      rw [hW1]
      have t1 : Turn (fun i => i = R) wc W1 := Turn.of_only ho rfl
      have T1 := HT.out.setR HO.out k1 t1
      have V1 := HV.out.turn t1 (by omega)
      have q1 := HQ.out W1 T1.kx
      have HT1 := hidP T1
      clear c0 c1 c2
      obtain ⟨⟨c0, c1, c2⟩, _⟩ := vr_cells V1
      clear hW1 ho k1 t1 T1 V1 HQ HT HV f1 f3 f4 f5 f6 f7
      go_wp2_with (first
        | (go_at_call 13; go_must ((with_reducible refine q1.mono ?_); rintro e' W2 ⟨rfl, k2, t2⟩; have T2 := HT1.out.setX HO.out k2 t2; have q3 := el_same 0 W2 (HE.out W2 T2.bel); have HT2 := hidP T2; clear k2 t2 T2))
        | (go_at_call 6; go_must ((with_reducible refine q3.mono ?_); rintro e' W3 ⟨rfl, b3⟩; have HT3 := hidP (HT2.out.below HO.out b3); clear b3)))
      exact HK.out _ _ _ _ _ _ _ _ _ _ _ _ _ _ _ _ _ _ _ _ _ _ _ _ _ _ _ _ _ _ _ _ _ _ _ _ _ _ _ _ _ _ _ _ _ _ _ _ _ _ _ _ _ _ _ _ _ _ _ _ _ _ _ _ _ _ _ _ _ _ _ _ _ _ _ _ _ _ _ _ _ _ _ _ _ _ _ _ _ _ _ _ _ _ _ _ _ _ _ _ _ _ _ _ _ _ _ _ _ _ _ _ _ _ _ _ _ _ _ _ _ _ _ _ _ _ _ _ _ _ _ _ _ _ _ _ _ _ _ _ _ _ _ _ _ _ _ _ _ _ _ _ _ _ _ _ _ _ _ _ _ _ _ _ _ _ _ _ _ _ _ _ _ _ _ _ _ _ _ _ _ _ _ _ _ _ _ _ _ _ _ _ _ _ _ _ _ _ _ _ _ _ _ _ _ _ _ _ _ _ _ _ _ _ _ _ _ _ _ _ _ _ _ ⟨_, _, _, _, HT3.out, HN'.out⟩
  · have he : hearE v s2 s1 = tmE r.now s1 := by unfold hearE; rw [en, if_neg hz]
    have hs : hearV v s2 s1 = v := by unfold hearV; rw [he, if_neg hz]
    rw [he, hs] at HQ
    generalize tmE r.now s1 = z at HQ hz ⊢
    have q1 := HQ.out wc HT.out.kx
    have h0 : (z == 0) = false := by simpa using hz
    clear hz he hs en HQ
    go_upto_region 54 with fail
    go_wp2_with (first
      | (go_at_call 13; go_must ((with_reducible refine q1.mono ?_); rintro e' W2 ⟨rfl, k2, t2⟩; have T2 := HT.out.setX HO.out k2 t2; have q3 := el_same z W2 (HE.out W2 T2.bel); have HT2 := hidP T2; clear k2 t2 T2))
      | (go_at_call 6; go_must ((with_reducible refine q3.mono ?_); rintro e' W3 ⟨rfl, b3⟩; have HT3 := hidP (HT2.out.below HO.out b3); clear b3)))
    exact HK.out _ _ _ _ _ _ _ _ _ _ _ _ _ _ _ _ _ _ _ _ _ _ _ _ _ _ _ _ _ _ _ _ _ _ _ _ _ _ _ _ _ _ _ _ _ _ _ _ _ _ _ _ _ _ _ _ _ _ _ _ _ _ _ _ _ _ _ _ _ _ _ _ _ _ _ _ _ _ _ _ _ _ _ _ _ _ _ _ _ _ _ _ _ _ _ _ _ _ _ _ _ _ _ _ _ _ _ _ _ _ _ _ _ _ _ _ _ _ _ _ _ _ _ _ _ _ _ _ _ _ _ _ _ _ _ _ _ _ _ _ _ _ _ _ _ _ _ _ _ _ _ _ _ _ _ _ _ _ _ _ _ _ _ _ _ _ _ _ _ _ _ _ _ _ _ _ _ _ _ _ _ _ _ _ _ _ _ _ _ _ _ _ _ _ _ _ _ _ _ _ _ _ _ _ _ _ _ _ _ _ _ _ _ _ _ _ _ _ _ _ _ _ _ ⟨_, _, _, _, HT3.out, HN.out⟩
set_option maxRecDepth 100000 in
set_option maxHeartbeats 32000000 in
theorem pl_sw3 (w wc : World) (A X M R V : Nat) (a : Ar) (v : Vt) (m : Ra) (r : Rv) (s1 s2 : Int) (K : Act → World → Prop) (E : Exit → Act → World → Prop) (C : Code) (hC : C = plBlk 4)
    (HO : Hid (ElO w A X M R)) (HT : Hid (ElT w A X M R a v m r wc)) (HN : Hid (ElN a v m r)) (HV : Hid (VrAt wc V 3 s1 s2)) (hRV : R < V) (HE : Hid (∀ W, Below w.heap.size w W → ErrLaid W))
    (v0 v1 v2 v3 v4 v5 v6 v7 v8 v9 v10 v12 v14 v16 v17 v20 v22 v24 v25 v26 v27 v28 v29 v30 v31 v32 v33 v34 v35 v36 v37 v38 v39 v40 v41 v42 v43 v44 v45 v46 v47 v48 v49 v50 v51 v52 v53 v54 v55 v56 v57 v58 v59 v60 v61 v62 v63 v64 v65 v66 v67 v68 v69 v70 v71 v72 v73 v74 v75 v76 v77 v78 v79 v80 v81 v82 v83 v84 v85 v86 v87 v88 v89 v90 v91 v92 v93 v94 v95 v96 v97 v98 v99 v100 v101 v102 v103 v104 v105 v106 v107 v108 v109 v110 v111 v112 v113 v114 v115 v116 v117 v118 v119 v120 v121 v122 v123 v124 v125 v126 v127 v128 v129 v130 v131 v132 v133 v134 v135 v136 v137 v138 v139 v140 v141 v142 v144 v145 v146 v147 v148 v149 v150 v151 v152 v153 v154 v155 v156 v157 v158 v159 v160 v161 v162 v163 v164 v165 v166 v167 v168 v169 v170 v171 v172 v173 v174 v175 v176 v177 v178 v179 v180 v181 v182 v183 v184 v185 v186 v187 v188 v189 v190 v191 v192 v193 v194 v195 v196 v197 v198 v199 v200 v201 v202 v203 v204 v205 v206 v207 v208 v209 v210 v211 v212 v213 v214 v215 v216 v217 v218 v219 v220 v221 v222 v223 v224 v225 v226 v227 v228 v229 v230 v231 v232 v233 v234 v235 v236 v237 v238 v239 v240 v241 v242 v243 v244 v245 v246 v247 v248 v249 v250 v251 v252 v253 v254 v255 v256 v257 v258 v259 v260 v261 v262 v263 v264 v265 v266 v267 v268 v269 v270 v271 v272 v273 v274 v275 v276 v277 v278 v279 v280 v281 v282 v283 v284 v285 v286 v287 v288 v289 v290 v291 v292 v293 v294 v295 v296 v297 v298 v299 v300 v301 v302 v303 v304 v305 v306 v307 v308 v309 v310 v311 v312 v313 v314 v315 v316 v317 v318 v319 v320 v321 v322 v323 v324 v325 v326 v327 v328 v329 v330 v331 v332 v333 v334 v335 v336 v337 v338 v339 v340 v341 v342 v343 v344 v345 v346 v347 v348 v349 v350 v351 v352 v353 v354 v355 v356 v357 v358 v359 v360 v361 v362 v363 v364 v365 : Value)
    (hK : ∀ (W9 : World) (u13 u24 u25 u26 u27 u28 u29 u30 u31 u32 u33 u144 u145 u146 u147 u148 u149 u150 u151 u152 u153 u154 u155 u156 u157 u158 u159 u160 u161 u162 u163 u164 u165 u166 u167 u168 u169 u170 u171 u172 u173 u174 u175 u176 u177 u178 u179 u180 u181 u182 u183 u184 u185 u186 u187 u188 u189 u190 u191 u192 u193 u194 u195 u196 u197 u198 u199 u200 u201 u202 u203 u204 u205 u206 u207 u208 u209 u210 u211 u212 u213 u214 u215 u216 u217 u218 u219 u220 u221 u222 u223 u224 u225 u226 u227 u228 u229 u230 u231 u232 u233 u234 u235 u236 u237 u238 u239 u240 u241 u242 u243 u244 u245 u246 u247 u248 u249 u250 u251 u252 u253 u254 u255 u256 u257 u258 u259 u260 u261 u262 u263 u264 u265 u266 u267 u268 u269 u270 u271 u272 u273 u274 u275 u276 u277 u278 u279 u280 u281 u282 u283 u284 u285 u286 u287 u288 u289 u290 u291 u292 u293 u294 u295 u296 u297 u298 u299 u300 u301 u302 u303 u304 u305 u306 u307 u308 u309 u310 u311 u312 u313 u314 u315 u316 u317 u318 u319 u320 u321 u322 u323 u324 u325 u326 u327 u328 u329 u330 u331 u332 u333 u334 u335 u336 u337 u338 u339 u340 u341 u342 u343 u344 u345 u346 u347 u348 u349 u350 u351 u352 u353 u354 : Value), ElS w A X M R W9 → K { tmps := #[v0, v1, v2, v3, v4, v5, v6, v7, v8, v9, v10, .pointer (some ⟨A, 0, none⟩), v12, u13, v14, .pointer (some ⟨X, 0, none⟩), v16, v17, .pointer (some ⟨M, 0, none⟩), .pointer (some ⟨R, 0, none⟩), v20, .pointer (some ⟨V, 0, none⟩), v22, .bool true, u24, u25, u26, u27, u28, u29, u30, u31, u32, u33, v34, v35, v36, v37, v38, v39, v40, v41, v42, v43, v44, v45, v46, v47, v48, v49, v50, v51, v52, v53, v54, v55, v56, v57, v58, v59, v60, v61, v62, v63, v64, v65, v66, v67, v68, v69, v70, v71, v72, v73, v74, v75, v76, v77, v78, v79, v80, v81, v82, v83, v84, v85, v86, v87, v88, v89, v90, v91, v92, v93, v94, v95, v96, v97, v98, v99, v100, v101, v102, v103, v104, v105, v106, v107, v108, v109, v110, v111, v112, v113, v114, v115, v116, v117, v118, v119, v120, v121, v122, v123, v124, v125, v126, v127, v128, v129, v130, v131, v132, v133, v134, v135, v136, v137, v138, v139, v140, v141, v142, .int .i64 3, u144, u145, u146, u147, u148, u149, u150, u151, u152, u153, u154, u155, u156, u157, u158, u159, u160, u161, u162, u163, u164, u165, u166, u167, u168, u169, u170, u171, u172, u173, u174, u175, u176, u177, u178, u179, u180, u181, u182, u183, u184, u185, u186, u187, u188, u189, u190, u191, u192, u193, u194, u195, u196, u197, u198, u199, u200, u201, u202, u203, u204, u205, u206, u207, u208, u209, u210, u211, u212, u213, u214, u215, u216, u217, u218, u219, u220, u221, u222, u223, u224, u225, u226, u227, u228, u229, u230, u231, u232, u233, u234, u235, u236, u237, u238, u239, u240, u241, u242, u243, u244, u245, u246, u247, u248, u249, u250, u251, u252, u253, u254, u255, u256, u257, u258, u259, u260, u261, u262, u263, u264, u265, u266, u267, u268, u269, u270, u271, u272, u273, u274, u275, u276, u277, u278, u279, u280, u281, u282, u283, u284, u285, u286, u287, u288, u289, u290, u291, u292, u293, u294, u295, u296, u297, u298, u299, u300, u301, u302, u303, u304, u305, u306, u307, u308, u309, u310, u311, u312, u313, u314, u315, u316, u317, u318, u319, u320, u321, u322, u323, u324, u325, u326, u327, u328, u329, u330, u331, u332, u333, u334, u335, u336, u337, u338, u339, u340, u341, u342, u343, u344, u345, u346, u347, u348, u349, u350, u351, u352, u353, u354, v355, v356, v357, v358, v359, v360, v361, v362, v363, v364, v365], defers := [] } W9) :
    Code.wp Tryd.prog C (Exit.then K E) { tmps := #[v0, v1, v2, v3, v4, v5, v6, v7, v8, v9, v10, .pointer (some ⟨A, 0, none⟩), v12, .int .i64 (tmE r.now s1), v14, .pointer (some ⟨X, 0, none⟩), v16, v17, .pointer (some ⟨M, 0, none⟩), .pointer (some ⟨R, 0, none⟩), v20, .pointer (some ⟨V, 0, none⟩), v22, .bool true, v24, v25, v26, v27, v28, v29, v30, v31, v32, v33, v34, v35, v36, v37, v38, v39, v40, v41, v42, v43, v44, v45, v46, v47, v48, v49, v50, v51, v52, v53, v54, v55, v56, v57, v58, v59, v60, v61, v62, v63, v64, v65, v66, v67, v68, v69, v70, v71, v72, v73, v74, v75, v76, v77, v78, v79, v80, v81, v82, v83, v84, v85, v86, v87, v88, v89, v90, v91, v92, v93, v94, v95, v96, v97, v98, v99, v100, v101, v102, v103, v104, v105, v106, v107, v108, v109, v110, v111, v112, v113, v114, v115, v116, v117, v118, v119, v120, v121, v122, v123, v124, v125, v126, v127, v128, v129, v130, v131, v132, v133, v134, v135, v136, v137, v138, v139, v140, v141, v142, .int .i64 3, v144, v145, v146, v147, v148, v149, v150, v151, v152, v153, v154, v155, v156, v157, v158, v159, v160, v161, v162, v163, v164, v165, v166, v167, v168, v169, v170, v171, v172, v173, v174, v175, v176, v177, v178, v179, v180, v181, v182, v183, v184, v185, v186, v187, v188, v189, v190, v191, v192, v193, v194, v195, v196, v197, v198, v199, v200, v201, v202, v203, v204, v205, v206, v207, v208, v209, v210, v211, v212, v213, v214, v215, v216, v217, v218, v219, v220, v221, v222, v223, v224, v225, v226, v227, v228, v229, v230, v231, v232, v233, v234, v235, v236, v237, v238, v239, v240, v241, v242, v243, v244, v245, v246, v247, v248, v249, v250, v251, v252, v253, v254, v255, v256, v257, v258, v259, v260, v261, v262, v263, v264, v265, v266, v267, v268, v269, v270, v271, v272, v273, v274, v275, v276, v277, v278, v279, v280, v281, v282, v283, v284, v285, v286, v287, v288, v289, v290, v291, v292, v293, v294, v295, v296, v297, v298, v299, v300, v301, v302, v303, v304, v305, v306, v307, v308, v309, v310, v311, v312, v313, v314, v315, v316, v317, v318, v319, v320, v321, v322, v323, v324, v325, v326, v327, v328, v329, v330, v331, v332, v333, v334, v335, v336, v337, v338, v339, v340, v341, v342, v343, v344, v345, v346, v347, v348, v349, v350, v351, v352, v353, v354, v355, v356, v357, v358, v359, v360, v361, v362, v363, v364, v365], defers := [] } wc := by
  subst hC
  conv =>
    arg 2
    unfold plBlk
    unfold Tryd.f3
    simp only [Option.getD_some, blkAt]
  conv =>
    arg 4
    zeta
  simp (maxSteps := 10000000) only at hK
  have HK := hidO hK
  clear hK
  have o1 := HO.out.o1
  have o2 := HO.out.o2
  have o3 := HO.out.o3
  have o4 := HO.out.o4
  have en : tmE v.now s1 = tmE r.now s1 := by rw [HN.out.sv.n]
  obtain ⟨⟨c0, c1, c2⟩, _⟩ := vr_cells HV.out
  have HQ : Hid (∀ W, VtAt W X v → Calls Tryd.prog 14 #[.pointer (some ⟨X, 0, none⟩), .int .i64 s2, .int .i64 s1] W fun e w' => e = .returned (elV (granE v s2 s1)) ∧ VtAt w' X (granV v s2 s1) ∧ Turn (fun i => i = X) W w') := fun W hW => grant_any X v s2 s1 W hW
  by_cases hz : tmE r.now s1 = 0
  · obtain ⟨n0, n1, n2⟩ := tmE_ok (en.trans hz)
    cases hp : grB s2
    · have he : granE v s2 s1 = 1 := by unfold granE; rw [if_pos (en.trans hz), hp]; rfl
      have hs : granV v s2 s1 = v := by unfold granV; rw [he]; rfl
      rw [he, hs] at HQ
      have hp' := of_decide_eq_false hp
      have q1 := HQ.out wc HT.out.kx
      rw [hz]
      rcases (by omega : s2 < 0 ∨ (¬ s2 < 0 ∧ 2000000 < s2)) with h1 | ⟨h1, h2⟩
      all_goals
        clear hz hp hp' he hs en HQ n0 n1 n2
        go_upto_region 61 with fail
        go_wp2_with (first
          | (go_at_call 14; go_must ((with_reducible refine q1.mono ?_); rintro e' W2 ⟨rfl, k2, t2⟩; have T2 := HT.out.setX HO.out k2 t2; have q3 := el_same 1 W2 (HE.out W2 T2.bel); have HT2 := hidP T2; clear k2 t2 T2))
          | (go_at_call 6; go_must ((with_reducible refine q3.mono ?_); rintro e' W3 ⟨rfl, b3⟩; have HT3 := hidP (HT2.out.below HO.out b3); clear b3)))
        exact HK.out _ _ _ _ _ _ _ _ _ _ _ _ _ _ _ _ _ _ _ _ _ _ _ _ _ _ _ _ _ _ _ _ _ _ _ _ _ _ _ _ _ _ _ _ _ _ _ _ _ _ _ _ _ _ _ _ _ _ _ _ _ _ _ _ _ _ _ _ _ _ _ _ _ _ _ _ _ _ _ _ _ _ _ _ _ _ _ _ _ _ _ _ _ _ _ _ _ _ _ _ _ _ _ _ _ _ _ _ _ _ _ _ _ _ _ _ _ _ _ _ _ _ _ _ _ _ _ _ _ _ _ _ _ _ _ _ _ _ _ _ _ _ _ _ _ _ _ _ _ _ _ _ _ _ _ _ _ _ _ _ _ _ _ _ _ _ _ _ _ _ _ _ _ _ _ _ _ _ _ _ _ _ _ _ _ _ _ _ _ _ _ _ _ _ _ _ _ _ _ _ _ _ _ _ _ _ _ _ _ _ _ _ _ _ _ _ _ _ _ _ _ _ _ ⟨_, _, _, _, HT3.out, HN.out⟩
    · have he : granE v s2 s1 = 0 := by unfold granE; rw [if_pos (en.trans hz), hp]; rfl
      have hs : granV v s2 s1 = { v with now := s1, unt := s2 } := by unfold granV; rw [he]; rfl
      have ov := HN.out.ov.gran s2 s1
      rw [he, hs] at HQ
      rw [hs] at ov
      have hp' := of_decide_eq_true hp
      have h1 : ¬ s2 < 0 := by omega
      have h2 : ¬ 2000000 < s2 := by omega
      have HN' : Hid (ElN a _ m _) := ⟨HN.out.oa, ov, HN.out.orr.gran s1 (of_decide_eq_true hp).1 (of_decide_eq_true hp).2, HN.out.sa, HN.out.sv.gran n2 s2⟩
      have ho : Only R wc ((wc.setCell ⟨R, 3, none⟩ (.int .i64 s1)).setCell ⟨R, 4, none⟩ (.int .i64 s2)) := ((Only.refl _ _).setCell _ _).setCell _ _
      have k1 := rv_gran HT.out.kr s1 s2
      obtain ⟨_, f1, f3, f4, f5, f6, f7⟩ := rv_cells HT.out.kr
      have hRV2 : V ≠ R := by omega
      rw [hz]
      clear hz hp hp' he hs en ov
      go_upto_region 61 with fail
      obtain ⟨W1, hW1⟩ : ∃ W1, ((wc.setCell ⟨R, 3, none⟩ (.int .i64 s1)).setCell ⟨R, 4, none⟩ (.int .i64 s2)) = W1 := ⟨_, rfl⟩
      rw [hW1] at ho k1
      rw [hW1]
      have t1 : Turn (fun i => i = R) wc W1 := Turn.of_only ho rfl
      have T1 := HT.out.setR HO.out k1 t1
      have V1 := HV.out.turn t1 (by omega)
      have q1 := HQ.out W1 T1.kx
      have HT1 := hidP T1
      clear c0 c1 c2
      obtain ⟨⟨c0, c1, c2⟩, _⟩ := vr_cells V1
      clear hW1 ho k1 t1 T1 V1 HQ HT HV f1 f3 f4 f5 f6 f7
      go_wp2_with (first
        | (go_at_call 14; go_must ((with_reducible refine q1.mono ?_); rintro e' W2 ⟨rfl, k2, t2⟩; have T2 := HT1.out.setX HO.out k2 t2; have q3 := el_same 0 W2 (HE.out W2 T2.bel); have HT2 := hidP T2; clear k2 t2 T2))
        | (go_at_call 6; go_must ((with_reducible refine q3.mono ?_); rintro e' W3 ⟨rfl, b3⟩; have HT3 := hidP (HT2.out.below HO.out b3); clear b3)))
      exact HK.out _ _ _ _ _ _ _ _ _ _ _ _ _ _ _ _ _ _ _ _ _ _ _ _ _ _ _ _ _ _ _ _ _ _ _ _ _ _ _ _ _ _ _ _ _ _ _ _ _ _ _ _ _ _ _ _ _ _ _ _ _ _ _ _ _ _ _ _ _ _ _ _ _ _ _ _ _ _ _ _ _ _ _ _ _ _ _ _ _ _ _ _ _ _ _ _ _ _ _ _ _ _ _ _ _ _ _ _ _ _ _ _ _ _ _ _ _ _ _ _ _ _ _ _ _ _ _ _ _ _ _ _ _ _ _ _ _ _ _ _ _ _ _ _ _ _ _ _ _ _ _ _ _ _ _ _ _ _ _ _ _ _ _ _ _ _ _ _ _ _ _ _ _ _ _ _ _ _ _ _ _ _ _ _ _ _ _ _ _ _ _ _ _ _ _ _ _ _ _ _ _ _ _ _ _ _ _ _ _ _ _ _ _ _ _ _ _ _ _ _ _ _ _ ⟨_, _, _, _, HT3.out, HN'.out⟩
  · have he : granE v s2 s1 = tmE r.now s1 := by unfold granE; rw [en, if_neg hz]
    have hs : granV v s2 s1 = v := by unfold granV; rw [he, if_neg hz]
    rw [he, hs] at HQ
    generalize tmE r.now s1 = z at HQ hz ⊢
    have q1 := HQ.out wc HT.out.kx
    have h0 : (z == 0) = false := by simpa using hz
    clear hz he hs en HQ
    go_upto_region 61 with fail
    go_wp2_with (first
      | (go_at_call 14; go_must ((with_reducible refine q1.mono ?_); rintro e' W2 ⟨rfl, k2, t2⟩; have T2 := HT.out.setX HO.out k2 t2; have q3 := el_same z W2 (HE.out W2 T2.bel); have HT2 := hidP T2; clear k2 t2 T2))
      | (go_at_call 6; go_must ((with_reducible refine q3.mono ?_); rintro e' W3 ⟨rfl, b3⟩; have HT3 := hidP (HT2.out.below HO.out b3); clear b3)))
    exact HK.out _ _ _ _ _ _ _ _ _ _ _ _ _ _ _ _ _ _ _ _ _ _ _ _ _ _ _ _ _ _ _ _ _ _ _ _ _ _ _ _ _ _ _ _ _ _ _ _ _ _ _ _ _ _ _ _ _ _ _ _ _ _ _ _ _ _ _ _ _ _ _ _ _ _ _ _ _ _ _ _ _ _ _ _ _ _ _ _ _ _ _ _ _ _ _ _ _ _ _ _ _ _ _ _ _ _ _ _ _ _ _ _ _ _ _ _ _ _ _ _ _ _ _ _ _ _ _ _ _ _ _ _ _ _ _ _ _ _ _ _ _ _ _ _ _ _ _ _ _ _ _ _ _ _ _ _ _ _ _ _ _ _ _ _ _ _ _ _ _ _ _ _ _ _ _ _ _ _ _ _ _ _ _ _ _ _ _ _ _ _ _ _ _ _ _ _ _ _ _ _ _ _ _ _ _ _ _ _ _ _ _ _ _ _ _ _ _ _ _ _ _ _ _ ⟨_, _, _, _, HT3.out, HN.out⟩
end Go.Proofs.YtempphlbgeogiaaDoor
