/- TablePlays: Adopt of both. -/
import Derived.Test.YtobfkabhnanpfaaGreatDoorMiA
namespace Go.Proofs.YtobfkabhnanpfaaGreatDoor
open Go.RowKit Go.Maps
set_option linter.unusedVariables false

set_option maxRecDepth 100000 in
set_option maxHeartbeats 32000000 in
theorem tp_ado4a (w W0 : World) (A M V KB SB l c fl fc : Nat) (a fa : Option Addr) (t u : Tb) (k : Ky) (s : Sg) (fs : List Fl) (z1 z2 z3 : Int) (K : Act → World → Prop) (E : Exit → Act → World → Prop) (C : Code) (hC : C = tpBlk 4)
    (HO : Hid (TpO w A M)) (HT : Hid (TpT w A M t u W0)) (HN : Hid (TpN t u)) (HV : Hid (V4At W0 V 4 z1 z2 z3)) (HVL : Hid (w.heap.size ≤ V)) (HKY : Hid (KyAt W0 KB k)) (HKL : Hid (w.heap.size ≤ KB)) (HKO : Hid (KyOk k)) (HSG : Hid (SgAt W0 SB s (.slice a l c)))
    (HBY : Hid (∀ W, Below w.heap.size w W → Bytes W (.slice a l c) s.body)) (HFS : Hid (Fls w (.slice fa fl fc) fs)) (HE : Hid (∀ W, Below w.heap.size w W → ErrLaid W)) (hin : ¬ (0 ≤ z1 ∧ z1 < (fl : Int))) (HL : Hid (∀ W, Below w.heap.size w W → Lives W))
    (v0 v1 v3 v4 v5 v6 v7 v8 v10 v11 v12 v14 v16 v20 v21 v22 v23 v24 v25 v26 v27 v28 v29 v30 v31 v32 v33 v34 v35 v36 v37 v38 v39 v40 v41 v42 v43 v44 v45 v46 v47 v48 v49 v50 v51 v52 v53 v54 v55 v56 v57 v58 v59 v60 v61 v62 v63 v64 v65 v66 v67 v68 v69 v70 v71 v72 v73 v74 v75 v76 v77 v78 v79 v80 v81 v82 v83 v84 v85 v86 v87 v88 v89 v90 v91 v92 v93 v94 v95 v96 v97 v98 v99 v100 v101 v102 v103 v104 v105 v106 v107 v108 v109 v110 v111 v112 v113 v114 v115 v116 v117 v118 v119 v120 v121 v122 v123 v124 v125 v126 v127 v128 v129 v131 v132 v133 v134 v135 v136 v137 v138 v139 v140 v141 v142 v143 v144 v145 v146 v147 v148 v149 v150 v151 v152 v153 v154 v155 v156 v157 v158 v159 v160 v161 v162 v163 v164 v165 v166 v167 v168 v169 v170 v171 v172 v173 v174 v175 v176 v177 v178 v179 v180 v181 v182 v183 v184 v185 v186 v187 v188 v189 v190 v191 v192 v193 v194 v195 v196 v197 v198 v199 v200 v201 v202 v203 v204 v205 v206 v207 v208 v209 v210 v211 v212 v213 v214 v215 v216 v217 v218 v219 v220 v221 v222 v223 v224 v225 v226 v227 v228 v229 v230 v231 v232 v233 v234 v235 v236 v237 v238 v239 v240 v241 v242 v243 v244 v245 v246 v247 v248 v249 v250 v251 v252 v253 v254 v255 v256 v257 v258 v259 v260 v261 v262 v263 v264 v265 v266 v267 v268 v269 v270 v271 v272 v273 v274 v275 v276 v277 v278 v279 v280 v281 v282 v283 v284 v285 v286 v287 v288 v289 v290 v291 v292 v293 v294 v295 v296 v297 v298 v299 v300 v301 v302 v303 v304 v305 v306 v307 v308 v309 v310 : Value)
    (hK : ∀ (W9 : World) (u20 u21 u22 u23 u24 u25 u26 u27 u28 u29 u30 u31 u32 u33 u34 u35 u36 u37 u131 u132 u133 u134 u135 u136 u137 u138 u139 u140 u141 u142 u143 u144 u145 u146 u147 u148 u149 u150 u151 u152 u153 u154 u155 u156 u157 u158 u159 u160 u161 u162 u163 u164 u165 u166 u167 u168 u169 u170 u171 u172 u173 u174 u175 u176 u177 u178 u179 u180 u181 u182 u183 u184 u185 u186 u187 u188 u189 u190 u191 u192 u193 u194 u195 u196 u197 u198 u199 u200 u201 u202 u203 u204 u205 u206 u207 u208 u209 u210 u211 u212 u213 u214 u215 u216 u217 u218 u219 u220 u221 u222 u223 u224 u225 u226 u227 u228 u229 u230 u231 u232 u233 u234 u235 u236 u237 u238 u239 u240 u241 u242 u243 u244 u245 u246 u247 u248 u249 u250 u251 u252 u253 u254 u255 u256 u257 u258 u259 u260 u261 u262 u263 u264 : Value), TpS w A M W9 → (∃ k', KyOk k' ∧ KyAt W9 KB k') → K { tmps := #[v0, v1, .slice fa fl fc, v3, v4, v5, v6, v7, v8, .pointer (some ⟨A, 0, none⟩), v10, v11, .bool true, .pointer (some ⟨M, 0, none⟩), v14, .pointer (some ⟨V, 0, none⟩), v16, .pointer (some ⟨KB, 0, none⟩), .pointer (some ⟨SB, 0, none⟩), .int .i64 z3, u20, u21, u22, u23, u24, u25, u26, u27, u28, u29, u30, u31, u32, u33, u34, u35, u36, u37, v38, v39, v40, v41, v42, v43, v44, v45, v46, v47, v48, v49, v50, v51, v52, v53, v54, v55, v56, v57, v58, v59, v60, v61, v62, v63, v64, v65, v66, v67, v68, v69, v70, v71, v72, v73, v74, v75, v76, v77, v78, v79, v80, v81, v82, v83, v84, v85, v86, v87, v88, v89, v90, v91, v92, v93, v94, v95, v96, v97, v98, v99, v100, v101, v102, v103, v104, v105, v106, v107, v108, v109, v110, v111, v112, v113, v114, v115, v116, v117, v118, v119, v120, v121, v122, v123, v124, v125, v126, v127, v128, v129, .int .i64 4, u131, u132, u133, u134, u135, u136, u137, u138, u139, u140, u141, u142, u143, u144, u145, u146, u147, u148, u149, u150, u151, u152, u153, u154, u155, u156, u157, u158, u159, u160, u161, u162, u163, u164, u165, u166, u167, u168, u169, u170, u171, u172, u173, u174, u175, u176, u177, u178, u179, u180, u181, u182, u183, u184, u185, u186, u187, u188, u189, u190, u191, u192, u193, u194, u195, u196, u197, u198, u199, u200, u201, u202, u203, u204, u205, u206, u207, u208, u209, u210, u211, u212, u213, u214, u215, u216, u217, u218, u219, u220, u221, u222, u223, u224, u225, u226, u227, u228, u229, u230, u231, u232, u233, u234, u235, u236, u237, u238, u239, u240, u241, u242, u243, u244, u245, u246, u247, u248, u249, u250, u251, u252, u253, u254, u255, u256, u257, u258, u259, u260, u261, u262, u263, u264, v265, v266, v267, v268, v269, v270, v271, v272, v273, v274, v275, v276, v277, v278, v279, v280, v281, v282, v283, v284, v285, v286, v287, v288, v289, v290, v291, v292, v293, v294, v295, v296, v297, v298, v299, v300, v301, v302, v303, v304, v305, v306, v307, v308, v309, v310], defers := [] } W9) :
    Code.wp Tryz.prog C (Exit.then K E) { tmps := #[v0, v1, .slice fa fl fc, v3, v4, v5, v6, v7, v8, .pointer (some ⟨A, 0, none⟩), v10, v11, v12, .pointer (some ⟨M, 0, none⟩), v14, .pointer (some ⟨V, 0, none⟩), v16, .pointer (some ⟨KB, 0, none⟩), .pointer (some ⟨SB, 0, none⟩), .int .i64 z3, v20, v21, v22, v23, v24, v25, v26, v27, v28, v29, v30, v31, v32, v33, v34, v35, v36, v37, v38, v39, v40, v41, v42, v43, v44, v45, v46, v47, v48, v49, v50, v51, v52, v53, v54, v55, v56, v57, v58, v59, v60, v61, v62, v63, v64, v65, v66, v67, v68, v69, v70, v71, v72, v73, v74, v75, v76, v77, v78, v79, v80, v81, v82, v83, v84, v85, v86, v87, v88, v89, v90, v91, v92, v93, v94, v95, v96, v97, v98, v99, v100, v101, v102, v103, v104, v105, v106, v107, v108, v109, v110, v111, v112, v113, v114, v115, v116, v117, v118, v119, v120, v121, v122, v123, v124, v125, v126, v127, v128, v129, .int .i64 4, v131, v132, v133, v134, v135, v136, v137, v138, v139, v140, v141, v142, v143, v144, v145, v146, v147, v148, v149, v150, v151, v152, v153, v154, v155, v156, v157, v158, v159, v160, v161, v162, v163, v164, v165, v166, v167, v168, v169, v170, v171, v172, v173, v174, v175, v176, v177, v178, v179, v180, v181, v182, v183, v184, v185, v186, v187, v188, v189, v190, v191, v192, v193, v194, v195, v196, v197, v198, v199, v200, v201, v202, v203, v204, v205, v206, v207, v208, v209, v210, v211, v212, v213, v214, v215, v216, v217, v218, v219, v220, v221, v222, v223, v224, v225, v226, v227, v228, v229, v230, v231, v232, v233, v234, v235, v236, v237, v238, v239, v240, v241, v242, v243, v244, v245, v246, v247, v248, v249, v250, v251, v252, v253, v254, v255, v256, v257, v258, v259, v260, v261, v262, v263, v264, v265, v266, v267, v268, v269, v270, v271, v272, v273, v274, v275, v276, v277, v278, v279, v280, v281, v282, v283, v284, v285, v286, v287, v288, v289, v290, v291, v292, v293, v294, v295, v296, v297, v298, v299, v300, v301, v302, v303, v304, v305, v306, v307, v308, v309, v310], defers := [] } W0 := by
  subst hC
  conv =>
    arg 2
    unfold tpBlk
    unfold Tryz.f3
    simp only [Option.getD_some, blkAt]
  conv =>
    arg 4
    zeta
  try simp (maxSteps := 10000000) only at hK
  have HK := hidE hK
  clear hK
  have b1 : Below W0.heap.size W0 (W0.alloc (.cells #[.int .i64 0, .int .i64 0, .int .i64 0, .int .i64 0, .int .i64 0, .int .i64 0, .int .i64 0, .int .i64 0, .int .i64 0, .int .i64 0, .int .i64 0, .int .i64 0, .bool false, .bool false, .int .i64 0] 45)) := (Below.refl _ _).alloc (Nat.le_refl _) _
  have p1 := FlAt.zero W0
  obtain ⟨Y, hY⟩ : ∃ Y, W0.heap.size = Y := ⟨_, rfl⟩
  have HYL : Hid (w.heap.size ≤ Y) := by rw [← hY]; exact HT.out.bel.size
  obtain ⟨W1, hW1⟩ : ∃ W1, W0.alloc (.cells #[.int .i64 0, .int .i64 0, .int .i64 0, .int .i64 0, .int .i64 0, .int .i64 0, .int .i64 0, .int .i64 0, .int .i64 0, .int .i64 0, .int .i64 0, .int .i64 0, .bool false, .bool false, .int .i64 0] 45) = W1 := ⟨_, rfl⟩
  rw [hW1] at b1 p1
  rw [hY] at p1
  have HT1 := hidE (HT.out.below b1)
  have HKY1 := hidE ((Kp.below b1).ky HKY.out)
  have V1 := (Kp.below b1).v4 HV.out
  have HP1 := hidE p1
  clear HT HKY HV b1
  obtain ⟨⟨_, c1, _, _⟩, _⟩ := v4_cells V1
  go_upto_region 51 with fail
  try rw [hW1]
  try rw [hY]
  clear hW1 hY
  obtain ⟨f, hf⟩ : ∃ f, zeroF = f := ⟨_, rfl⟩
  rw [hf] at HP1
  clear hf p1
  obtain ⟨d0, d1, d2, d3, d4, d5, d6, d7, d8, d9, d10, d11, d12, d13, d14⟩ := HP1.out.cells
  rcases (by omega : ¬ (0 : Int) ≤ z1 ∨ ((0 : Int) ≤ z1 ∧ ¬ z1 < (fl : Int))) with j1 | ⟨j1, j2⟩
  all_goals
    clear hin
    go_upto_region 53 with fail
    obtain ⟨va, hv, hne⟩ := HT1.out.lr
    have q1 := ladopt_any M u va f z3 W1 hv HN.out.len.2 hne
    obtain ⟨z, hz⟩ : ∃ z, adE u f z3 = z := ⟨_, rfl⟩
    obtain ⟨X, hX⟩ : ∃ X, adB u f z3 = X := ⟨_, rfl⟩
    rw [hz, hX] at q1
    have HZ : Hid (adE t f z3 = z ∧ adB t f z3 = X) := ⟨by rw [← hz]; exact HN.out.tw.adE _ _, by rw [← hX]; exact HN.out.tw.adB _ _⟩
    obtain ⟨x, hx⟩ : ∃ x, (if z = 0 then X else false) = x := ⟨_, rfl⟩
    rw [hx] at q1
    have HX := hidE hx
    unfold flV at q1
    clear hz hX hx
    go_upto_region 54 with (go_at_call 12; go_must ((with_reducible refine q1.mono ?_); rintro e' W2 ⟨rfl, nx1, g9⟩))
    obtain ⟨T2, K2⟩ := HT1.out.setM HO.out hv nx1 g9
    have HT2 := hidE T2
    have HP2 := hidE (K2.fl HP1.out)
    have HKY2 := hidE (K2.ky HKY1.out)
    obtain ⟨m, hm, hb⟩ := T2.tb
    have q2 := adopt_at A m t f z3 W2 hb HN.out.ok (HL.out W2 T2.bel)
    rw [HZ.out.1, HZ.out.2, HX.out] at q2
    unfold flV at q2
    clear d0 d1 d2 d3 d4 d5 d6 d7 d8 d9 d10 d11 d12 d13 d14 q1 T2 K2 nx1 g9 hv hne
    obtain ⟨d0, d1, d2, d3, d4, d5, d6, d7, d8, d9, d10, d11, d12, d13, d14⟩ := HP2.out.cells
    generalize hev : errV z = ev at q2
    have HEV := hidE hev
    clear hev
    go_upto_region 55 with (go_at_call 13; go_must ((with_reducible refine q2.mono ?_); rintro e' W3 ⟨rfl, nx3, g9⟩))
    obtain ⟨T3, K3⟩ := HT2.out.setA HO.out hm hb nx3 g9
    have q3 := tp_same z W3 (HE.out W3 T3.bel)
    rw [HEV.out] at q3
    have HT3 := hidE T3
    have HKY3 := hidE (K3.ky HKY2.out)
    clear d0 d1 d2 d3 d4 d5 d6 d7 d8 d9 d10 d11 d12 d13 d14 q2 T3 K3 nx3 g9 hm hb
    go_upto_region 56 with (go_at_call 5; go_must ((with_reducible refine q3.mono ?_); rintro e' W5 ⟨rfl, b5⟩))
    have HT5 := hidE (HT3.out.below b5)
    have HKY5 := hidE ((Kp.below b5).ky HKY3.out)
    clear b5 q3
    cases x
    all_goals
      go_wp2_with fail
      exact HK.out _ _ _ _ _ _ _ _ _ _ _ _ _ _ _ _ _ _ _ _ _ _ _ _ _ _ _ _ _ _ _ _ _ _ _ _ _ _ _ _ _ _ _ _ _ _ _ _ _ _ _ _ _ _ _ _ _ _ _ _ _ _ _ _ _ _ _ _ _ _ _ _ _ _ _ _ _ _ _ _ _ _ _ _ _ _ _ _ _ _ _ _ _ _ _ _ _ _ _ _ _ _ _ _ _ _ _ _ _ _ _ _ _ _ _ _ _ _ _ _ _ _ _ _ _ _ _ _ _ _ _ _ _ _ _ _ _ _ _ _ _ _ _ _ _ _ _ _ _ _ _ _ _ ⟨_, _, HT5.out, HN.out.adopted f z3⟩ ⟨k, HKO.out, HKY5.out⟩
set_option maxRecDepth 100000 in
set_option maxHeartbeats 32000000 in
theorem tp_ado4b (w W0 : World) (A M V KB SB l c fl fc : Nat) (a fa : Option Addr) (t u : Tb) (k : Ky) (s : Sg) (fs : List Fl) (n : Nat) (z2 z3 : Int) (K : Act → World → Prop) (E : Exit → Act → World → Prop) (C : Code) (hC : C = tpBlk 4)
    (HO : Hid (TpO w A M)) (HT : Hid (TpT w A M t u W0)) (HN : Hid (TpN t u)) (HV : Hid (V4At W0 V 4 (n : Int) z2 z3)) (HVL : Hid (w.heap.size ≤ V)) (HKY : Hid (KyAt W0 KB k)) (HKL : Hid (w.heap.size ≤ KB)) (HKO : Hid (KyOk k)) (HSG : Hid (SgAt W0 SB s (.slice a l c)))
    (HBY : Hid (∀ W, Below w.heap.size w W → Bytes W (.slice a l c) s.body)) (HFS : Hid (Fls w (.slice fa fl fc) fs)) (HE : Hid (∀ W, Below w.heap.size w W → ErrLaid W)) (hn : n < fs.length) (HL : Hid (∀ W, Below w.heap.size w W → Lives W))
    (v0 v1 v3 v4 v5 v6 v7 v8 v10 v11 v12 v14 v16 v20 v21 v22 v23 v24 v25 v26 v27 v28 v29 v30 v31 v32 v33 v34 v35 v36 v37 v38 v39 v40 v41 v42 v43 v44 v45 v46 v47 v48 v49 v50 v51 v52 v53 v54 v55 v56 v57 v58 v59 v60 v61 v62 v63 v64 v65 v66 v67 v68 v69 v70 v71 v72 v73 v74 v75 v76 v77 v78 v79 v80 v81 v82 v83 v84 v85 v86 v87 v88 v89 v90 v91 v92 v93 v94 v95 v96 v97 v98 v99 v100 v101 v102 v103 v104 v105 v106 v107 v108 v109 v110 v111 v112 v113 v114 v115 v116 v117 v118 v119 v120 v121 v122 v123 v124 v125 v126 v127 v128 v129 v131 v132 v133 v134 v135 v136 v137 v138 v139 v140 v141 v142 v143 v144 v145 v146 v147 v148 v149 v150 v151 v152 v153 v154 v155 v156 v157 v158 v159 v160 v161 v162 v163 v164 v165 v166 v167 v168 v169 v170 v171 v172 v173 v174 v175 v176 v177 v178 v179 v180 v181 v182 v183 v184 v185 v186 v187 v188 v189 v190 v191 v192 v193 v194 v195 v196 v197 v198 v199 v200 v201 v202 v203 v204 v205 v206 v207 v208 v209 v210 v211 v212 v213 v214 v215 v216 v217 v218 v219 v220 v221 v222 v223 v224 v225 v226 v227 v228 v229 v230 v231 v232 v233 v234 v235 v236 v237 v238 v239 v240 v241 v242 v243 v244 v245 v246 v247 v248 v249 v250 v251 v252 v253 v254 v255 v256 v257 v258 v259 v260 v261 v262 v263 v264 v265 v266 v267 v268 v269 v270 v271 v272 v273 v274 v275 v276 v277 v278 v279 v280 v281 v282 v283 v284 v285 v286 v287 v288 v289 v290 v291 v292 v293 v294 v295 v296 v297 v298 v299 v300 v301 v302 v303 v304 v305 v306 v307 v308 v309 v310 : Value)
    (hK : ∀ (W9 : World) (u20 u21 u22 u23 u24 u25 u26 u27 u28 u29 u30 u31 u32 u33 u34 u35 u36 u37 u131 u132 u133 u134 u135 u136 u137 u138 u139 u140 u141 u142 u143 u144 u145 u146 u147 u148 u149 u150 u151 u152 u153 u154 u155 u156 u157 u158 u159 u160 u161 u162 u163 u164 u165 u166 u167 u168 u169 u170 u171 u172 u173 u174 u175 u176 u177 u178 u179 u180 u181 u182 u183 u184 u185 u186 u187 u188 u189 u190 u191 u192 u193 u194 u195 u196 u197 u198 u199 u200 u201 u202 u203 u204 u205 u206 u207 u208 u209 u210 u211 u212 u213 u214 u215 u216 u217 u218 u219 u220 u221 u222 u223 u224 u225 u226 u227 u228 u229 u230 u231 u232 u233 u234 u235 u236 u237 u238 u239 u240 u241 u242 u243 u244 u245 u246 u247 u248 u249 u250 u251 u252 u253 u254 u255 u256 u257 u258 u259 u260 u261 u262 u263 u264 : Value), TpS w A M W9 → (∃ k', KyOk k' ∧ KyAt W9 KB k') → K { tmps := #[v0, v1, .slice fa fl fc, v3, v4, v5, v6, v7, v8, .pointer (some ⟨A, 0, none⟩), v10, v11, .bool true, .pointer (some ⟨M, 0, none⟩), v14, .pointer (some ⟨V, 0, none⟩), v16, .pointer (some ⟨KB, 0, none⟩), .pointer (some ⟨SB, 0, none⟩), .int .i64 z3, u20, u21, u22, u23, u24, u25, u26, u27, u28, u29, u30, u31, u32, u33, u34, u35, u36, u37, v38, v39, v40, v41, v42, v43, v44, v45, v46, v47, v48, v49, v50, v51, v52, v53, v54, v55, v56, v57, v58, v59, v60, v61, v62, v63, v64, v65, v66, v67, v68, v69, v70, v71, v72, v73, v74, v75, v76, v77, v78, v79, v80, v81, v82, v83, v84, v85, v86, v87, v88, v89, v90, v91, v92, v93, v94, v95, v96, v97, v98, v99, v100, v101, v102, v103, v104, v105, v106, v107, v108, v109, v110, v111, v112, v113, v114, v115, v116, v117, v118, v119, v120, v121, v122, v123, v124, v125, v126, v127, v128, v129, .int .i64 4, u131, u132, u133, u134, u135, u136, u137, u138, u139, u140, u141, u142, u143, u144, u145, u146, u147, u148, u149, u150, u151, u152, u153, u154, u155, u156, u157, u158, u159, u160, u161, u162, u163, u164, u165, u166, u167, u168, u169, u170, u171, u172, u173, u174, u175, u176, u177, u178, u179, u180, u181, u182, u183, u184, u185, u186, u187, u188, u189, u190, u191, u192, u193, u194, u195, u196, u197, u198, u199, u200, u201, u202, u203, u204, u205, u206, u207, u208, u209, u210, u211, u212, u213, u214, u215, u216, u217, u218, u219, u220, u221, u222, u223, u224, u225, u226, u227, u228, u229, u230, u231, u232, u233, u234, u235, u236, u237, u238, u239, u240, u241, u242, u243, u244, u245, u246, u247, u248, u249, u250, u251, u252, u253, u254, u255, u256, u257, u258, u259, u260, u261, u262, u263, u264, v265, v266, v267, v268, v269, v270, v271, v272, v273, v274, v275, v276, v277, v278, v279, v280, v281, v282, v283, v284, v285, v286, v287, v288, v289, v290, v291, v292, v293, v294, v295, v296, v297, v298, v299, v300, v301, v302, v303, v304, v305, v306, v307, v308, v309, v310], defers := [] } W9) :
    Code.wp Tryz.prog C (Exit.then K E) { tmps := #[v0, v1, .slice fa fl fc, v3, v4, v5, v6, v7, v8, .pointer (some ⟨A, 0, none⟩), v10, v11, v12, .pointer (some ⟨M, 0, none⟩), v14, .pointer (some ⟨V, 0, none⟩), v16, .pointer (some ⟨KB, 0, none⟩), .pointer (some ⟨SB, 0, none⟩), .int .i64 z3, v20, v21, v22, v23, v24, v25, v26, v27, v28, v29, v30, v31, v32, v33, v34, v35, v36, v37, v38, v39, v40, v41, v42, v43, v44, v45, v46, v47, v48, v49, v50, v51, v52, v53, v54, v55, v56, v57, v58, v59, v60, v61, v62, v63, v64, v65, v66, v67, v68, v69, v70, v71, v72, v73, v74, v75, v76, v77, v78, v79, v80, v81, v82, v83, v84, v85, v86, v87, v88, v89, v90, v91, v92, v93, v94, v95, v96, v97, v98, v99, v100, v101, v102, v103, v104, v105, v106, v107, v108, v109, v110, v111, v112, v113, v114, v115, v116, v117, v118, v119, v120, v121, v122, v123, v124, v125, v126, v127, v128, v129, .int .i64 4, v131, v132, v133, v134, v135, v136, v137, v138, v139, v140, v141, v142, v143, v144, v145, v146, v147, v148, v149, v150, v151, v152, v153, v154, v155, v156, v157, v158, v159, v160, v161, v162, v163, v164, v165, v166, v167, v168, v169, v170, v171, v172, v173, v174, v175, v176, v177, v178, v179, v180, v181, v182, v183, v184, v185, v186, v187, v188, v189, v190, v191, v192, v193, v194, v195, v196, v197, v198, v199, v200, v201, v202, v203, v204, v205, v206, v207, v208, v209, v210, v211, v212, v213, v214, v215, v216, v217, v218, v219, v220, v221, v222, v223, v224, v225, v226, v227, v228, v229, v230, v231, v232, v233, v234, v235, v236, v237, v238, v239, v240, v241, v242, v243, v244, v245, v246, v247, v248, v249, v250, v251, v252, v253, v254, v255, v256, v257, v258, v259, v260, v261, v262, v263, v264, v265, v266, v267, v268, v269, v270, v271, v272, v273, v274, v275, v276, v277, v278, v279, v280, v281, v282, v283, v284, v285, v286, v287, v288, v289, v290, v291, v292, v293, v294, v295, v296, v297, v298, v299, v300, v301, v302, v303, v304, v305, v306, v307, v308, v309, v310], defers := [] } W0 := by
  subst hC
  conv =>
    arg 2
    unfold tpBlk
    unfold Tryz.f3
    simp only [Option.getD_some, blkAt]
  conv =>
    arg 4
    zeta
  try simp (maxSteps := 10000000) only at hK
  have HK := hidE hK
  clear hK
  have b1 : Below W0.heap.size W0 (W0.alloc (.cells #[.int .i64 0, .int .i64 0, .int .i64 0, .int .i64 0, .int .i64 0, .int .i64 0, .int .i64 0, .int .i64 0, .int .i64 0, .int .i64 0, .int .i64 0, .int .i64 0, .bool false, .bool false, .int .i64 0] 45)) := (Below.refl _ _).alloc (Nat.le_refl _) _
  have p1 := FlAt.zero W0
  obtain ⟨Y, hY⟩ : ∃ Y, W0.heap.size = Y := ⟨_, rfl⟩
  have HYL : Hid (w.heap.size ≤ Y) := by rw [← hY]; exact HT.out.bel.size
  obtain ⟨W1, hW1⟩ : ∃ W1, W0.alloc (.cells #[.int .i64 0, .int .i64 0, .int .i64 0, .int .i64 0, .int .i64 0, .int .i64 0, .int .i64 0, .int .i64 0, .int .i64 0, .int .i64 0, .int .i64 0, .int .i64 0, .bool false, .bool false, .int .i64 0] 45) = W1 := ⟨_, rfl⟩
  rw [hW1] at b1 p1
  rw [hY] at p1
  have V1 := (Kp.below b1).v4 HV.out
  have bw := (HT.out.below b1).bel
  clear HV
  obtain ⟨⟨_, c1, _, _⟩, _⟩ := v4_cells V1
  obtain ⟨fb, fo, hfa, hfl, hfc, hfm, hcl⟩ : ∃ fb fo, fa = some ⟨fb, fo, none⟩ ∧ fl = fs.length ∧ fl ≤ fc ∧ fc ≤ 9223372036854775807 ∧ FlCells w fb (fo + n * 15) fs[n] := by
    rcases HFS.out with ⟨rfl, _⟩ | ⟨fb, fo, len, cap, e, h1, h2, h3, h4⟩
    · simp at hn
    · simp only [Value.slice.injEq] at e
      obtain ⟨rfl, rfl, rfl⟩ := e
      unfold maxLen at h2
      exact ⟨fb, fo, rfl, h3.symm, h1, by omega, h4 n hn⟩
  subst hfa
  have j1 : (0 : Int) ≤ (n : Int) := by omega
  have j2 : (n : Int) < (fl : Int) := by omega
  have hcl1 := hcl.blk (bw.block fb hcl.lt)
  obtain ⟨f, hf⟩ : ∃ f, fs[n] = f := ⟨_, rfl⟩
  rw [hf] at hcl1
  obtain ⟨e0, e1, e2, e3, e4, e5, e6, e7, e8, e9, e10, e11, e12, e13, e14⟩ := hcl1
  obtain ⟨y0, y1, y2, y3, y4, y5, y6, y7, y8, y9, y10, y11, y12, y13, y14⟩ := p1.frees
  obtain ⟨t0, t1, t2, t3, t4, t5, t6, t7, t8, t9, t10, t11, t12, t13, t14⟩ := zero_cells p1
  obtain ⟨W6, hW6, p6, o6⟩ := p1.store f
  have b6 : Below W0.heap.size W0 W6 := o6.below (Nat.le_of_eq hY) b1
  have HT1 := hidE (HT.out.below b6)
  have HKY1 := hidE ((Kp.below b6).ky HKY.out)
  have HP1 := hidE p6
  have HW6 := hidE hW6
  clear hcl hf hfl hn hW6 p6 o6 p1 bw b6 b1 HT HKY V1
  go_upto_region 51 with fail
  try rw [hW1]
  try rw [hY]
  clear hW1 hY
  go_upto_region 53 with fail
  rw [HW6.out]
  clear t0 t1 t2 t3 t4 t5 t6 t7 t8 t9 t10 t11 t12 t13 t14 y0 y1 y2 y3 y4 y5 y6 y7 y8 y9 y10 y11 y12 y13 y14 e0 e1 e2 e3 e4 e5 e6 e7 e8 e9 e10 e11 e12 e13 e14 c1
  obtain ⟨d0, d1, d2, d3, d4, d5, d6, d7, d8, d9, d10, d11, d12, d13, d14⟩ := HP1.out.cells
  obtain ⟨va, hv, hne⟩ := HT1.out.lr
  have q1 := ladopt_any M u va f z3 W6 hv HN.out.len.2 hne
  obtain ⟨z, hz⟩ : ∃ z, adE u f z3 = z := ⟨_, rfl⟩
  obtain ⟨X, hX⟩ : ∃ X, adB u f z3 = X := ⟨_, rfl⟩
  rw [hz, hX] at q1
  have HZ : Hid (adE t f z3 = z ∧ adB t f z3 = X) := ⟨by rw [← hz]; exact HN.out.tw.adE _ _, by rw [← hX]; exact HN.out.tw.adB _ _⟩
  obtain ⟨x, hx⟩ : ∃ x, (if z = 0 then X else false) = x := ⟨_, rfl⟩
  rw [hx] at q1
  have HX := hidE hx
  unfold flV at q1
  clear hz hX hx
  go_upto_region 54 with (go_at_call 12; go_must ((with_reducible refine q1.mono ?_); rintro e' W2 ⟨rfl, nx1, g9⟩))
  obtain ⟨T2, K2⟩ := HT1.out.setM HO.out hv nx1 g9
  have HT2 := hidE T2
  have HP2 := hidE (K2.fl HP1.out)
  have HKY2 := hidE (K2.ky HKY1.out)
  obtain ⟨m, hm, hb⟩ := T2.tb
  have q2 := adopt_at A m t f z3 W2 hb HN.out.ok (HL.out W2 T2.bel)
  rw [HZ.out.1, HZ.out.2, HX.out] at q2
  unfold flV at q2
  clear d0 d1 d2 d3 d4 d5 d6 d7 d8 d9 d10 d11 d12 d13 d14 q1 T2 K2 nx1 g9 hv hne
  obtain ⟨d0, d1, d2, d3, d4, d5, d6, d7, d8, d9, d10, d11, d12, d13, d14⟩ := HP2.out.cells
  generalize hev : errV z = ev at q2
  have HEV := hidE hev
  clear hev
  go_upto_region 55 with (go_at_call 13; go_must ((with_reducible refine q2.mono ?_); rintro e' W3 ⟨rfl, nx3, g9⟩))
  obtain ⟨T3, K3⟩ := HT2.out.setA HO.out hm hb nx3 g9
  have q3 := tp_same z W3 (HE.out W3 T3.bel)
  rw [HEV.out] at q3
  have HT3 := hidE T3
  have HKY3 := hidE (K3.ky HKY2.out)
  clear d0 d1 d2 d3 d4 d5 d6 d7 d8 d9 d10 d11 d12 d13 d14 q2 T3 K3 nx3 g9 hm hb
  go_upto_region 56 with (go_at_call 5; go_must ((with_reducible refine q3.mono ?_); rintro e' W5 ⟨rfl, b5⟩))
  have HT5 := hidE (HT3.out.below b5)
  have HKY5 := hidE ((Kp.below b5).ky HKY3.out)
  clear b5 q3
  cases x
  all_goals
    go_wp2_with fail
    exact HK.out _ _ _ _ _ _ _ _ _ _ _ _ _ _ _ _ _ _ _ _ _ _ _ _ _ _ _ _ _ _ _ _ _ _ _ _ _ _ _ _ _ _ _ _ _ _ _ _ _ _ _ _ _ _ _ _ _ _ _ _ _ _ _ _ _ _ _ _ _ _ _ _ _ _ _ _ _ _ _ _ _ _ _ _ _ _ _ _ _ _ _ _ _ _ _ _ _ _ _ _ _ _ _ _ _ _ _ _ _ _ _ _ _ _ _ _ _ _ _ _ _ _ _ _ _ _ _ _ _ _ _ _ _ _ _ _ _ _ _ _ _ _ _ _ _ _ _ _ _ _ _ _ _ ⟨_, _, HT5.out, HN.out.adopted f z3⟩ ⟨k, HKO.out, HKY5.out⟩
set_option maxRecDepth 100000 in
set_option maxHeartbeats 32000000 in
theorem tp_ado5a (w W0 : World) (A M V KB SB l c fl fc : Nat) (a fa : Option Addr) (t u : Tb) (k : Ky) (s : Sg) (fs : List Fl) (z1 z2 z3 : Int) (K : Act → World → Prop) (E : Exit → Act → World → Prop) (C : Code) (hC : C = tpBlk 4)
    (HO : Hid (TpO w A M)) (HT : Hid (TpT w A M t u W0)) (HN : Hid (TpN t u)) (HV : Hid (V4At W0 V 5 z1 z2 z3)) (HVL : Hid (w.heap.size ≤ V)) (HKY : Hid (KyAt W0 KB k)) (HKL : Hid (w.heap.size ≤ KB)) (HKO : Hid (KyOk k)) (HSG : Hid (SgAt W0 SB s (.slice a l c)))
    (HBY : Hid (∀ W, Below w.heap.size w W → Bytes W (.slice a l c) s.body)) (HFS : Hid (Fls w (.slice fa fl fc) fs)) (HE : Hid (∀ W, Below w.heap.size w W → ErrLaid W)) (hin : ¬ (0 ≤ z1 ∧ z1 < (fl : Int))) (HL : Hid (∀ W, Below w.heap.size w W → Lives W))
    (v0 v1 v3 v4 v5 v6 v7 v8 v10 v11 v12 v14 v16 v20 v21 v22 v23 v24 v25 v26 v27 v28 v29 v30 v31 v32 v33 v34 v35 v36 v37 v38 v39 v40 v41 v42 v43 v44 v45 v46 v47 v48 v49 v50 v51 v52 v53 v54 v55 v56 v57 v58 v59 v60 v61 v62 v63 v64 v65 v66 v67 v68 v69 v70 v71 v72 v73 v74 v75 v76 v77 v78 v79 v80 v81 v82 v83 v84 v85 v86 v87 v88 v89 v90 v91 v92 v93 v94 v95 v96 v97 v98 v99 v100 v101 v102 v103 v104 v105 v106 v107 v108 v109 v110 v111 v112 v113 v114 v115 v116 v117 v118 v119 v120 v121 v122 v123 v124 v125 v126 v127 v128 v129 v131 v132 v133 v134 v135 v136 v137 v138 v139 v140 v141 v142 v143 v144 v145 v146 v147 v148 v149 v150 v151 v152 v153 v154 v155 v156 v157 v158 v159 v160 v161 v162 v163 v164 v165 v166 v167 v168 v169 v170 v171 v172 v173 v174 v175 v176 v177 v178 v179 v180 v181 v182 v183 v184 v185 v186 v187 v188 v189 v190 v191 v192 v193 v194 v195 v196 v197 v198 v199 v200 v201 v202 v203 v204 v205 v206 v207 v208 v209 v210 v211 v212 v213 v214 v215 v216 v217 v218 v219 v220 v221 v222 v223 v224 v225 v226 v227 v228 v229 v230 v231 v232 v233 v234 v235 v236 v237 v238 v239 v240 v241 v242 v243 v244 v245 v246 v247 v248 v249 v250 v251 v252 v253 v254 v255 v256 v257 v258 v259 v260 v261 v262 v263 v264 v265 v266 v267 v268 v269 v270 v271 v272 v273 v274 v275 v276 v277 v278 v279 v280 v281 v282 v283 v284 v285 v286 v287 v288 v289 v290 v291 v292 v293 v294 v295 v296 v297 v298 v299 v300 v301 v302 v303 v304 v305 v306 v307 v308 v309 v310 : Value)
    (hK : ∀ (W9 : World) (u20 u21 u22 u23 u24 u25 u26 u27 u28 u29 u30 u31 u32 u33 u34 u35 u36 u37 u131 u132 u133 u134 u135 u136 u137 u138 u139 u140 u141 u142 u143 u144 u145 u146 u147 u148 u149 u150 u151 u152 u153 u154 u155 u156 u157 u158 u159 u160 u161 u162 u163 u164 u165 u166 u167 u168 u169 u170 u171 u172 u173 u174 u175 u176 u177 u178 u179 u180 u181 u182 u183 u184 u185 u186 u187 u188 u189 u190 u191 u192 u193 u194 u195 u196 u197 u198 u199 u200 u201 u202 u203 u204 u205 u206 u207 u208 u209 u210 u211 u212 u213 u214 u215 u216 u217 u218 u219 u220 u221 u222 u223 u224 u225 u226 u227 u228 u229 u230 u231 u232 u233 u234 u235 u236 u237 u238 u239 u240 u241 u242 u243 u244 u245 u246 u247 u248 u249 u250 u251 u252 u253 u254 u255 u256 u257 u258 u259 u260 u261 u262 u263 u264 : Value), TpS w A M W9 → (∃ k', KyOk k' ∧ KyAt W9 KB k') → K { tmps := #[v0, v1, .slice fa fl fc, v3, v4, v5, v6, v7, v8, .pointer (some ⟨A, 0, none⟩), v10, v11, .bool true, .pointer (some ⟨M, 0, none⟩), v14, .pointer (some ⟨V, 0, none⟩), v16, .pointer (some ⟨KB, 0, none⟩), .pointer (some ⟨SB, 0, none⟩), .int .i64 z3, u20, u21, u22, u23, u24, u25, u26, u27, u28, u29, u30, u31, u32, u33, u34, u35, u36, u37, v38, v39, v40, v41, v42, v43, v44, v45, v46, v47, v48, v49, v50, v51, v52, v53, v54, v55, v56, v57, v58, v59, v60, v61, v62, v63, v64, v65, v66, v67, v68, v69, v70, v71, v72, v73, v74, v75, v76, v77, v78, v79, v80, v81, v82, v83, v84, v85, v86, v87, v88, v89, v90, v91, v92, v93, v94, v95, v96, v97, v98, v99, v100, v101, v102, v103, v104, v105, v106, v107, v108, v109, v110, v111, v112, v113, v114, v115, v116, v117, v118, v119, v120, v121, v122, v123, v124, v125, v126, v127, v128, v129, .int .i64 5, u131, u132, u133, u134, u135, u136, u137, u138, u139, u140, u141, u142, u143, u144, u145, u146, u147, u148, u149, u150, u151, u152, u153, u154, u155, u156, u157, u158, u159, u160, u161, u162, u163, u164, u165, u166, u167, u168, u169, u170, u171, u172, u173, u174, u175, u176, u177, u178, u179, u180, u181, u182, u183, u184, u185, u186, u187, u188, u189, u190, u191, u192, u193, u194, u195, u196, u197, u198, u199, u200, u201, u202, u203, u204, u205, u206, u207, u208, u209, u210, u211, u212, u213, u214, u215, u216, u217, u218, u219, u220, u221, u222, u223, u224, u225, u226, u227, u228, u229, u230, u231, u232, u233, u234, u235, u236, u237, u238, u239, u240, u241, u242, u243, u244, u245, u246, u247, u248, u249, u250, u251, u252, u253, u254, u255, u256, u257, u258, u259, u260, u261, u262, u263, u264, v265, v266, v267, v268, v269, v270, v271, v272, v273, v274, v275, v276, v277, v278, v279, v280, v281, v282, v283, v284, v285, v286, v287, v288, v289, v290, v291, v292, v293, v294, v295, v296, v297, v298, v299, v300, v301, v302, v303, v304, v305, v306, v307, v308, v309, v310], defers := [] } W9) :
    Code.wp Tryz.prog C (Exit.then K E) { tmps := #[v0, v1, .slice fa fl fc, v3, v4, v5, v6, v7, v8, .pointer (some ⟨A, 0, none⟩), v10, v11, v12, .pointer (some ⟨M, 0, none⟩), v14, .pointer (some ⟨V, 0, none⟩), v16, .pointer (some ⟨KB, 0, none⟩), .pointer (some ⟨SB, 0, none⟩), .int .i64 z3, v20, v21, v22, v23, v24, v25, v26, v27, v28, v29, v30, v31, v32, v33, v34, v35, v36, v37, v38, v39, v40, v41, v42, v43, v44, v45, v46, v47, v48, v49, v50, v51, v52, v53, v54, v55, v56, v57, v58, v59, v60, v61, v62, v63, v64, v65, v66, v67, v68, v69, v70, v71, v72, v73, v74, v75, v76, v77, v78, v79, v80, v81, v82, v83, v84, v85, v86, v87, v88, v89, v90, v91, v92, v93, v94, v95, v96, v97, v98, v99, v100, v101, v102, v103, v104, v105, v106, v107, v108, v109, v110, v111, v112, v113, v114, v115, v116, v117, v118, v119, v120, v121, v122, v123, v124, v125, v126, v127, v128, v129, .int .i64 5, v131, v132, v133, v134, v135, v136, v137, v138, v139, v140, v141, v142, v143, v144, v145, v146, v147, v148, v149, v150, v151, v152, v153, v154, v155, v156, v157, v158, v159, v160, v161, v162, v163, v164, v165, v166, v167, v168, v169, v170, v171, v172, v173, v174, v175, v176, v177, v178, v179, v180, v181, v182, v183, v184, v185, v186, v187, v188, v189, v190, v191, v192, v193, v194, v195, v196, v197, v198, v199, v200, v201, v202, v203, v204, v205, v206, v207, v208, v209, v210, v211, v212, v213, v214, v215, v216, v217, v218, v219, v220, v221, v222, v223, v224, v225, v226, v227, v228, v229, v230, v231, v232, v233, v234, v235, v236, v237, v238, v239, v240, v241, v242, v243, v244, v245, v246, v247, v248, v249, v250, v251, v252, v253, v254, v255, v256, v257, v258, v259, v260, v261, v262, v263, v264, v265, v266, v267, v268, v269, v270, v271, v272, v273, v274, v275, v276, v277, v278, v279, v280, v281, v282, v283, v284, v285, v286, v287, v288, v289, v290, v291, v292, v293, v294, v295, v296, v297, v298, v299, v300, v301, v302, v303, v304, v305, v306, v307, v308, v309, v310], defers := [] } W0 := by
  subst hC
  conv =>
    arg 2
    unfold tpBlk
    unfold Tryz.f3
    simp only [Option.getD_some, blkAt]
  conv =>
    arg 4
    zeta
  try simp (maxSteps := 10000000) only at hK
  have HK := hidE hK
  clear hK
  have b1 : Below W0.heap.size W0 (W0.alloc (.cells #[.int .i64 0, .int .i64 0, .int .i64 0, .int .i64 0, .int .i64 0, .int .i64 0, .int .i64 0, .int .i64 0, .int .i64 0, .int .i64 0, .int .i64 0, .int .i64 0, .bool false, .bool false, .int .i64 0] 45)) := (Below.refl _ _).alloc (Nat.le_refl _) _
  have p1 := FlAt.zero W0
  obtain ⟨Y, hY⟩ : ∃ Y, W0.heap.size = Y := ⟨_, rfl⟩
  have HYL : Hid (w.heap.size ≤ Y) := by rw [← hY]; exact HT.out.bel.size
  obtain ⟨W1, hW1⟩ : ∃ W1, W0.alloc (.cells #[.int .i64 0, .int .i64 0, .int .i64 0, .int .i64 0, .int .i64 0, .int .i64 0, .int .i64 0, .int .i64 0, .int .i64 0, .int .i64 0, .int .i64 0, .int .i64 0, .bool false, .bool false, .int .i64 0] 45) = W1 := ⟨_, rfl⟩
  rw [hW1] at b1 p1
  rw [hY] at p1
  have HT1 := hidE (HT.out.below b1)
  have HKY1 := hidE ((Kp.below b1).ky HKY.out)
  have V1 := (Kp.below b1).v4 HV.out
  have HP1 := hidE p1
  clear HT HKY HV b1
  obtain ⟨⟨_, c1, _, _⟩, _⟩ := v4_cells V1
  go_upto_region 51 with fail
  try rw [hW1]
  try rw [hY]
  clear hW1 hY
  obtain ⟨f, hf⟩ : ∃ f, zeroF = f := ⟨_, rfl⟩
  rw [hf] at HP1
  clear hf p1
  obtain ⟨d0, d1, d2, d3, d4, d5, d6, d7, d8, d9, d10, d11, d12, d13, d14⟩ := HP1.out.cells
  rcases (by omega : ¬ (0 : Int) ≤ z1 ∨ ((0 : Int) ≤ z1 ∧ ¬ z1 < (fl : Int))) with j1 | ⟨j1, j2⟩
  all_goals
    clear hin
    go_upto_region 53 with fail
    obtain ⟨va, hv, hne⟩ := HT1.out.lr
    have q1 := ladopt_any M u va f z3 W1 hv HN.out.len.2 hne
    obtain ⟨z, hz⟩ : ∃ z, adE u f z3 = z := ⟨_, rfl⟩
    obtain ⟨X, hX⟩ : ∃ X, adB u f z3 = X := ⟨_, rfl⟩
    rw [hz, hX] at q1
    have HZ : Hid (adE t f z3 = z ∧ adB t f z3 = X) := ⟨by rw [← hz]; exact HN.out.tw.adE _ _, by rw [← hX]; exact HN.out.tw.adB _ _⟩
    obtain ⟨x, hx⟩ : ∃ x, (if z = 0 then X else false) = x := ⟨_, rfl⟩
    rw [hx] at q1
    have HX := hidE hx
    unfold flV at q1
    clear hz hX hx
    go_upto_region 54 with (go_at_call 12; go_must ((with_reducible refine q1.mono ?_); rintro e' W2 ⟨rfl, nx1, g9⟩))
    obtain ⟨T2, K2⟩ := HT1.out.setM HO.out hv nx1 g9
    have HT2 := hidE T2
    have HP2 := hidE (K2.fl HP1.out)
    have HKY2 := hidE (K2.ky HKY1.out)
    obtain ⟨m, hm, hb⟩ := T2.tb
    have q2 := adopt_at A m t f z3 W2 hb HN.out.ok (HL.out W2 T2.bel)
    rw [HZ.out.1, HZ.out.2, HX.out] at q2
    unfold flV at q2
    clear d0 d1 d2 d3 d4 d5 d6 d7 d8 d9 d10 d11 d12 d13 d14 q1 T2 K2 nx1 g9 hv hne
    obtain ⟨d0, d1, d2, d3, d4, d5, d6, d7, d8, d9, d10, d11, d12, d13, d14⟩ := HP2.out.cells
    generalize hev : errV z = ev at q2
    have HEV := hidE hev
    clear hev
    go_upto_region 55 with (go_at_call 13; go_must ((with_reducible refine q2.mono ?_); rintro e' W3 ⟨rfl, nx3, g9⟩))
    obtain ⟨T3, K3⟩ := HT2.out.setA HO.out hm hb nx3 g9
    have q3 := tp_same z W3 (HE.out W3 T3.bel)
    rw [HEV.out] at q3
    have HT3 := hidE T3
    have HKY3 := hidE (K3.ky HKY2.out)
    clear d0 d1 d2 d3 d4 d5 d6 d7 d8 d9 d10 d11 d12 d13 d14 q2 T3 K3 nx3 g9 hm hb
    go_upto_region 56 with (go_at_call 5; go_must ((with_reducible refine q3.mono ?_); rintro e' W5 ⟨rfl, b5⟩))
    have HT5 := hidE (HT3.out.below b5)
    have HKY5 := hidE ((Kp.below b5).ky HKY3.out)
    clear b5 q3
    cases x
    all_goals
      go_wp2_with fail
      exact HK.out _ _ _ _ _ _ _ _ _ _ _ _ _ _ _ _ _ _ _ _ _ _ _ _ _ _ _ _ _ _ _ _ _ _ _ _ _ _ _ _ _ _ _ _ _ _ _ _ _ _ _ _ _ _ _ _ _ _ _ _ _ _ _ _ _ _ _ _ _ _ _ _ _ _ _ _ _ _ _ _ _ _ _ _ _ _ _ _ _ _ _ _ _ _ _ _ _ _ _ _ _ _ _ _ _ _ _ _ _ _ _ _ _ _ _ _ _ _ _ _ _ _ _ _ _ _ _ _ _ _ _ _ _ _ _ _ _ _ _ _ _ _ _ _ _ _ _ _ _ _ _ _ _ ⟨_, _, HT5.out, HN.out.adopted f z3⟩ ⟨k, HKO.out, HKY5.out⟩
set_option maxRecDepth 100000 in
set_option maxHeartbeats 32000000 in
theorem tp_ado5b (w W0 : World) (A M V KB SB l c fl fc : Nat) (a fa : Option Addr) (t u : Tb) (k : Ky) (s : Sg) (fs : List Fl) (n : Nat) (z2 z3 : Int) (K : Act → World → Prop) (E : Exit → Act → World → Prop) (C : Code) (hC : C = tpBlk 4)
    (HO : Hid (TpO w A M)) (HT : Hid (TpT w A M t u W0)) (HN : Hid (TpN t u)) (HV : Hid (V4At W0 V 5 (n : Int) z2 z3)) (HVL : Hid (w.heap.size ≤ V)) (HKY : Hid (KyAt W0 KB k)) (HKL : Hid (w.heap.size ≤ KB)) (HKO : Hid (KyOk k)) (HSG : Hid (SgAt W0 SB s (.slice a l c)))
    (HBY : Hid (∀ W, Below w.heap.size w W → Bytes W (.slice a l c) s.body)) (HFS : Hid (Fls w (.slice fa fl fc) fs)) (HE : Hid (∀ W, Below w.heap.size w W → ErrLaid W)) (hn : n < fs.length) (HL : Hid (∀ W, Below w.heap.size w W → Lives W))
    (v0 v1 v3 v4 v5 v6 v7 v8 v10 v11 v12 v14 v16 v20 v21 v22 v23 v24 v25 v26 v27 v28 v29 v30 v31 v32 v33 v34 v35 v36 v37 v38 v39 v40 v41 v42 v43 v44 v45 v46 v47 v48 v49 v50 v51 v52 v53 v54 v55 v56 v57 v58 v59 v60 v61 v62 v63 v64 v65 v66 v67 v68 v69 v70 v71 v72 v73 v74 v75 v76 v77 v78 v79 v80 v81 v82 v83 v84 v85 v86 v87 v88 v89 v90 v91 v92 v93 v94 v95 v96 v97 v98 v99 v100 v101 v102 v103 v104 v105 v106 v107 v108 v109 v110 v111 v112 v113 v114 v115 v116 v117 v118 v119 v120 v121 v122 v123 v124 v125 v126 v127 v128 v129 v131 v132 v133 v134 v135 v136 v137 v138 v139 v140 v141 v142 v143 v144 v145 v146 v147 v148 v149 v150 v151 v152 v153 v154 v155 v156 v157 v158 v159 v160 v161 v162 v163 v164 v165 v166 v167 v168 v169 v170 v171 v172 v173 v174 v175 v176 v177 v178 v179 v180 v181 v182 v183 v184 v185 v186 v187 v188 v189 v190 v191 v192 v193 v194 v195 v196 v197 v198 v199 v200 v201 v202 v203 v204 v205 v206 v207 v208 v209 v210 v211 v212 v213 v214 v215 v216 v217 v218 v219 v220 v221 v222 v223 v224 v225 v226 v227 v228 v229 v230 v231 v232 v233 v234 v235 v236 v237 v238 v239 v240 v241 v242 v243 v244 v245 v246 v247 v248 v249 v250 v251 v252 v253 v254 v255 v256 v257 v258 v259 v260 v261 v262 v263 v264 v265 v266 v267 v268 v269 v270 v271 v272 v273 v274 v275 v276 v277 v278 v279 v280 v281 v282 v283 v284 v285 v286 v287 v288 v289 v290 v291 v292 v293 v294 v295 v296 v297 v298 v299 v300 v301 v302 v303 v304 v305 v306 v307 v308 v309 v310 : Value)
    (hK : ∀ (W9 : World) (u20 u21 u22 u23 u24 u25 u26 u27 u28 u29 u30 u31 u32 u33 u34 u35 u36 u37 u131 u132 u133 u134 u135 u136 u137 u138 u139 u140 u141 u142 u143 u144 u145 u146 u147 u148 u149 u150 u151 u152 u153 u154 u155 u156 u157 u158 u159 u160 u161 u162 u163 u164 u165 u166 u167 u168 u169 u170 u171 u172 u173 u174 u175 u176 u177 u178 u179 u180 u181 u182 u183 u184 u185 u186 u187 u188 u189 u190 u191 u192 u193 u194 u195 u196 u197 u198 u199 u200 u201 u202 u203 u204 u205 u206 u207 u208 u209 u210 u211 u212 u213 u214 u215 u216 u217 u218 u219 u220 u221 u222 u223 u224 u225 u226 u227 u228 u229 u230 u231 u232 u233 u234 u235 u236 u237 u238 u239 u240 u241 u242 u243 u244 u245 u246 u247 u248 u249 u250 u251 u252 u253 u254 u255 u256 u257 u258 u259 u260 u261 u262 u263 u264 : Value), TpS w A M W9 → (∃ k', KyOk k' ∧ KyAt W9 KB k') → K { tmps := #[v0, v1, .slice fa fl fc, v3, v4, v5, v6, v7, v8, .pointer (some ⟨A, 0, none⟩), v10, v11, .bool true, .pointer (some ⟨M, 0, none⟩), v14, .pointer (some ⟨V, 0, none⟩), v16, .pointer (some ⟨KB, 0, none⟩), .pointer (some ⟨SB, 0, none⟩), .int .i64 z3, u20, u21, u22, u23, u24, u25, u26, u27, u28, u29, u30, u31, u32, u33, u34, u35, u36, u37, v38, v39, v40, v41, v42, v43, v44, v45, v46, v47, v48, v49, v50, v51, v52, v53, v54, v55, v56, v57, v58, v59, v60, v61, v62, v63, v64, v65, v66, v67, v68, v69, v70, v71, v72, v73, v74, v75, v76, v77, v78, v79, v80, v81, v82, v83, v84, v85, v86, v87, v88, v89, v90, v91, v92, v93, v94, v95, v96, v97, v98, v99, v100, v101, v102, v103, v104, v105, v106, v107, v108, v109, v110, v111, v112, v113, v114, v115, v116, v117, v118, v119, v120, v121, v122, v123, v124, v125, v126, v127, v128, v129, .int .i64 5, u131, u132, u133, u134, u135, u136, u137, u138, u139, u140, u141, u142, u143, u144, u145, u146, u147, u148, u149, u150, u151, u152, u153, u154, u155, u156, u157, u158, u159, u160, u161, u162, u163, u164, u165, u166, u167, u168, u169, u170, u171, u172, u173, u174, u175, u176, u177, u178, u179, u180, u181, u182, u183, u184, u185, u186, u187, u188, u189, u190, u191, u192, u193, u194, u195, u196, u197, u198, u199, u200, u201, u202, u203, u204, u205, u206, u207, u208, u209, u210, u211, u212, u213, u214, u215, u216, u217, u218, u219, u220, u221, u222, u223, u224, u225, u226, u227, u228, u229, u230, u231, u232, u233, u234, u235, u236, u237, u238, u239, u240, u241, u242, u243, u244, u245, u246, u247, u248, u249, u250, u251, u252, u253, u254, u255, u256, u257, u258, u259, u260, u261, u262, u263, u264, v265, v266, v267, v268, v269, v270, v271, v272, v273, v274, v275, v276, v277, v278, v279, v280, v281, v282, v283, v284, v285, v286, v287, v288, v289, v290, v291, v292, v293, v294, v295, v296, v297, v298, v299, v300, v301, v302, v303, v304, v305, v306, v307, v308, v309, v310], defers := [] } W9) :
    Code.wp Tryz.prog C (Exit.then K E) { tmps := #[v0, v1, .slice fa fl fc, v3, v4, v5, v6, v7, v8, .pointer (some ⟨A, 0, none⟩), v10, v11, v12, .pointer (some ⟨M, 0, none⟩), v14, .pointer (some ⟨V, 0, none⟩), v16, .pointer (some ⟨KB, 0, none⟩), .pointer (some ⟨SB, 0, none⟩), .int .i64 z3, v20, v21, v22, v23, v24, v25, v26, v27, v28, v29, v30, v31, v32, v33, v34, v35, v36, v37, v38, v39, v40, v41, v42, v43, v44, v45, v46, v47, v48, v49, v50, v51, v52, v53, v54, v55, v56, v57, v58, v59, v60, v61, v62, v63, v64, v65, v66, v67, v68, v69, v70, v71, v72, v73, v74, v75, v76, v77, v78, v79, v80, v81, v82, v83, v84, v85, v86, v87, v88, v89, v90, v91, v92, v93, v94, v95, v96, v97, v98, v99, v100, v101, v102, v103, v104, v105, v106, v107, v108, v109, v110, v111, v112, v113, v114, v115, v116, v117, v118, v119, v120, v121, v122, v123, v124, v125, v126, v127, v128, v129, .int .i64 5, v131, v132, v133, v134, v135, v136, v137, v138, v139, v140, v141, v142, v143, v144, v145, v146, v147, v148, v149, v150, v151, v152, v153, v154, v155, v156, v157, v158, v159, v160, v161, v162, v163, v164, v165, v166, v167, v168, v169, v170, v171, v172, v173, v174, v175, v176, v177, v178, v179, v180, v181, v182, v183, v184, v185, v186, v187, v188, v189, v190, v191, v192, v193, v194, v195, v196, v197, v198, v199, v200, v201, v202, v203, v204, v205, v206, v207, v208, v209, v210, v211, v212, v213, v214, v215, v216, v217, v218, v219, v220, v221, v222, v223, v224, v225, v226, v227, v228, v229, v230, v231, v232, v233, v234, v235, v236, v237, v238, v239, v240, v241, v242, v243, v244, v245, v246, v247, v248, v249, v250, v251, v252, v253, v254, v255, v256, v257, v258, v259, v260, v261, v262, v263, v264, v265, v266, v267, v268, v269, v270, v271, v272, v273, v274, v275, v276, v277, v278, v279, v280, v281, v282, v283, v284, v285, v286, v287, v288, v289, v290, v291, v292, v293, v294, v295, v296, v297, v298, v299, v300, v301, v302, v303, v304, v305, v306, v307, v308, v309, v310], defers := [] } W0 := by
  subst hC
  conv =>
    arg 2
    unfold tpBlk
    unfold Tryz.f3
    simp only [Option.getD_some, blkAt]
  conv =>
    arg 4
    zeta
  try simp (maxSteps := 10000000) only at hK
  have HK := hidE hK
  clear hK
  have b1 : Below W0.heap.size W0 (W0.alloc (.cells #[.int .i64 0, .int .i64 0, .int .i64 0, .int .i64 0, .int .i64 0, .int .i64 0, .int .i64 0, .int .i64 0, .int .i64 0, .int .i64 0, .int .i64 0, .int .i64 0, .bool false, .bool false, .int .i64 0] 45)) := (Below.refl _ _).alloc (Nat.le_refl _) _
  have p1 := FlAt.zero W0
  obtain ⟨Y, hY⟩ : ∃ Y, W0.heap.size = Y := ⟨_, rfl⟩
  have HYL : Hid (w.heap.size ≤ Y) := by rw [← hY]; exact HT.out.bel.size
  obtain ⟨W1, hW1⟩ : ∃ W1, W0.alloc (.cells #[.int .i64 0, .int .i64 0, .int .i64 0, .int .i64 0, .int .i64 0, .int .i64 0, .int .i64 0, .int .i64 0, .int .i64 0, .int .i64 0, .int .i64 0, .int .i64 0, .bool false, .bool false, .int .i64 0] 45) = W1 := ⟨_, rfl⟩
  rw [hW1] at b1 p1
  rw [hY] at p1
  have V1 := (Kp.below b1).v4 HV.out
  have bw := (HT.out.below b1).bel
  clear HV
  obtain ⟨⟨_, c1, _, _⟩, _⟩ := v4_cells V1
  obtain ⟨fb, fo, hfa, hfl, hfc, hfm, hcl⟩ : ∃ fb fo, fa = some ⟨fb, fo, none⟩ ∧ fl = fs.length ∧ fl ≤ fc ∧ fc ≤ 9223372036854775807 ∧ FlCells w fb (fo + n * 15) fs[n] := by
    rcases HFS.out with ⟨rfl, _⟩ | ⟨fb, fo, len, cap, e, h1, h2, h3, h4⟩
    · simp at hn
    · simp only [Value.slice.injEq] at e
      obtain ⟨rfl, rfl, rfl⟩ := e
      unfold maxLen at h2
      exact ⟨fb, fo, rfl, h3.symm, h1, by omega, h4 n hn⟩
  subst hfa
  have j1 : (0 : Int) ≤ (n : Int) := by omega
  have j2 : (n : Int) < (fl : Int) := by omega
  have hcl1 := hcl.blk (bw.block fb hcl.lt)
  obtain ⟨f, hf⟩ : ∃ f, fs[n] = f := ⟨_, rfl⟩
  rw [hf] at hcl1
  obtain ⟨e0, e1, e2, e3, e4, e5, e6, e7, e8, e9, e10, e11, e12, e13, e14⟩ := hcl1
  obtain ⟨y0, y1, y2, y3, y4, y5, y6, y7, y8, y9, y10, y11, y12, y13, y14⟩ := p1.frees
  obtain ⟨t0, t1, t2, t3, t4, t5, t6, t7, t8, t9, t10, t11, t12, t13, t14⟩ := zero_cells p1
  obtain ⟨W6, hW6, p6, o6⟩ := p1.store f
  have b6 : Below W0.heap.size W0 W6 := o6.below (Nat.le_of_eq hY) b1
  have HT1 := hidE (HT.out.below b6)
  have HKY1 := hidE ((Kp.below b6).ky HKY.out)
  have HP1 := hidE p6
  have HW6 := hidE hW6
  clear hcl hf hfl hn hW6 p6 o6 p1 bw b6 b1 HT HKY V1
  go_upto_region 51 with fail
  try rw [hW1]
  try rw [hY]
  clear hW1 hY
  go_upto_region 53 with fail
  rw [HW6.out]
  clear t0 t1 t2 t3 t4 t5 t6 t7 t8 t9 t10 t11 t12 t13 t14 y0 y1 y2 y3 y4 y5 y6 y7 y8 y9 y10 y11 y12 y13 y14 e0 e1 e2 e3 e4 e5 e6 e7 e8 e9 e10 e11 e12 e13 e14 c1
  obtain ⟨d0, d1, d2, d3, d4, d5, d6, d7, d8, d9, d10, d11, d12, d13, d14⟩ := HP1.out.cells
  obtain ⟨va, hv, hne⟩ := HT1.out.lr
  have q1 := ladopt_any M u va f z3 W6 hv HN.out.len.2 hne
  obtain ⟨z, hz⟩ : ∃ z, adE u f z3 = z := ⟨_, rfl⟩
  obtain ⟨X, hX⟩ : ∃ X, adB u f z3 = X := ⟨_, rfl⟩
  rw [hz, hX] at q1
  have HZ : Hid (adE t f z3 = z ∧ adB t f z3 = X) := ⟨by rw [← hz]; exact HN.out.tw.adE _ _, by rw [← hX]; exact HN.out.tw.adB _ _⟩
  obtain ⟨x, hx⟩ : ∃ x, (if z = 0 then X else false) = x := ⟨_, rfl⟩
  rw [hx] at q1
  have HX := hidE hx
  unfold flV at q1
  clear hz hX hx
  go_upto_region 54 with (go_at_call 12; go_must ((with_reducible refine q1.mono ?_); rintro e' W2 ⟨rfl, nx1, g9⟩))
  obtain ⟨T2, K2⟩ := HT1.out.setM HO.out hv nx1 g9
  have HT2 := hidE T2
  have HP2 := hidE (K2.fl HP1.out)
  have HKY2 := hidE (K2.ky HKY1.out)
  obtain ⟨m, hm, hb⟩ := T2.tb
  have q2 := adopt_at A m t f z3 W2 hb HN.out.ok (HL.out W2 T2.bel)
  rw [HZ.out.1, HZ.out.2, HX.out] at q2
  unfold flV at q2
  clear d0 d1 d2 d3 d4 d5 d6 d7 d8 d9 d10 d11 d12 d13 d14 q1 T2 K2 nx1 g9 hv hne
  obtain ⟨d0, d1, d2, d3, d4, d5, d6, d7, d8, d9, d10, d11, d12, d13, d14⟩ := HP2.out.cells
  generalize hev : errV z = ev at q2
  have HEV := hidE hev
  clear hev
  go_upto_region 55 with (go_at_call 13; go_must ((with_reducible refine q2.mono ?_); rintro e' W3 ⟨rfl, nx3, g9⟩))
  obtain ⟨T3, K3⟩ := HT2.out.setA HO.out hm hb nx3 g9
  have q3 := tp_same z W3 (HE.out W3 T3.bel)
  rw [HEV.out] at q3
  have HT3 := hidE T3
  have HKY3 := hidE (K3.ky HKY2.out)
  clear d0 d1 d2 d3 d4 d5 d6 d7 d8 d9 d10 d11 d12 d13 d14 q2 T3 K3 nx3 g9 hm hb
  go_upto_region 56 with (go_at_call 5; go_must ((with_reducible refine q3.mono ?_); rintro e' W5 ⟨rfl, b5⟩))
  have HT5 := hidE (HT3.out.below b5)
  have HKY5 := hidE ((Kp.below b5).ky HKY3.out)
  clear b5 q3
  cases x
  all_goals
    go_wp2_with fail
    exact HK.out _ _ _ _ _ _ _ _ _ _ _ _ _ _ _ _ _ _ _ _ _ _ _ _ _ _ _ _ _ _ _ _ _ _ _ _ _ _ _ _ _ _ _ _ _ _ _ _ _ _ _ _ _ _ _ _ _ _ _ _ _ _ _ _ _ _ _ _ _ _ _ _ _ _ _ _ _ _ _ _ _ _ _ _ _ _ _ _ _ _ _ _ _ _ _ _ _ _ _ _ _ _ _ _ _ _ _ _ _ _ _ _ _ _ _ _ _ _ _ _ _ _ _ _ _ _ _ _ _ _ _ _ _ _ _ _ _ _ _ _ _ _ _ _ _ _ _ _ _ _ _ _ _ ⟨_, _, HT5.out, HN.out.adopted f z3⟩ ⟨k, HKO.out, HKY5.out⟩
end Go.Proofs.YtobfkabhnanpfaaGreatDoor
