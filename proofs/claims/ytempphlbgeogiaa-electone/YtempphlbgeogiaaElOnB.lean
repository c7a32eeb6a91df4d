/- ElectOne: a round of its loop. -/
import Derived.Test.YtempphlbgeogiaaElOnR
import Derived.Deep.CutRange
namespace Go.Proofs.Ytempphlbgeogiaa
open Go.RowKit
set_option linter.unusedVariables false

set_option maxRecDepth 100000 in
set_option maxHeartbeats 32000000 in
theorem one_round (w wr : World) (lease drift off oth now : Int) (A X Y L g of N cv i : Nat) (an : Option Addr) (cn : Nat) (zs : List Int) (K : Act → World → Prop) (E : Exit → Act → World → Prop) (C : Code) (hC : C = oneBlk 1)
    (HOO : Hid (OnO w A X Y L)) (HOF : Hid (OffI drift off oth)) (HS : Hid (OnS w lease drift off oth A X Y L now wr)) (HN : Hid (Numz w (.slice an zs.length cn) zs)) (HC0 : Hid (∀ X', Below w.heap.size w X' → X'.cell? ⟨g, of + i, none⟩ = some (.slice an zs.length cn))) (hi1 : (i : Int) < (N : Int)) (hi2 : i < 60) (hgc : N ≤ cv) (hgm : cv ≤ maxLen) (hn1 : 2000 ≤ now) (hn2 : now ≤ 2000 + 5000 * (i : Int))
    (v0 v1 v5 v6 v7 v8 v9 v10 v11 v12 v13 v14 v15 v16 v17 v18 v20 v22 v24 v28 v29 v30 v31 v32 v33 v34 v35 v36 v37 v38 v39 v40 v41 v42 v43 v44 v45 v46 v47 v48 v49 v50 v51 v52 v53 v54 v55 v56 v57 v58 v59 v60 v61 v62 v63 v64 v65 v66 v67 v68 v69 v70 v71 v72 v73 v74 v75 v76 v77 v78 v79 v80 v81 v82 v83 v84 v85 v86 v87 v88 v89 v90 v91 v92 v93 v94 v95 v96 v97 v98 v99 v100 v101 v102 v103 v104 v105 v106 v107 v108 v109 v110 v111 v112 v113 v114 v115 v116 v117 v118 v119 v120 v121 v122 v123 v124 v125 v126 v127 v128 v129 v130 v131 v132 v133 v134 v135 v136 v137 v138 v139 v140 v141 v142 v143 v144 v145 v146 v147 v148 v149 v150 v151 v152 v153 v154 v155 v156 v157 v158 v159 v160 v161 v162 v163 v164 v165 v166 v167 v168 v169 v170 v171 v172 v173 v174 v175 v176 v177 v178 v179 v180 v181 v182 v183 v184 v185 v186 v187 v188 v189 v190 v191 v192 v193 v194 v195 v196 v197 v198 v199 v200 v201 v202 v203 v204 v205 v206 v207 v208 v209 v210 v211 v212 v213 v214 v215 v216 v217 v218 v219 v220 v221 v222 v223 v224 v225 v226 v227 v228 v229 v230 v231 v232 v233 v234 v235 v236 v237 v238 v239 v240 v241 v242 v243 v244 v245 v246 v247 v248 v249 v250 v251 v252 v253 v254 v255 v256 v257 v258 v259 v260 v261 v262 v263 v264 v265 v266 v267 v268 v269 v270 v271 v272 v273 v274 v275 v276 v277 v278 v279 v280 v281 v282 v283 v284 v285 v286 v287 v288 v289 v290 : Value)
    (hK : ∀ (n9 : Int) (W9 : World) (u10 u28 u29 u30 u31 u32 u33 u34 u35 u36 u37 u38 u39 u136 u137 u138 u139 u140 u141 u142 u143 u144 u145 u146 u147 u148 u149 u150 u151 u152 u153 u154 u155 u156 u157 u158 u159 u160 u161 u162 u163 u164 u165 u166 u167 u168 u169 u170 u171 u172 u173 u174 u175 u176 u177 u178 u179 u180 u181 u182 u183 u184 u185 u186 u187 u188 u189 u190 u191 u192 u193 u194 u195 u196 u197 u198 u199 u200 u201 u202 u203 u204 u205 u206 u207 u208 u209 u210 u211 u212 u213 u214 u215 u216 u217 u218 u219 u220 u221 u222 u223 u224 u225 u226 u227 u228 u229 u230 u231 u232 u233 u234 u235 u236 u237 u238 u239 u240 u241 u242 u243 u244 u245 u246 u247 u248 u249 u250 u251 u252 u253 u254 u255 u256 u257 u258 u259 u260 u261 u262 u263 u264 u265 u266 u267 u268 u269 u270 u271 u272 u273 u274 u275 u276 u277 u278 u279 u280 u281 u282 u283 u284 u285 u286 u287 u288 u289 u290 : Value), now ≤ n9 → n9 ≤ 2000 + 5000 * ((i : Int) + 1) → OnS w lease drift off oth A X Y L n9 W9 → K { tmps := #[v0, v1, .int .i64 off, .int .i64 oth, .slice (some ⟨g, of, none⟩) N cv, v5, v6, v7, v8, v9, u10, v11, v12, v13, v14, v15, v16, v17, v18, .pointer (some ⟨A, 0, none⟩), v20, .pointer (some ⟨X, 0, none⟩), v22, .pointer (some ⟨Y, 0, none⟩), v24, .int .i64 n9, .pointer (some ⟨L, 0, none⟩), .int .i64 (i : Int), u28, u29, u30, u31, u32, u33, u34, u35, u36, u37, u38, u39, v40, v41, v42, v43, v44, v45, v46, v47, v48, v49, v50, v51, v52, v53, v54, v55, v56, v57, v58, v59, v60, v61, v62, v63, v64, v65, v66, v67, v68, v69, v70, v71, v72, v73, v74, v75, v76, v77, v78, v79, v80, v81, v82, v83, v84, v85, v86, v87, v88, v89, v90, v91, v92, v93, v94, v95, v96, v97, v98, v99, v100, v101, v102, v103, v104, v105, v106, v107, v108, v109, v110, v111, v112, v113, v114, v115, v116, v117, v118, v119, v120, v121, v122, v123, v124, v125, v126, v127, v128, v129, v130, v131, v132, v133, v134, v135, u136, u137, u138, u139, u140, u141, u142, u143, u144, u145, u146, u147, u148, u149, u150, u151, u152, u153, u154, u155, u156, u157, u158, u159, u160, u161, u162, u163, u164, u165, u166, u167, u168, u169, u170, u171, u172, u173, u174, u175, u176, u177, u178, u179, u180, u181, u182, u183, u184, u185, u186, u187, u188, u189, u190, u191, u192, u193, u194, u195, u196, u197, u198, u199, u200, u201, u202, u203, u204, u205, u206, u207, u208, u209, u210, u211, u212, u213, u214, u215, u216, u217, u218, u219, u220, u221, u222, u223, u224, u225, u226, u227, u228, u229, u230, u231, u232, u233, u234, u235, u236, u237, u238, u239, u240, u241, u242, u243, u244, u245, u246, u247, u248, u249, u250, u251, u252, u253, u254, u255, u256, u257, u258, u259, u260, u261, u262, u263, u264, u265, u266, u267, u268, u269, u270, u271, u272, u273, u274, u275, u276, u277, u278, u279, u280, u281, u282, u283, u284, u285, u286, u287, u288, u289, u290], defers := [] } W9) :
    Code.wp Try.prog C (Exit.then K E) { tmps := #[v0, v1, .int .i64 off, .int .i64 oth, .slice (some ⟨g, of, none⟩) N cv, v5, v6, v7, v8, v9, v10, v11, v12, v13, v14, v15, v16, v17, v18, .pointer (some ⟨A, 0, none⟩), v20, .pointer (some ⟨X, 0, none⟩), v22, .pointer (some ⟨Y, 0, none⟩), v24, .int .i64 now, .pointer (some ⟨L, 0, none⟩), .int .i64 (i : Int), v28, v29, v30, v31, v32, v33, v34, v35, v36, v37, v38, v39, v40, v41, v42, v43, v44, v45, v46, v47, v48, v49, v50, v51, v52, v53, v54, v55, v56, v57, v58, v59, v60, v61, v62, v63, v64, v65, v66, v67, v68, v69, v70, v71, v72, v73, v74, v75, v76, v77, v78, v79, v80, v81, v82, v83, v84, v85, v86, v87, v88, v89, v90, v91, v92, v93, v94, v95, v96, v97, v98, v99, v100, v101, v102, v103, v104, v105, v106, v107, v108, v109, v110, v111, v112, v113, v114, v115, v116, v117, v118, v119, v120, v121, v122, v123, v124, v125, v126, v127, v128, v129, v130, v131, v132, v133, v134, v135, v136, v137, v138, v139, v140, v141, v142, v143, v144, v145, v146, v147, v148, v149, v150, v151, v152, v153, v154, v155, v156, v157, v158, v159, v160, v161, v162, v163, v164, v165, v166, v167, v168, v169, v170, v171, v172, v173, v174, v175, v176, v177, v178, v179, v180, v181, v182, v183, v184, v185, v186, v187, v188, v189, v190, v191, v192, v193, v194, v195, v196, v197, v198, v199, v200, v201, v202, v203, v204, v205, v206, v207, v208, v209, v210, v211, v212, v213, v214, v215, v216, v217, v218, v219, v220, v221, v222, v223, v224, v225, v226, v227, v228, v229, v230, v231, v232, v233, v234, v235, v236, v237, v238, v239, v240, v241, v242, v243, v244, v245, v246, v247, v248, v249, v250, v251, v252, v253, v254, v255, v256, v257, v258, v259, v260, v261, v262, v263, v264, v265, v266, v267, v268, v269, v270, v271, v272, v273, v274, v275, v276, v277, v278, v279, v280, v281, v282, v283, v284, v285, v286, v287, v288, v289, v290], defers := [] } wr := by
  subst hC
  conv =>
    arg 2
    unfold oneBlk
    unfold Try.f3
    simp only [Option.getD_some, blkAt]
  conv =>
    arg 4
    zeta
  simp only at hK
  have HK := hidO hK
  clear hK
  have b3 : -1000 ≤ off := by have := HOF.out.d; have := HOF.out.f; omega
  have b4 : off ≤ 1000 := by have := HOF.out.d; have := HOF.out.f; omega
  have b5 : -1000 ≤ oth := by have := HOF.out.d; have := HOF.out.g; omega
  have b6 : oth ≤ 1000 := by have := HOF.out.d; have := HOF.out.g; omega
  go_upto_region 20 with fail
  have HSV : Hid (OnV w lease drift off oth A X Y L wr.heap.size now (wr.alloc (.cells #[.int .i64 0, .int .i64 0, .int .i64 0] 34))) := ⟨HS.out.turn HOO.out (Turn.of_below ((Below.refl _ _).alloc (Nat.le_refl _) _) NoF) (fun k hk => hk.elim), ⟨0, 0, 0, heap_alloc_new _ _⟩, HS.out.lt⟩
  obtain ⟨V, hVe⟩ : ∃ V, wr.heap.size = V := ⟨_, rfl⟩
  obtain ⟨W9, hW9⟩ : ∃ W9, wr.alloc (.cells #[.int .i64 0, .int .i64 0, .int .i64 0] 34) = W9 := ⟨_, rfl⟩
  rw [hVe, hW9] at HSV
  rw [hVe, hW9]
  clear hVe hW9 HS
  go_upto_block 2 with fail
  go_cut [29] from 136 to 157 (fun _ wx => Hid (OnV w lease drift off oth A X Y L V now wx))
  case first =>
    refine one_row w W9 lease drift off oth now A X Y L V g of N cv i an cn zs _ _ _ (by kernel_rfl) HOO HSV HN HC0 hi1 hgc hgm _ _ _ _ _ _ _ _ _ _ _ _ _ _ _ _ _ _ _ _ _ _ _ _ _ _ _ _ _ _ _ _ _ _ _ _ _ _ _ _ _ _ _ _ _ _ _ _ _ _ _ _ _ _ _ _ _ _ _ _ _ _ _ _ _ _ _ _ _ _ _ _ _ _ _ _ _ _ _ _ _ _ _ _ _ _ _ _ _ _ _ _ _ _ _ _ _ _ _ _ _ _ _ _ _ _ _ _ _ _ _ _ _ _ _ _ _ _ _ _ _ _ _ _ _ _ _ _ _ _ _ _ _ _ _ _ _ _ _ _ _ _ _ _ _ _ _ _ _ _ _ _ _ _ _ _ _ _ _ _ _ _ _ _ _ _ _ _ _ _ _ _ _ _ _ _ _ _ _ _ _ _ _ _ _ _ _ _ _ _ _ _ _ _ _ _ _ _ _ _ _ _ _ _ _ _ _ _ _ _ _ _ _ _ _ _ _ _ _ _ _ _ _ _ _ _ _ _ _ _ _ _ _ _ _ _ _ _ _ _ _ _ _ _ _ _ _ _ _ _ _ _ _ _ _ _ _ _ _ _ _ _ _ _ _ _ _ _ _ _ _ _ _ _ _ _ _ _ _ _ _ _ _ _ _ _ _ ?_
    intro W9' u29' u136' u137' u138' u139' u140' u141' u142' u143' u144' u145' u146' u147' u148' u149' u150' u151' u152' u153' u154' u155' u156' u157' h9
    have H9 := hidO h9
    clear h9
    conv =>
      arg 1
      zeta
    try go_step
    go_meet
    exact H9
  case rest =>
    clear HSV
    obtain ⟨W10, hW10⟩ : ∃ W10, W10 = wc := ⟨_, rfl⟩
    subst hW10
    clear HC0 HN
    obtain ⟨s0, s1, s2, hvr⟩ := hcut.out.vr
    obtain ⟨⟨c0, c1, c2⟩, _⟩ := vr_cells hvr
    have HS := hidO hcut.out.st
    clear hcut hvr
    go_upto_region 24 with fail
    go_cut [165] from 136 to 290 (fun v165 wx => v165 = .bool (decide (0 ≤ s1 ∧ s1 < 5000)) ∧ wx = W10)
    case first =>
      by_cases h1 : 0 ≤ s1
      · by_cases h2 : s1 < 5000
        all_goals
          go_wp2_with fail
          go_meet
          exact ⟨by simp [h1, h2], rfl⟩
      · go_wp2_with fail
        go_meet
        exact ⟨by rw [decide_eq_false (by omega)], rfl⟩
    case rest =>
      obtain ⟨rfl, rfl⟩ := hcut
      obtain ⟨D, hD⟩ : ∃ D, decide (0 ≤ s1 ∧ s1 < 5000) = D := ⟨_, rfl⟩
      rw [hD]
      go_upto_if 165 with fail
      go_cut [25] from 136 to 290 (fun v25 wx => (∃ n2 : Int, v25 = .int .i64 n2 ∧ now ≤ n2 ∧ n2 ≤ 2000 + 5000 * ((i : Int) + 1)) ∧ wx = wc)
      case first =>
        cases D
        · go_wp2_with fail
          go_meet
          exact ⟨⟨now, rfl, by omega, by omega⟩, rfl⟩
        · obtain ⟨h1, h2⟩ := of_decide_eq_true hD
          go_wp2_with fail
          go_meet
          exact ⟨⟨now + s1, rfl, by omega, by omega⟩, rfl⟩
      case rest =>
        obtain ⟨⟨n2, rfl, hnn, hn3⟩, rfl⟩ := hcut
        clear hD D
        go_upto_region 27 with fail
        go_cut [173] from 136 to 290 (fun v173 wx => (∃ D, v173 = .bool D) ∧ wx = wc)
        case first =>
          go_wp2_with fail
          all_goals
            go_meet
            exact ⟨⟨_, rfl⟩, rfl⟩
        case rest =>
          obtain ⟨⟨D, rfl⟩, rfl⟩ := hcut
          go_upto_if 173 with fail
          go_cut [30] from 136 to 290 (fun v30 wx => (∃ k : Int, v30 = .int .i64 k ∧ (k = 0 ∨ k = 1)) ∧ wx = wc)
          case first =>
            cases D
            · go_wp2_with fail
              go_meet
              exact ⟨⟨0, rfl, .inl rfl⟩, rfl⟩
            · go_wp2_with fail
              go_meet
              exact ⟨⟨1, rfl, .inr rfl⟩, rfl⟩
          case rest =>
            obtain ⟨⟨k, rfl, hk⟩, rfl⟩ := hcut
            have HS2 := hidO (HS.out.later hnn)
            clear HS
            go_upto_block 4 with fail
            clear c0 c1 c2
            go_cut [31, 32, 33, 34, 35] from 136 to 290 (fun _ _ _ _ _ wx => Hid (OnS w lease drift off oth A X Y L n2 wx))
            case first =>
              refine one_sw w wc lease drift off oth n2 k s0 A X Y L _ _ _ (by kernel_rfl) HOO HS2 HOF.out.d.1 hk (by omega) (by omega) b3 b4 b5 b6 _ _ _ _ _ _ _ _ _ _ _ _ _ _ _ _ _ _ _ _ _ _ _ _ _ _ _ _ _ _ _ _ _ _ _ _ _ _ _ _ _ _ _ _ _ _ _ _ _ _ _ _ _ _ _ _ _ _ _ _ _ _ _ _ _ _ _ _ _ _ _ _ _ _ _ _ _ _ _ _ _ _ _ _ _ _ _ _ _ _ _ _ _ _ _ _ _ _ _ _ _ _ _ _ _ _ _ _ _ _ _ _ _ _ _ _ _ _ _ _ _ _ _ _ _ _ _ _ _ _ _ _ _ _ _ _ _ _ _ _ _ _ _ _ _ _ _ _ _ _ _ _ _ _ _ _ _ _ _ _ _ _ _ _ _ _ _ _ _ _ _ _ _ _ _ _ _ _ _ _ _ _ _ _ _ _ _ _ _ _ _ _ _ _ _ _ _ _ _ _ _ _ _ _ _ _ _ _ _ _ _ _ _ _ _ _ _ _ _ _ _ _ _ _ _ _ _ _ _ _ _ _ _ _ _ _ _ _ _ _ _ _ _ _ _ _ _ _ _ _ _ _ _ _ _ _ _ _ _ _ _ _ _ _ _ _ _ _ _ _ _ _ _ _ _ _ _ _ _ _ _ _ ?_
              intro W9' u31' u32' u33' u34' u35' u176' u177' u178' u179' u180' u181' u182' u183' u184' u185' u186' u187' u188' u189' u190' u191' u192' u193' u194' u195' u196' u197' u198' u199' u200' u201' u202' u203' u204' u205' u206' u207' u208' u209' u210' u211' u212' u213' u214' u215' u216' u217' u218' u219' u220' u221' u222' u223' u224' u225' u226' u227' u228' u229' u230' u231' u232' u233' u234' u235' u236' u237' u238' u239' u240' u241' u242' u243' u244' u245' u246' u247' u248' u249' u250' u251' u252' u253' u254' u255' u256' u257' u258' u259' u260' h9
              have H9 := hidO h9
              clear h9
              conv =>
                arg 1
                zeta
              try go_step
              go_meet
              exact H9
            case rest =>
              obtain ⟨x, y, kx, ox, oy, hx, hy, hR, HN⟩ := hcut.out.roles HOO.out HOF.out (by omega) (by omega) (by omega) (by omega)
              have q1 := role_ok X x (n2 + off) wc kx ox hx
              have HQ2 : Hid (∀ W1, VtAt W1 Y y → Calls Try.prog 8 #[.pointer (some ⟨Y, 0, none⟩), .int .i64 (n2 + oth)] W1 fun e w' => e = .returned (.tuple #[.int .i64 (rolI y (n2 + oth)), .nilIface]) ∧ VtAt w' Y { y with now := n2 + oth } ∧ Turn (fun i => i = Y) W1 w') := fun W1 hW => role_ok Y y (n2 + oth) W1 hW oy hy
              have HNN := hidO HN
              have hRx : rolI x (n2 + off) = 1 ∨ rolI x (n2 + off) = 2 := by unfold rolI; split <;> simp
              have hRy : rolI y (n2 + oth) = 1 ∨ rolI y (n2 + oth) = 2 := by unfold rolI; split <;> simp
              generalize rolI x (n2 + off) = p at q1 hR hRx
              obtain ⟨qr, hqr⟩ : ∃ qr, rolI y (n2 + oth) = qr := ⟨_, rfl⟩
              rw [hqr] at HQ2 hR hRy
              clear HN hcut kx ox oy hx hy HS2 hqr
              go_upto_region 56 with (go_at_call 8; go_must ((with_reducible refine q1.mono ?_); rintro e W11 ⟨rfl, k11, t11⟩))
              obtain ⟨ky, HN3⟩ := HNN.out W11 k11 t11
              have q2 := HQ2.out W11 ky
              have HN4 := hidO HN3
              clear HN3 k11 t11 ky q1 HNN HQ2
              go_upto_region 57 with (go_at_call 8; go_must ((with_reducible refine q2.mono ?_); rintro e W12 ⟨rfl, k12, t12⟩))
              have HF := hidO (HN4.out W12 k12 t12)
              clear HN4 k12 t12 q2
              rcases hRx with rfl | rfl
              · go_wp2_with fail
                exact HK.out _ _ _ _ _ _ _ _ _ _ _ _ _ _ _ _ _ _ _ _ _ _ _ _ _ _ _ _ _ _ _ _ _ _ _ _ _ _ _ _ _ _ _ _ _ _ _ _ _ _ _ _ _ _ _ _ _ _ _ _ _ _ _ _ _ _ _ _ _ _ _ _ _ _ _ _ _ _ _ _ _ _ _ _ _ _ _ _ _ _ _ _ _ _ _ _ _ _ _ _ _ _ _ _ _ _ _ _ _ _ _ _ _ _ _ _ _ _ _ _ _ _ _ _ _ _ _ _ _ _ _ _ _ _ _ _ _ _ _ _ _ _ _ _ _ _ _ _ _ _ _ _ _ _ _ _ _ _ _ _ _ _ _ _ _ _ _ _ _ _ (by omega) (by omega) HF.out
              · obtain rfl : qr = 1 := by omega
                go_wp2_with fail
                exact HK.out _ _ _ _ _ _ _ _ _ _ _ _ _ _ _ _ _ _ _ _ _ _ _ _ _ _ _ _ _ _ _ _ _ _ _ _ _ _ _ _ _ _ _ _ _ _ _ _ _ _ _ _ _ _ _ _ _ _ _ _ _ _ _ _ _ _ _ _ _ _ _ _ _ _ _ _ _ _ _ _ _ _ _ _ _ _ _ _ _ _ _ _ _ _ _ _ _ _ _ _ _ _ _ _ _ _ _ _ _ _ _ _ _ _ _ _ _ _ _ _ _ _ _ _ _ _ _ _ _ _ _ _ _ _ _ _ _ _ _ _ _ _ _ _ _ _ _ _ _ _ _ _ _ _ _ _ _ _ _ _ _ _ _ _ _ _ _ _ _ _ (by omega) (by omega) HF.out
end Go.Proofs.Ytempphlbgeogiaa
