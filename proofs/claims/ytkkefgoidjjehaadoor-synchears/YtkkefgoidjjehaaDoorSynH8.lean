/- SyncHears: the rounds (block 2), the last rounds (block 8). -/
import Derived.Test.YtkkefgoidjjehaaDoorSynH7
import Derived.Test.YtkkefgoidjjehaaDoorSynH3
namespace Go.Proofs.YtkkefgoidjjehaaDoor
open Go.RowKit Go.Maps
set_option linter.unusedVariables false

set_option maxRecDepth 100000 in
set_option maxHeartbeats 32000000 in
theorem hr_loop2 (w W0 : World) (n NE ce : Nat) (av : Option Addr) (l : List (List Int × Value)) (bt mt bh mh : Nat) (K : Act → World → Prop) (E : Exit → Act → World → Prop) (C : Code) (hC : C = hrBlk 2)
    (HO : Hid (HrO w bt mt bh mh)) (HS0 : Hid (HrS w 0 0 n (fun _ => 0) 0 [] bt mt bh mh W0)) (HL : Hid (∀ W, Below w.heap.size w W → Lives W)) (HV : Hid (Rowz w (.slice av NE ce) l)) (HNE : Hid (l.length = NE)) (hn : n ≤ 40)
    (v0 v2 v3 v4 v5 v6 v7 v8 v9 v11 v13 v14 v15 v16 v20 v21 v22 v23 v24 v25 v26 v27 v28 v29 v30 v31 v32 v33 v34 v35 v36 v37 v38 v39 v40 v41 v42 v43 v44 v45 v46 v47 v48 v49 v50 v51 v52 v53 v54 v55 v56 v57 v58 v59 v60 v61 v62 v63 v64 v65 v66 v67 v68 v69 v70 v71 v72 v73 v74 v75 v76 v77 v78 v79 v80 v81 v82 v83 v84 v85 v86 v87 v88 v89 v90 v91 v92 v93 v94 v95 v96 v97 v98 v99 v100 v101 v102 v103 v104 v105 v106 v107 v108 v109 v110 v111 v112 v113 v114 v115 v116 v117 v118 v119 v120 v121 v122 v123 v124 v125 v126 v127 v128 v129 v130 v131 v132 v133 v134 v135 v136 v137 v138 v139 v140 v141 v142 v143 v144 v145 v146 v147 v148 v149 v150 v151 v152 v153 v154 v155 v156 v157 v158 v159 v160 v161 v162 v163 v164 v165 v166 v167 v168 v169 v170 v171 v172 v173 v174 v175 v176 v177 v178 v179 v180 v181 v182 v183 v184 v185 v186 v187 v188 v189 v190 v191 v192 v193 v194 v195 v196 v197 v198 v199 v200 v201 v202 v203 v204 v205 v206 v207 v208 v209 v210 v211 v212 v213 v214 v215 v216 v217 v218 v219 v220 v221 v222 v223 v224 v225 v226 v227 v228 v229 v230 v231 v232 v233 v234 v235 v236 v237 v238 v239 v240 v241 v242 v243 v244 v245 v246 v247 v248 v249 v250 v251 v252 v253 v254 v255 v256 v257 v258 v259 : Value)
    (hK : ∀ (s9 h9 t9 : Nat) (ds9 : Nat → Nat) (Wt9 : List Nat) (W9 : World) (u4 u18 u19 u20 u21 u22 u23 u24 u25 u26 u110 u111 u112 u113 u114 u115 u116 u117 u118 u119 u120 u121 u122 u123 u124 u125 u126 u127 u128 u129 u130 u131 u132 u133 u134 u135 u136 u137 u138 u139 u140 u141 u142 u143 u144 u145 u146 u147 u148 u149 u150 u151 u152 u153 u154 u155 u156 u157 u158 u159 u160 u161 u162 u163 u164 u165 u166 u167 u168 u169 u170 u171 u172 u173 u174 u175 u176 u177 u178 u179 u180 u181 u182 u183 u184 u185 u186 u187 u188 u189 u190 u191 u192 u193 u194 u195 u196 u197 u198 u199 u200 u201 u202 u203 u204 u205 u206 : Value), HOk n s9 Wt9 → h9 ≤ s9 → Wt9.length ≤ 400 → t9 ≤ 40 → (∀ j, ds9 j ≤ 42) → HrS w t9 h9 n ds9 s9 Wt9 bt mt bh mh W9 → K { tmps := #[v0, .slice av NE ce, v2, v3, u4, v5, v6, v7, v8, v9, .pointer (some ⟨bt, 0, none⟩), v11, .pointer (some ⟨bh, 0, none⟩), v13, v14, v15, v16, .int .i64 (s9 : Int), u18, u19, u20, u21, u22, u23, u24, u25, u26, v27, v28, v29, v30, v31, v32, v33, v34, v35, v36, v37, v38, v39, v40, v41, v42, v43, v44, v45, v46, v47, v48, v49, v50, v51, v52, v53, v54, v55, v56, v57, v58, v59, v60, v61, v62, v63, v64, v65, v66, v67, v68, v69, v70, v71, v72, v73, v74, v75, v76, v77, v78, v79, v80, v81, v82, v83, v84, v85, v86, v87, v88, v89, v90, v91, v92, v93, v94, v95, v96, v97, v98, v99, v100, v101, v102, v103, v104, v105, v106, v107, v108, v109, u110, u111, u112, u113, u114, u115, u116, u117, u118, u119, u120, u121, u122, u123, u124, u125, u126, u127, u128, u129, u130, u131, u132, u133, u134, u135, u136, u137, u138, u139, u140, u141, u142, u143, u144, u145, u146, u147, u148, u149, u150, u151, u152, u153, u154, u155, u156, u157, u158, u159, u160, u161, u162, u163, u164, u165, u166, u167, u168, u169, u170, u171, u172, u173, u174, u175, u176, u177, u178, u179, u180, u181, u182, u183, u184, u185, u186, u187, u188, u189, u190, u191, u192, u193, u194, u195, u196, u197, u198, u199, u200, u201, u202, u203, u204, u205, u206, v207, v208, v209, v210, v211, v212, v213, v214, v215, v216, v217, v218, v219, v220, v221, v222, v223, v224, v225, v226, v227, v228, v229, v230, v231, v232, v233, v234, v235, v236, v237, v238, v239, v240, v241, v242, v243, v244, v245, v246, v247, v248, v249, v250, v251, v252, v253, v254, v255, v256, v257, v258, v259], defers := [] } W9) :
    Code.wp Tryd.prog C (Exit.then K E) { tmps := #[v0, .slice av NE ce, v2, v3, v4, v5, v6, v7, v8, v9, .pointer (some ⟨bt, 0, none⟩), v11, .pointer (some ⟨bh, 0, none⟩), v13, v14, v15, v16, .int .i64 0, .slice none 0 0, .int .i64 0, v20, v21, v22, v23, v24, v25, v26, v27, v28, v29, v30, v31, v32, v33, v34, v35, v36, v37, v38, v39, v40, v41, v42, v43, v44, v45, v46, v47, v48, v49, v50, v51, v52, v53, v54, v55, v56, v57, v58, v59, v60, v61, v62, v63, v64, v65, v66, v67, v68, v69, v70, v71, v72, v73, v74, v75, v76, v77, v78, v79, v80, v81, v82, v83, v84, v85, v86, v87, v88, v89, v90, v91, v92, v93, v94, v95, v96, v97, v98, v99, v100, v101, v102, v103, v104, v105, v106, v107, v108, v109, v110, v111, v112, v113, v114, v115, v116, v117, v118, v119, v120, v121, v122, v123, v124, v125, v126, v127, v128, v129, v130, v131, v132, v133, v134, v135, v136, v137, v138, v139, v140, v141, v142, v143, v144, v145, v146, v147, v148, v149, v150, v151, v152, v153, v154, v155, v156, v157, v158, v159, v160, v161, v162, v163, v164, v165, v166, v167, v168, v169, v170, v171, v172, v173, v174, v175, v176, v177, v178, v179, v180, v181, v182, v183, v184, v185, v186, v187, v188, v189, v190, v191, v192, v193, v194, v195, v196, v197, v198, v199, v200, v201, v202, v203, v204, v205, v206, v207, v208, v209, v210, v211, v212, v213, v214, v215, v216, v217, v218, v219, v220, v221, v222, v223, v224, v225, v226, v227, v228, v229, v230, v231, v232, v233, v234, v235, v236, v237, v238, v239, v240, v241, v242, v243, v244, v245, v246, v247, v248, v249, v250, v251, v252, v253, v254, v255, v256, v257, v258, v259], defers := [] } W0 := by
  subst hC
  conv =>
    arg 2
    unfold hrBlk
    unfold Tryd.f4
    simp only [Option.getD_some, blkAt]
  conv =>
    arg 4
    zeta
  simp (maxSteps := 10000000) only at hK
  have HK := hidO hK
  clear hK
  go_wp2_with fail
  go_loopw [17, 18, 19] (fun v17 v18 v19 wr => ∃ (i t0 h s LN ca : Nat) (ao : Option Addr) (ds : Nat → Nat) (Wt L : List Nat), v17 = .int .i64 (s : Int) ∧ v18 = .slice ao LN ca ∧ v19 = .int .i64 (i : Int) ∧ i ≤ 40 ∧ t0 ≤ i ∧ Hid (t0 < i ∨ i = 0) ∧ h ≤ s ∧ Hid (HOk n s Wt) ∧ Wt.length ≤ 8 * i ∧ Hid (∀ j, ds j ≤ t0 + 3) ∧ Hid (L.length = LN) ∧ LN ≤ 100 * i ∧ Hid (∀ j ∈ L, 1 ≤ j ∧ j ≤ n) ∧ Hid (HrS w t0 h n ds s Wt bt mt bh mh wr) ∧ Hid (OwnNt wr w.heap.size (.slice ao LN ca) (L.map nK))) (fun _ _ v19 _ => (100 - intOf v19).toNat)
  case atStart => exact ⟨0, 0, 0, 0, 0, 0, none, fun _ => 0, [], [], rfl, rfl, rfl, by omega, by omega, .inr rfl, by omega, ⟨Nat.zero_le _, fun x hx => by cases hx⟩, by simp, (fun _ => Nat.zero_le _), rfl, by omega, (fun j hj => by cases hj), HS0, OwnN.nil _ _⟩
  case round =>
    clear HS0
    obtain ⟨i, t0, h, s, LN, ca, ao, ds, Wt, L, rfl, rfl, rfl, hi40, ht0, HTI, hhs, HOK, hWl, HDB, HN, hLN, HJ, HS, HW⟩ := hrel
    by_cases hi : i < NE ∧ i < 40
    · have hi1 : (i : Int) < (NE : Int) := by omega
      have hi2 : (i : Int) < 40 := by omega
      have hil : i < l.length := by rw [HNE.out]; exact hi.1
      obtain ⟨ge, oe, rfl, hg, hgc, hgm, hcells⟩ := HV.out.at (by omega)
      rw [HNE.out] at hgc
      obtain ⟨c0, hZ⟩ := hcells i hil
      obtain ⟨an, cn, ean⟩ := hZ.len
      rw [ean] at c0 hZ
      generalize (l[i]'hil).1 = zs at c0 hZ
      have HNZ := hidO hZ
      have HC0 : Hid (∀ X', Below w.heap.size w X' → X'.cell? ⟨ge, oe + i, none⟩ = some (.slice an zs.length cn)) := fun X' bX => (bX.cell (p := ⟨ge, oe + i, none⟩) hg).trans c0
      have HDB2 : Hid (∀ j, ds j ≤ 2000) := fun j => by have := HDB.out j; omega
      have HD9 : Hid (∀ j, dsN i ds j ≤ i + 3) := fun j => by
        have := HDB.out j
        unfold dsN
        split <;> omega
      clear hcells c0 ean hZ hil
      go_upto_block 3 with fail
      refine hr_round3 w wr t0 h n s i LN ca ge oe NE ce ao an cn zs ds Wt bt mt bh mh L _ _ _ (by kernel_rfl) HO HS HL HW HN HJ (by omega) HOK hhs (by omega) (by omega) HDB2 (by omega) (by omega) HNZ HC0 hi1 hgc hgm _ _ _ _ _ _ _ _ _ _ _ _ _ _ _ _ _ _ _ _ _ _ _ _ _ _ _ _ _ _ _ _ _ _ _ _ _ _ _ _ _ _ _ _ _ _ _ _ _ _ _ _ _ _ _ _ _ _ _ _ _ _ _ _ _ _ _ _ _ _ _ _ _ _ _ _ _ _ _ _ _ _ _ _ _ _ _ _ _ _ _ _ _ _ _ _ _ _ _ _ _ _ _ _ _ _ _ _ _ _ _ _ _ _ _ _ _ _ _ _ _ _ _ _ _ _ _ _ _ _ _ _ _ _ _ _ _ _ _ _ _ _ _ _ _ _ _ _ _ _ _ _ _ _ _ _ _ _ _ _ _ _ _ _ _ _ _ _ _ _ _ _ _ _ _ _ _ _ _ _ _ _ _ _ _ _ _ _ _ _ _ _ _ _ _ _ _ _ _ _ _ _ _ _ _ _ _ _ _ _ _ _ _ _ _ _ _ _ _ _ _ _ _ _ _ _ _ _ _ _ _ _ _ _ _ _ _ _ _ _ _ _ _ _ _ _ _ _ _ _ _ _ _ _ ?_
      intro s9 h9 c9 a9 Wt9 L9 W9 u4' u20' u21' u22' u23' u24' u25' u26' u120' u121' u122' u123' u124' u125' u126' u127' u128' u129' u130' u131' u132' u133' u134' u135' u136' u137' u138' u139' u140' u141' u142' u143' u144' u145' u146' u147' u148' u149' u150' u151' u152' u153' u154' u155' u156' u157' u158' u159' u160' u161' u162' u163' u164' u165' u166' u167' u168' u169' u170' u171' u172' u173' u174' u175' u176' u177' u178' u179' u180' u181' u182' u183' u184' u185' u186' u187' u188' u189' u190' u191' u192' u193' u194' u195' u196' u197' u198' u199' u200' u201' u202' u203' u204' u205' u206' g1 g2 g3 g4 g5 g6 g7
      have G1 := hidO g1
      have G4 := hidO g4
      have G5 := hidO g5
      have G7 := hidO g7
      clear g1 g4 g5 g7 HC0 HNZ HS HW HJ HN HOK HDB HDB2 HTI
      conv =>
        arg 1
        zeta
      try go_step
      obtain ⟨LN9, hLN9⟩ : ∃ LN9, L9.length = LN9 := ⟨_, rfl⟩
      have HN9 : Hid (L9.length = LN9) := hLN9
      rw [hLN9] at G5 g6
      rw [hLN9]
      clear hLN9
      go_wp2_with fail
      go_roundw
      case rel => exact ⟨i + 1, i, h9, s9, LN9, c9, a9, dsN i ds, Wt9, L9, rfl, rfl, by simp, by omega, by omega, .inl (by omega), g2, G1, by omega, HD9, HN9, by omega, G7, G4, G5⟩
      case measure => simp only [intOf]; omega
    · rcases (by omega : (¬ (i : Int) < (NE : Int)) ∨ ((i : Int) < (NE : Int) ∧ ¬ (i : Int) < 40)) with hd | ⟨hd, hd2⟩
      all_goals
        clear hi
        go_wp2_with fail
        exact HK.out s h t0 ds Wt _ _ _ _ _ _ _ _ _ _ _ _ _ _ _ _ _ _ _ _ _ _ _ _ _ _ _ _ _ _ _ _ _ _ _ _ _ _ _ _ _ _ _ _ _ _ _ _ _ _ _ _ _ _ _ _ _ _ _ _ _ _ _ _ _ _ _ _ _ _ _ _ _ _ _ _ _ _ _ _ _ _ _ _ _ _ _ _ _ _ _ _ _ _ _ _ _ _ _ _ _ _ _ _ _ _ _ _ HOK.out hhs (by omega) (by omega) (fun j => by have := HDB.out j; have := HTI.out; omega) HS.out
end Go.Proofs.YtkkefgoidjjehaaDoor
