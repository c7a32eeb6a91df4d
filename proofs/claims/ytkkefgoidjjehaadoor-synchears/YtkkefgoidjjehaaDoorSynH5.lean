/- SyncHears: one number of a row: a note that is late is heard, and what comes out is right (block 5). -/
import Derived.Test.YtkkefgoidjjehaaDoorSynH4
namespace Go.Proofs.YtkkefgoidjjehaaDoor
open Go.RowKit Go.Maps
set_option linter.unusedVariables false

set_option maxRecDepth 100000 in
set_option maxHeartbeats 32000000 in
theorem hr_one (w W0 : World) (now h n s q i LN ca ge oe NE ce : Nat) (ao an : Option Addr) (cn : Nat) (zs : List Int) (ds : Nat → Nat) (Wt : List Nat) (bt mt bh mh : Nat) (L : List Nat) (K : Act → World → Prop) (E : Exit → Act → World → Prop) (C : Code) (hC : C = hrBlk 5)
    (HO : Hid (HrO w bt mt bh mh)) (HS : Hid (HrS w now h n ds s Wt bt mt bh mh W0)) (HL : Hid (∀ W, Below w.heap.size w W → Lives W)) (HW : Hid (OwnNt W0 w.heap.size (.slice ao LN ca) (L.map nK))) (HN : Hid (L.length = LN)) (HJ : Hid (∀ j ∈ L, 1 ≤ j ∧ j ≤ n)) (hn : n ≤ 100) (HOK : Hid (HOk n s Wt)) (hWt : Wt.length ≤ 4000) (hLN : LN ≤ 5000) (HNZ : Hid (Numz w (.slice an zs.length cn) zs)) (HC0 : Hid (∀ X', Below w.heap.size w X' → X'.cell? ⟨ge, oe + i, none⟩ = some (.slice an zs.length cn))) (hi1 : (i : Int) < (NE : Int)) (hgc : NE ≤ ce) (hgm : ce ≤ maxLen) (hq : q < zs.length)
    (v0 v2 v3 v4 v5 v6 v7 v8 v9 v10 v11 v13 v14 v15 v16 v20 v21 v23 v24 v25 v26 v27 v28 v29 v30 v31 v32 v33 v34 v35 v36 v37 v38 v39 v40 v41 v42 v43 v44 v45 v46 v47 v48 v49 v50 v51 v52 v53 v54 v55 v56 v57 v58 v59 v60 v61 v62 v63 v64 v65 v66 v67 v68 v69 v70 v71 v72 v73 v74 v75 v76 v77 v78 v79 v80 v81 v82 v83 v84 v85 v86 v87 v88 v89 v90 v91 v92 v93 v94 v95 v96 v97 v98 v99 v100 v101 v102 v103 v104 v105 v106 v107 v108 v109 v110 v111 v112 v113 v114 v115 v116 v117 v118 v119 v120 v121 v122 v123 v124 v125 v126 v127 v128 v129 v130 v131 v132 v133 v134 v135 v136 v137 v138 v139 v140 v141 v142 v143 v144 v145 v146 v147 v148 v149 v150 v151 v152 v153 v154 v155 v156 v157 v158 v159 v160 v161 v162 v163 v164 v165 v166 v167 v168 v169 v170 v171 v172 v173 v174 v175 v176 v177 v178 v179 v180 v181 v182 v183 v184 v185 v186 v187 v188 v189 v190 v191 v192 v193 v194 v195 v196 v197 v198 v199 v200 v201 v202 v203 v204 v205 v206 v207 v208 v209 v210 v211 v212 v213 v214 v215 v216 v217 v218 v219 v220 v221 v222 v223 v224 v225 v226 v227 v228 v229 v230 v231 v232 v233 v234 v235 v236 v237 v238 v239 v240 v241 v242 v243 v244 v245 v246 v247 v248 v249 v250 v251 v252 v253 v254 v255 v256 v257 v258 v259 : Value)
    (hK : ∀ (s9 : Nat) (Wt9 : List Nat) (W9 : World) (u4 u23 u24 u25 u26 u144 u145 u146 u147 u148 u149 u150 u151 u152 u153 u154 u155 u156 u157 u158 u159 u160 u161 u162 u163 u164 u165 u166 u167 u168 u169 u170 u171 u172 u173 u174 u175 u176 u177 u178 u179 u180 u181 u182 u183 u184 u185 u186 u187 u188 u189 u190 u191 u192 u193 u194 u195 u196 : Value), HOk n s9 Wt9 → s ≤ s9 → Wt9.length ≤ Wt.length + 1 → HrS w now h n ds s9 Wt9 bt mt bh mh W9 → OwnNt W9 w.heap.size (.slice ao LN ca) (L.map nK) → K { tmps := #[v0, .slice (some ⟨ge, oe, none⟩) NE ce, v2, v3, u4, v5, v6, v7, v8, v9, v10, v11, .pointer (some ⟨bh, 0, none⟩), v13, v14, v15, v16, .int .i64 (s9 : Int), .slice ao LN ca, .int .i64 (i : Int), v20, v21, .int .i64 (q : Int), u23, u24, u25, u26, v27, v28, v29, v30, v31, v32, v33, v34, v35, v36, v37, v38, v39, v40, v41, v42, v43, v44, v45, v46, v47, v48, v49, v50, v51, v52, v53, v54, v55, v56, v57, v58, v59, v60, v61, v62, v63, v64, v65, v66, v67, v68, v69, v70, v71, v72, v73, v74, v75, v76, v77, v78, v79, v80, v81, v82, v83, v84, v85, v86, v87, v88, v89, v90, v91, v92, v93, v94, v95, v96, v97, v98, v99, v100, v101, v102, v103, v104, v105, v106, v107, v108, v109, v110, v111, v112, v113, v114, v115, v116, v117, v118, v119, v120, v121, v122, v123, v124, v125, v126, v127, v128, v129, v130, v131, v132, v133, v134, v135, v136, v137, v138, v139, v140, v141, v142, v143, u144, u145, u146, u147, u148, u149, u150, u151, u152, u153, u154, u155, u156, u157, u158, u159, u160, u161, u162, u163, u164, u165, u166, u167, u168, u169, u170, u171, u172, u173, u174, u175, u176, u177, u178, u179, u180, u181, u182, u183, u184, u185, u186, u187, u188, u189, u190, u191, u192, u193, u194, u195, u196, v197, v198, v199, v200, v201, v202, v203, v204, v205, v206, v207, v208, v209, v210, v211, v212, v213, v214, v215, v216, v217, v218, v219, v220, v221, v222, v223, v224, v225, v226, v227, v228, v229, v230, v231, v232, v233, v234, v235, v236, v237, v238, v239, v240, v241, v242, v243, v244, v245, v246, v247, v248, v249, v250, v251, v252, v253, v254, v255, v256, v257, v258, v259], defers := [] } W9) :
    Code.wp Tryd.prog C (Exit.then K E) { tmps := #[v0, .slice (some ⟨ge, oe, none⟩) NE ce, v2, v3, v4, v5, v6, v7, v8, v9, v10, v11, .pointer (some ⟨bh, 0, none⟩), v13, v14, v15, v16, .int .i64 (s : Int), .slice ao LN ca, .int .i64 (i : Int), v20, v21, .int .i64 (q : Int), v23, v24, v25, v26, v27, v28, v29, v30, v31, v32, v33, v34, v35, v36, v37, v38, v39, v40, v41, v42, v43, v44, v45, v46, v47, v48, v49, v50, v51, v52, v53, v54, v55, v56, v57, v58, v59, v60, v61, v62, v63, v64, v65, v66, v67, v68, v69, v70, v71, v72, v73, v74, v75, v76, v77, v78, v79, v80, v81, v82, v83, v84, v85, v86, v87, v88, v89, v90, v91, v92, v93, v94, v95, v96, v97, v98, v99, v100, v101, v102, v103, v104, v105, v106, v107, v108, v109, v110, v111, v112, v113, v114, v115, v116, v117, v118, v119, v120, v121, v122, v123, v124, v125, v126, v127, v128, v129, v130, v131, v132, v133, v134, v135, v136, v137, v138, v139, v140, v141, v142, v143, v144, v145, v146, v147, v148, v149, v150, v151, v152, v153, v154, v155, v156, v157, v158, v159, v160, v161, v162, v163, v164, v165, v166, v167, v168, v169, v170, v171, v172, v173, v174, v175, v176, v177, v178, v179, v180, v181, v182, v183, v184, v185, v186, v187, v188, v189, v190, v191, v192, v193, v194, v195, v196, v197, v198, v199, v200, v201, v202, v203, v204, v205, v206, v207, v208, v209, v210, v211, v212, v213, v214, v215, v216, v217, v218, v219, v220, v221, v222, v223, v224, v225, v226, v227, v228, v229, v230, v231, v232, v233, v234, v235, v236, v237, v238, v239, v240, v241, v242, v243, v244, v245, v246, v247, v248, v249, v250, v251, v252, v253, v254, v255, v256, v257, v258, v259], defers := [] } W0 := by
  subst hC
  conv =>
    arg 2
    unfold hrBlk
    unfold Tryd.f4
    simp only [Option.getD_some, blkAt]
  conv =>
    arg 4
    zeta
  simp (maxSteps := 10000000) only at hK
  have HK := hidO hK
  clear hK
  obtain ⟨g2, of2, rfl, hg2, hc2, hm2, hcells⟩ := HNZ.out.at (by omega)
  have e0 := (HS.out.bel.cell (p := ⟨g2, of2 + q, none⟩) hg2).trans (hcells q hq)
  have c0 := HC0.out W0 HS.out.bel
  obtain ⟨z, hz⟩ : ∃ z, zs[q] = z := ⟨_, rfl⟩
  rw [hz] at e0
  have j1 : (q : Int) < (zs.length : Int) := by omega
  have j2 : (0 : Int) ≤ (q : Int) := by omega
  clear hcells hz hq
  go_upto_region 32 with fail
  clear c0 e0
  by_cases hz1 : z < 0
  · go_wp2_with fail
    exact HK.out s Wt _ _ _ _ _ _ _ _ _ _ _ _ _ _ _ _ _ _ _ _ _ _ _ _ _ _ _ _ _ _ _ _ _ _ _ _ _ _ _ _ _ _ _ _ _ _ _ _ _ _ _ _ _ _ _ _ _ _ _ HOK.out (Nat.le_refl _) (by omega) HS.out HW.out
  · by_cases hz2 : (LN : Int) ≤ z
    · go_wp2_with fail
      exact HK.out s Wt _ _ _ _ _ _ _ _ _ _ _ _ _ _ _ _ _ _ _ _ _ _ _ _ _ _ _ _ _ _ _ _ _ _ _ _ _ _ _ _ _ _ _ _ _ _ _ _ _ _ _ _ _ _ _ _ _ _ _ HOK.out (Nat.le_refl _) (by omega) HS.out HW.out
    · obtain ⟨p, rfl⟩ : ∃ p : Nat, z = (p : Int) := ⟨z.toNat, by omega⟩
      have hp : p < LN := by omega
      have hpL : p < L.length := by rw [HN.out]; exact hp
      obtain ⟨j, hj⟩ : ∃ j, L[p] = j := ⟨_, rfl⟩
      obtain ⟨hj1, hj2⟩ := HJ.out j (by rw [← hj]; exact List.getElem_mem _)
      obtain ⟨g, c2, e2, hb2, hg3, hca, hcm⟩ := OwnN.shape HW.out (by rw [List.length_map]; omega)
      simp only [Value.slice.injEq] at e2
      obtain ⟨rfl, e3, rfl⟩ := e2
      clear e3
      rw [List.length_map, HN.out] at hca
      obtain ⟨M, hM⟩ : ∃ M, nK j = M := ⟨_, rfl⟩
      obtain ⟨r0, r1, r2, r3, r4, r5, r6, r7, r8, r9, r10, r11, r12, r13, r14, r15, r16⟩ := own_nt HW.out p (by rw [List.length_map]; exact hpL) M (by rw [List.getElem_map, hj, hM])
      have hs : s ≤ 100 := Nat.le_trans HOK.out.1 hn
      have hrn := (hear_ok HOK.out hj2).1.1
      have HOK2 := hidO (hear_ok HOK.out hj2)
      have hln := hearS_len s Wt j
      have q1 := heHear_any nK (fun _ => rfl) bh mh s Wt j W0 HS.out.he (by omega) (by omega) hj1 (by omega) (nK_ok (by omega)) (HL.out W0 HS.out.bel)
      rw [hM] at q1
      unfold ntV at q1
      have i1 : (p : Int) < (LN : Int) := by omega
      have i2 : (0 : Int) ≤ (p : Int) := by omega
      have HRN := hidO hrn
      clear hM hj hpL hz1 hz2 hb2 hg3 hrn
      go_upto_region 34 with (go_at_call 9; go_must ((with_reducible refine q1.mono ?_); rintro e W1 ⟨v1, k1, rfl, e1, ow1, he1, t1⟩))
      have HS1 := hidO (HS.out.setH HO.out he1 t1)
      have HW1 := hidO (own_keep HW.out HS.out.he t1)
      obtain ⟨a1, c1, rfl⟩ := OwnN.len ow1
      have HO1 : Hid (OwnNt W1 W0.heap.size (.slice a1 k1 c1) (outN nK s k1)) := by rw [outN_len] at ow1; exact ow1
      rw [outN_len]
      have HE1 := hidO e1
      have hk2 : s + k1 ≤ 100 := by have hrn := HRN.out; rw [e1] at hrn; omega
      clear q1 he1 t1 ow1 e1 r0 r1 r2 r3 r4 r5 r6 r7 r8 r9 r10 r11 r12 r13 r14 r15 r16 HS HW
      go_upto_block 6 with fail
      refine hr_outL w W1 W0.heap.size s k1 c1 a1  _ _ (by kernel_rfl) HO1 hk2 _ _ _ _ _ _ _ _ _ _ _ _ _ _ _ _ _ _ _ _ _ _ _ _ _ _ _ _ _ _ _ _ _ _ _ _ _ _ _ _ _ _ _ _ _ _ _ _ _ _ _ _ _ _ _ _ _ _ _ _ _ _ _ _ _ _ _ _ _ _ _ _ _ _ _ _ _ _ _ _ _ _ _ _ _ _ _ _ _ _ _ _ _ _ _ _ _ _ _ _ _ _ _ _ _ _ _ _ _ _ _ _ _ _ _ _ _ _ _ _ _ _ _ _ _ _ _ _ _ _ _ _ _ _ _ _ _ _ _ _ _ _ _ _ _ _ _ _ _ _ _ _ _ _ _ _ _ _ _ _ _ _ _ _ _ _ _ _ _ _ _ _ _ _ _ _ _ _ _ _ _ _ _ _ _ _ _ _ _ _ _ _ _ _ _ _ _ _ _ _ _ _ _ _ _ _ _ _ _ _ _ _ _ _ _ _ _ _ _ _ _ _ _ _ _ _ _ _ _ _ _ _ _ _ _ _ _ _ _ _ _ _ _ _ _ _ _ _ _ _ _ _ _ _ _ _ _ ?_
      intro W2 u4' u26' u170' u171' u172' u173' u174' u175' u176' u177' u178' u179' u180' u181' u182' u183' u184' u185' u186' u187' u188' u189' u190' u191' u192' u193' u194' u195' u196' h9
      have HS2 := hidO (HS1.out.below h9)
      have HW2 : Hid (OwnNt W2 w.heap.size (.slice (some ⟨g, 0, none⟩) LN ca) (L.map nK)) := OwnN.below HW1.out h9
      clear h9 HO1 HS1 HW1
      conv =>
        arg 1
        zeta
      try go_step
      have e2 : ((hearS s Wt j).1 : Int) = (s : Int) + (k1 : Int) := by rw [HE1.out]; omega
      have HK2 := HK.out (hearS s Wt j).1 (hearS s Wt j).2 W2
      rw [e2] at HK2
      have HK3 := hidO HK2
      clear HK2 e2
      try go_wp2_with fail
      exact HK3.out _ _ _ _ _ _ _ _ _ _ _ _ _ _ _ _ _ _ _ _ _ _ _ _ _ _ _ _ _ _ _ _ _ _ _ _ _ _ _ _ _ _ _ _ _ _ _ _ _ _ _ _ _ _ _ _ _ _ HOK2.out.1 HOK2.out.2.1 hln (by rw [HE1.out]; exact HS2.out) HW2.out
end Go.Proofs.YtkkefgoidjjehaaDoor
