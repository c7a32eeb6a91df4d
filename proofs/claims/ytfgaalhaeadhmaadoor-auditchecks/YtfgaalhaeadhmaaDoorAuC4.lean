/- AuditChecks from where it holds the end against the log on. -/
import Derived.Test.YtfgaalhaeadhmaaDoorAuC3
namespace Go.Proofs.YtfgaalhaeadhmaaDoor
open Go.RowKit
set_option linter.unusedVariables false
set_option maxRecDepth 10000

set_option maxRecDepth 100000 in
set_option maxHeartbeats 64000000 in
theorem ac_t15 (es : List Ev) (t c : Int) (ao : Option Addr) (N co : Nat) (w0 W : World) (Q : Ending → World → Prop) (C : Code) (hC : C = acTail 15)
    (hN : es.length = N) (hv : Evs W (.slice ao N co) es) (hE : ErrLaid W) (hc : (audR es).2 = c) (hbl : Below w0.heap.size w0 W)
    (v2 v3 v4 v5 v7 v8 v9 v10 v11 v12 v13 v14 v15 v16 v17 v18 v19 v20 v21 v22 v23 v24 v25 v26 v27 v28 v29 v30 v31 v32 v33 v34 v35 v36 v37 v38 v39 v40 v41 v42 v43 v44 v45 v46 v47 v48 v49 v50 v51 v52 v53 v54 v55 v56 v57 v58 v59 v60 v61 v62 v63 v64 v65 v66 v67 v68 v69 v70 v71 v72 v73 v74 v75 v76 v77 v78 v79 v80 v81 v82 v83 v84 v85 v86 v87 v88 v89 v90 v91 v92 v93 v94 v95 v96 v97 v98 v99 v100 v101 v102 v103 v104 v105 v106 v107 v108 v109 v110 v111 v112 v113 v114 v115 v116 v117 v118 v119 v120 v121 v122 v123 v124 v125 v126 v127 v128 v129 v130 v131 v132 v133 v134 v135 v136 v137 v138 v139 v140 v141 v142 v143 v144 v145 v146 v147 v148 v149 v150 v151 v152 v153 v154 v155 v156 v157 v158 v159 v160 v161 v162 v163 v164 v165 v166 v167 v168 v169 v170 v171 v172 v173 v174 v175 v176 v177 v178 v179 v180 v181 v182 v183 v184 v185 v186 v187 v188 v189 v190 v191 v192 v193 v194 v195 v196 v197 v198 v199 v200 v201 v202 v203 v204 v205 v206 v207 v208 v209 v210 v211 v212 v213 v214 v215 v216 v217 v218 v219 v220 v221 v222 v223 v224 v225 v226 v227 : Value)
    (hQ : ∀ w', Below w0.heap.size w0 w' → Q (.returned (.bool true)) w') :
    Code.wp Tryd.prog C (bodyPost Tryd.prog Tryd.f5 Q) { tmps := #[.slice ao N co, .int .i64 t, v2, v3, v4, v5, .int .i64 c, v7, v8, v9, v10, v11, v12, v13, v14, v15, v16, v17, v18, v19, v20, v21, v22, v23, v24, v25, v26, v27, v28, v29, v30, v31, v32, v33, v34, v35, v36, v37, v38, v39, v40, v41, v42, v43, v44, v45, v46, v47, v48, v49, v50, v51, v52, v53, v54, v55, v56, v57, v58, v59, v60, v61, v62, v63, v64, v65, v66, v67, v68, v69, v70, v71, v72, v73, v74, v75, v76, v77, v78, v79, v80, v81, v82, v83, v84, v85, v86, v87, v88, v89, v90, v91, v92, v93, v94, v95, v96, v97, v98, v99, v100, v101, v102, v103, v104, v105, v106, v107, v108, v109, v110, v111, v112, v113, v114, v115, v116, v117, v118, v119, v120, v121, v122, v123, v124, v125, v126, v127, v128, v129, v130, v131, v132, v133, v134, v135, v136, v137, v138, v139, v140, v141, v142, v143, v144, v145, v146, v147, v148, v149, v150, v151, v152, v153, v154, v155, v156, v157, v158, v159, v160, v161, v162, v163, v164, v165, v166, v167, v168, v169, v170, v171, v172, v173, v174, v175, v176, v177, v178, v179, v180, v181, v182, v183, v184, v185, v186, v187, v188, v189, v190, v191, v192, v193, v194, v195, v196, v197, v198, v199, v200, v201, v202, v203, v204, v205, v206, v207, v208, v209, v210, v211, v212, v213, v214, v215, v216, v217, v218, v219, v220, v221, v222, v223, v224, v225, v226, v227], defers := [] } W := by
  have HQ := hidA hQ
  have HBL := hidA hbl
  clear hQ hbl
  subst hC
  conv =>
    arg 2
    unfold acTail
    unfold Tryd.f5
    simp only [Option.getD_some, acTailOf]
  have HN := hidA hN
  have HV := hidA hv
  have HE := hidA hE
  have HC := hidA hc
  clear hN hv hE hc
  by_cases hz : c = 0
  · subst hz
    obtain ⟨hgd, hlen⟩ := aud_gd HC.out
    have hms : msE es t = if t < (stA es es.length).1 ∨ 1000000 < t then 1 else 0 := by unfold msE; rw [if_neg (by rw [HC.out]; simp)]
    rcases Nat.eq_zero_or_pos N with hn0 | hn0
    · subst hn0
      have hla : (stA es es.length).1 = 0 := by rw [HN.out]; rfl
      rw [hla] at hms
      clear hgd hlen hla
      rcases (by omega : t < 0 ∨ (¬ t < 0 ∧ 1000000 < t) ∨ (¬ t < 0 ∧ ¬ 1000000 < t)) with h1 | ⟨h1, h2⟩ | ⟨h1, h2⟩
      · rw [if_pos (.inl h1)] at hms
        have HMS := hidA hms
        clear hms
        go_upto_region 19 with fail
        repeat (first | (show Code.wp _ (Code.seq (Code.seq (Code.region 20 _ _) _) _) _ _ _; refine ac_t20 es _ t 1 _ _ Q _ (by kernel_rfl) HV.out HE.out HMS.out HBL.out _ _ _ _ _ _ _ _ _ _ _ _ _ _ _ _ _ _ _ _ _ _ _ _ _ _ _ _ _ _ _ _ _ _ _ _ _ _ _ _ _ _ _ _ _ _ _ _ _ _ _ _ _ _ _ _ _ _ _ _ _ _ _ _ _ _ _ _ _ _ _ _ _ _ _ _ _ _ _ _ _ _ _ _ _ _ _ _ _ _ _ _ _ _ _ _ _ _ _ _ _ _ _ _ _ _ _ _ _ _ _ _ _ _ _ _ _ _ _ _ _ _ _ _ _ _ _ _ _ _ _ _ _ _ _ _ _ _ _ _ _ _ _ _ _ _ _ _ _ _ _ _ _ _ _ _ _ _ _ _ _ _ _ _ _ _ _ _ _ _ _ _ _ _ _ _ _ _ _ _ _ _ _ _ _ _ _ _ _ _ _ _ _ _ _ _ _ _ _ _ _ _ _ _ _ _ _ _ _ _ _ _ _ _ _ _ _ _ _ _ _ _ ?_) | go_step)
        exact HQ.out
      · rw [if_pos (.inr h2)] at hms
        have HMS := hidA hms
        clear hms
        go_upto_region 19 with fail
        repeat (first | (show Code.wp _ (Code.seq (Code.seq (Code.region 20 _ _) _) _) _ _ _; refine ac_t20 es _ t 1 _ _ Q _ (by kernel_rfl) HV.out HE.out HMS.out HBL.out _ _ _ _ _ _ _ _ _ _ _ _ _ _ _ _ _ _ _ _ _ _ _ _ _ _ _ _ _ _ _ _ _ _ _ _ _ _ _ _ _ _ _ _ _ _ _ _ _ _ _ _ _ _ _ _ _ _ _ _ _ _ _ _ _ _ _ _ _ _ _ _ _ _ _ _ _ _ _ _ _ _ _ _ _ _ _ _ _ _ _ _ _ _ _ _ _ _ _ _ _ _ _ _ _ _ _ _ _ _ _ _ _ _ _ _ _ _ _ _ _ _ _ _ _ _ _ _ _ _ _ _ _ _ _ _ _ _ _ _ _ _ _ _ _ _ _ _ _ _ _ _ _ _ _ _ _ _ _ _ _ _ _ _ _ _ _ _ _ _ _ _ _ _ _ _ _ _ _ _ _ _ _ _ _ _ _ _ _ _ _ _ _ _ _ _ _ _ _ _ _ _ _ _ _ _ _ _ _ _ _ _ _ _ _ _ _ _ _ _ _ _ ?_) | go_step)
        exact HQ.out
      · rw [if_neg (by omega)] at hms
        have HMS := hidA hms
        clear hms
        go_upto_region 19 with fail
        repeat (first | (show Code.wp _ (Code.seq (Code.seq (Code.region 20 _ _) _) _) _ _ _; refine ac_t20 es _ t 0 _ _ Q _ (by kernel_rfl) HV.out HE.out HMS.out HBL.out _ _ _ _ _ _ _ _ _ _ _ _ _ _ _ _ _ _ _ _ _ _ _ _ _ _ _ _ _ _ _ _ _ _ _ _ _ _ _ _ _ _ _ _ _ _ _ _ _ _ _ _ _ _ _ _ _ _ _ _ _ _ _ _ _ _ _ _ _ _ _ _ _ _ _ _ _ _ _ _ _ _ _ _ _ _ _ _ _ _ _ _ _ _ _ _ _ _ _ _ _ _ _ _ _ _ _ _ _ _ _ _ _ _ _ _ _ _ _ _ _ _ _ _ _ _ _ _ _ _ _ _ _ _ _ _ _ _ _ _ _ _ _ _ _ _ _ _ _ _ _ _ _ _ _ _ _ _ _ _ _ _ _ _ _ _ _ _ _ _ _ _ _ _ _ _ _ _ _ _ _ _ _ _ _ _ _ _ _ _ _ _ _ _ _ _ _ _ _ _ _ _ _ _ _ _ _ _ _ _ _ _ _ _ _ _ _ _ _ _ _ _ ?_) | go_step)
        exact HQ.out
    · obtain ⟨k, hk⟩ : ∃ k, N = k + 1 := ⟨N - 1, by omega⟩
      have hkl : k < es.length := by rw [HN.out]; omega
      have hla : (stA es es.length).1 = es[k].time := by rw [HN.out, hk, stA_succ hkl]; rfl
      have htm := hgd.times _ (List.getElem_mem hkl)
      obtain ⟨c1, c2, b, off, rfl⟩ := HV.out.capOk hn0
      obtain ⟨q0, qr⟩ := HV.out.cells k hkl
      obtain ⟨x, hx⟩ : ∃ x, es[k].time = x := ⟨_, rfl⟩
      rw [hx] at hla htm q0
      have hkN1 : k = N - 1 := by omega
      rw [hkN1] at q0
      rw [hla] at hms
      have hN1 : (N : Int) ≤ 1000 := by have := HN.out; omega
      have hw : wrap64 ((N : Int) - 1) = (k : Int) := by unfold wrap64; omega
      have hn1 : (0 : Int) < (N : Int) := by omega
      have hkN : k < N := by omega
      have hkN' : (k : Int) < (N : Int) := by omega
      clear hgd hlen hla hx hkl qr hk hkN1
      rcases (by omega : t < 0 ∨ (¬ t < 0 ∧ 1000000 < t) ∨ (¬ t < 0 ∧ ¬ 1000000 < t ∧ t < x) ∨ (¬ t < 0 ∧ ¬ 1000000 < t ∧ ¬ t < x)) with h1 | ⟨h1, h2⟩ | ⟨h1, h2, h3⟩ | ⟨h1, h2, h3⟩
      · rw [if_pos (by omega)] at hms
        have HMS := hidA hms
        clear hms
        go_upto_region 19 with fail
        repeat (first | (show Code.wp _ (Code.seq (Code.seq (Code.region 20 _ _) _) _) _ _ _; refine ac_t20 es _ t 1 _ _ Q _ (by kernel_rfl) HV.out HE.out HMS.out HBL.out _ _ _ _ _ _ _ _ _ _ _ _ _ _ _ _ _ _ _ _ _ _ _ _ _ _ _ _ _ _ _ _ _ _ _ _ _ _ _ _ _ _ _ _ _ _ _ _ _ _ _ _ _ _ _ _ _ _ _ _ _ _ _ _ _ _ _ _ _ _ _ _ _ _ _ _ _ _ _ _ _ _ _ _ _ _ _ _ _ _ _ _ _ _ _ _ _ _ _ _ _ _ _ _ _ _ _ _ _ _ _ _ _ _ _ _ _ _ _ _ _ _ _ _ _ _ _ _ _ _ _ _ _ _ _ _ _ _ _ _ _ _ _ _ _ _ _ _ _ _ _ _ _ _ _ _ _ _ _ _ _ _ _ _ _ _ _ _ _ _ _ _ _ _ _ _ _ _ _ _ _ _ _ _ _ _ _ _ _ _ _ _ _ _ _ _ _ _ _ _ _ _ _ _ _ _ _ _ _ _ _ _ _ _ _ _ _ _ _ _ _ _ ?_) | go_step)
        exact HQ.out
      · rw [if_pos (.inr h2)] at hms
        have HMS := hidA hms
        clear hms
        go_upto_region 19 with fail
        repeat (first | (show Code.wp _ (Code.seq (Code.seq (Code.region 20 _ _) _) _) _ _ _; refine ac_t20 es _ t 1 _ _ Q _ (by kernel_rfl) HV.out HE.out HMS.out HBL.out _ _ _ _ _ _ _ _ _ _ _ _ _ _ _ _ _ _ _ _ _ _ _ _ _ _ _ _ _ _ _ _ _ _ _ _ _ _ _ _ _ _ _ _ _ _ _ _ _ _ _ _ _ _ _ _ _ _ _ _ _ _ _ _ _ _ _ _ _ _ _ _ _ _ _ _ _ _ _ _ _ _ _ _ _ _ _ _ _ _ _ _ _ _ _ _ _ _ _ _ _ _ _ _ _ _ _ _ _ _ _ _ _ _ _ _ _ _ _ _ _ _ _ _ _ _ _ _ _ _ _ _ _ _ _ _ _ _ _ _ _ _ _ _ _ _ _ _ _ _ _ _ _ _ _ _ _ _ _ _ _ _ _ _ _ _ _ _ _ _ _ _ _ _ _ _ _ _ _ _ _ _ _ _ _ _ _ _ _ _ _ _ _ _ _ _ _ _ _ _ _ _ _ _ _ _ _ _ _ _ _ _ _ _ _ _ _ _ _ _ _ _ ?_) | go_step)
        exact HQ.out
      · rw [if_pos (.inl h3)] at hms
        have HMS := hidA hms
        clear hms
        go_upto_region 19 with fail
        repeat (first | (show Code.wp _ (Code.seq (Code.seq (Code.region 20 _ _) _) _) _ _ _; refine ac_t20 es _ t 1 _ _ Q _ (by kernel_rfl) HV.out HE.out HMS.out HBL.out _ _ _ _ _ _ _ _ _ _ _ _ _ _ _ _ _ _ _ _ _ _ _ _ _ _ _ _ _ _ _ _ _ _ _ _ _ _ _ _ _ _ _ _ _ _ _ _ _ _ _ _ _ _ _ _ _ _ _ _ _ _ _ _ _ _ _ _ _ _ _ _ _ _ _ _ _ _ _ _ _ _ _ _ _ _ _ _ _ _ _ _ _ _ _ _ _ _ _ _ _ _ _ _ _ _ _ _ _ _ _ _ _ _ _ _ _ _ _ _ _ _ _ _ _ _ _ _ _ _ _ _ _ _ _ _ _ _ _ _ _ _ _ _ _ _ _ _ _ _ _ _ _ _ _ _ _ _ _ _ _ _ _ _ _ _ _ _ _ _ _ _ _ _ _ _ _ _ _ _ _ _ _ _ _ _ _ _ _ _ _ _ _ _ _ _ _ _ _ _ _ _ _ _ _ _ _ _ _ _ _ _ _ _ _ _ _ _ _ _ _ _ ?_) | go_step)
        exact HQ.out
      · rw [if_neg (by omega)] at hms
        have HMS := hidA hms
        clear hms
        go_upto_region 19 with fail
        repeat (first | (show Code.wp _ (Code.seq (Code.seq (Code.region 20 _ _) _) _) _ _ _; refine ac_t20 es _ t 0 _ _ Q _ (by kernel_rfl) HV.out HE.out HMS.out HBL.out _ _ _ _ _ _ _ _ _ _ _ _ _ _ _ _ _ _ _ _ _ _ _ _ _ _ _ _ _ _ _ _ _ _ _ _ _ _ _ _ _ _ _ _ _ _ _ _ _ _ _ _ _ _ _ _ _ _ _ _ _ _ _ _ _ _ _ _ _ _ _ _ _ _ _ _ _ _ _ _ _ _ _ _ _ _ _ _ _ _ _ _ _ _ _ _ _ _ _ _ _ _ _ _ _ _ _ _ _ _ _ _ _ _ _ _ _ _ _ _ _ _ _ _ _ _ _ _ _ _ _ _ _ _ _ _ _ _ _ _ _ _ _ _ _ _ _ _ _ _ _ _ _ _ _ _ _ _ _ _ _ _ _ _ _ _ _ _ _ _ _ _ _ _ _ _ _ _ _ _ _ _ _ _ _ _ _ _ _ _ _ _ _ _ _ _ _ _ _ _ _ _ _ _ _ _ _ _ _ _ _ _ _ _ _ _ _ _ _ _ _ _ ?_) | go_step)
        exact HQ.out
  · have hms : msE es t = c := by unfold msE; rw [if_pos (by rw [HC.out]; exact hz), HC.out]
    have hzb : (c == 0) = false := by simpa using hz
    clear hz
    have HMS := hidA hms
    clear hms
    go_upto_region 19 with fail
    repeat (first | (show Code.wp _ (Code.seq (Code.seq (Code.region 20 _ _) _) _) _ _ _; refine ac_t20 es _ t c _ _ Q _ (by kernel_rfl) HV.out HE.out HMS.out HBL.out _ _ _ _ _ _ _ _ _ _ _ _ _ _ _ _ _ _ _ _ _ _ _ _ _ _ _ _ _ _ _ _ _ _ _ _ _ _ _ _ _ _ _ _ _ _ _ _ _ _ _ _ _ _ _ _ _ _ _ _ _ _ _ _ _ _ _ _ _ _ _ _ _ _ _ _ _ _ _ _ _ _ _ _ _ _ _ _ _ _ _ _ _ _ _ _ _ _ _ _ _ _ _ _ _ _ _ _ _ _ _ _ _ _ _ _ _ _ _ _ _ _ _ _ _ _ _ _ _ _ _ _ _ _ _ _ _ _ _ _ _ _ _ _ _ _ _ _ _ _ _ _ _ _ _ _ _ _ _ _ _ _ _ _ _ _ _ _ _ _ _ _ _ _ _ _ _ _ _ _ _ _ _ _ _ _ _ _ _ _ _ _ _ _ _ _ _ _ _ _ _ _ _ _ _ _ _ _ _ _ _ _ _ _ _ _ _ _ _ _ _ _ ?_) | go_step)
    exact HQ.out
end Go.Proofs.YtfgaalhaeadhmaaDoor
