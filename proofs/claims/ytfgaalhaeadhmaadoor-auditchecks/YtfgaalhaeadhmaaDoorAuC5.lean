/- AuditChecks from its call of Sums on. -/
import Derived.Test.YtfgaalhaeadhmaaDoorAuC4
import Derived.Test.YtfgaalhaeadhmaaDoorAuSm
namespace Go.Proofs.YtfgaalhaeadhmaaDoor
open Go.RowKit
set_option linter.unusedVariables false
set_option maxRecDepth 10000

set_option maxRecDepth 100000 in
set_option maxHeartbeats 64000000 in
theorem ac_t11 (es : List Ev) (t c m0 n1 n2 n3 m4 : Int) (ao : Option Addr) (N co B : Nat) (w0 W : World) (Q : Ending → World → Prop) (C : Code) (hC : C = acTail 11)
    (hN : es.length = N) (hv : Evs W (.slice ao N co) es) (hE : ErrLaid W) (hc : (audR es).2 = c) (hB : W.heap[B]? = some (.cells #[.int .i64 m0, .int .i64 n1, .int .i64 n2, .int .i64 n3, .int .i64 m4] 50 (0, 0))) (hs : (if c = 0 then #[.int .i64 (cntE 1 es : Nat), .int .i64 (cntE 2 es : Nat), .int .i64 (cntE 3 es : Nat), .nilIface] else #[.int .i64 0, .int .i64 0, .int .i64 0, auV c]) = (#[.int .i64 n1, .int .i64 n2, .int .i64 n3, auV c] : Array Value)) (hbl : Below w0.heap.size w0 W)
    (v2 v3 v4 v5 v7 v8 v9 v11 v12 v13 v14 v15 v16 v17 v18 v19 v20 v21 v22 v23 v24 v25 v26 v27 v28 v29 v30 v31 v32 v33 v34 v35 v36 v37 v38 v39 v40 v41 v42 v43 v44 v45 v46 v47 v48 v49 v50 v51 v52 v53 v54 v55 v56 v57 v58 v59 v60 v61 v62 v63 v64 v65 v66 v67 v68 v69 v70 v71 v72 v73 v74 v75 v76 v77 v78 v79 v80 v81 v82 v83 v84 v85 v86 v87 v88 v89 v90 v91 v92 v93 v94 v95 v96 v97 v98 v99 v100 v101 v102 v103 v104 v105 v106 v107 v108 v109 v110 v111 v112 v113 v114 v115 v116 v117 v118 v119 v120 v121 v122 v123 v124 v125 v126 v127 v128 v129 v130 v131 v132 v133 v134 v135 v136 v137 v138 v139 v140 v141 v142 v143 v144 v145 v146 v147 v148 v149 v150 v151 v152 v153 v154 v155 v156 v157 v158 v159 v160 v161 v162 v163 v164 v165 v166 v167 v168 v169 v170 v171 v172 v173 v174 v175 v176 v177 v178 v179 v180 v181 v182 v183 v184 v185 v186 v187 v188 v189 v190 v191 v192 v193 v194 v195 v196 v197 v198 v199 v200 v201 v202 v203 v204 v205 v206 v207 v208 v209 v210 v211 v212 v213 v214 v215 v216 v217 v218 v219 v220 v221 v222 v223 v224 v225 v226 v227 : Value)
    (hQ : ∀ w', Below w0.heap.size w0 w' → Q (.returned (.bool true)) w') :
    Code.wp Tryd.prog C (bodyPost Tryd.prog Tryd.f5 Q) { tmps := #[.slice ao N co, .int .i64 t, v2, v3, v4, v5, .int .i64 c, v7, v8, v9, .pointer (some ⟨B, 0, none⟩), v11, v12, v13, v14, v15, v16, v17, v18, v19, v20, v21, v22, v23, v24, v25, v26, v27, v28, v29, v30, v31, v32, v33, v34, v35, v36, v37, v38, v39, v40, v41, v42, v43, v44, v45, v46, v47, v48, v49, v50, v51, v52, v53, v54, v55, v56, v57, v58, v59, v60, v61, v62, v63, v64, v65, v66, v67, v68, v69, v70, v71, v72, v73, v74, v75, v76, v77, v78, v79, v80, v81, v82, v83, v84, v85, v86, v87, v88, v89, v90, v91, v92, v93, v94, v95, v96, v97, v98, v99, v100, v101, v102, v103, v104, v105, v106, v107, v108, v109, v110, v111, v112, v113, v114, v115, v116, v117, v118, v119, v120, v121, v122, v123, v124, v125, v126, v127, v128, v129, v130, v131, v132, v133, v134, v135, v136, v137, v138, v139, v140, v141, v142, v143, v144, v145, v146, v147, v148, v149, v150, v151, v152, v153, v154, v155, v156, v157, v158, v159, v160, v161, v162, v163, v164, v165, v166, v167, v168, v169, v170, v171, v172, v173, v174, v175, v176, v177, v178, v179, v180, v181, v182, v183, v184, v185, v186, v187, v188, v189, v190, v191, v192, v193, v194, v195, v196, v197, v198, v199, v200, v201, v202, v203, v204, v205, v206, v207, v208, v209, v210, v211, v212, v213, v214, v215, v216, v217, v218, v219, v220, v221, v222, v223, v224, v225, v226, v227], defers := [] } W := by
  have HQ := hidA hQ
  have HBL := hidA hbl
  clear hQ hbl
  subst hC
  conv =>
    arg 2
    unfold acTail
    unfold Tryd.f5
    simp only [Option.getD_some, acTailOf]
  have hm := sums_any es (.slice ao N co) W hv
  rw [hc, hs] at hm
  have HN := hidA hN
  have HV := hidA hv
  have HE := hidA hE
  have HC := hidA hc
  have HB := hidA hB
  have HLT : Hid (B < W.heap.size) := (Array.getElem?_eq_some_iff.1 hB).1
  have HS := hidA (fun W => auC_same c W)
  generalize auV c = ev at hm HS
  clear hN hv hE hc hB hs
  go_upto_region 12 with (go_at_call 17; go_must ((with_reducible refine hm.mono ?_); rintro e W1 ⟨rfl, b1⟩; have HB1 := hidA b1; clear b1 hm))
  have hs1 := HS.out W1 (HE.out.below HB1.out)
  go_upto_region 13 with (go_at_call 10; go_must ((with_reducible refine hs1.mono ?_); rintro e W2 ⟨rfl, b2⟩; have HB2 := hidA (HB1.out.trans (b2.mono HB1.out.size)); clear b2 hs1))
  have hr := (HB2.out.block B HLT.out).trans HB.out
  have q1 : W2.cell? ⟨B, 1, none⟩ = some (.int .i64 n1) := by rw [cell_of_row W2 B 1 _ _ (0, 0) hr]; rfl
  have q2 : W2.cell? ⟨B, 2, none⟩ = some (.int .i64 n2) := by rw [cell_of_row W2 B 2 _ _ (0, 0) hr]; rfl
  have q3 : W2.cell? ⟨B, 3, none⟩ = some (.int .i64 n3) := by rw [cell_of_row W2 B 3 _ _ (0, 0) hr]; rfl
  have HX := hidA (HBL.out.trans (HB2.out.mono HBL.out.size))
  clear hr
  repeat (first | (show Code.wp _ (Code.seq (Code.seq (Code.region 15 _ _) _) _) _ _ _; refine ac_t15 es t c _ _ _ _ _ Q _ (by kernel_rfl) HN.out (HV.out.below HB2.out) (HE.out.below HB2.out) HC.out HX.out _ _ _ _ _ _ _ _ _ _ _ _ _ _ _ _ _ _ _ _ _ _ _ _ _ _ _ _ _ _ _ _ _ _ _ _ _ _ _ _ _ _ _ _ _ _ _ _ _ _ _ _ _ _ _ _ _ _ _ _ _ _ _ _ _ _ _ _ _ _ _ _ _ _ _ _ _ _ _ _ _ _ _ _ _ _ _ _ _ _ _ _ _ _ _ _ _ _ _ _ _ _ _ _ _ _ _ _ _ _ _ _ _ _ _ _ _ _ _ _ _ _ _ _ _ _ _ _ _ _ _ _ _ _ _ _ _ _ _ _ _ _ _ _ _ _ _ _ _ _ _ _ _ _ _ _ _ _ _ _ _ _ _ _ _ _ _ _ _ _ _ _ _ _ _ _ _ _ _ _ _ _ _ _ _ _ _ _ _ _ _ _ _ _ _ _ _ _ _ _ _ _ _ _ _ _ _ _ _ _ _ _ _ _ _ _ _ _ _ _ _ _ _ _ _ ?_) | go_step)
  exact HQ.out
end Go.Proofs.YtfgaalhaeadhmaaDoor
