/- AuditChecks from its calls of Masters and Gaps on. -/
import Derived.Test.YtfgaalhaeadhmaaDoorAuC0
import Derived.Test.YtfgaalhaeadhmaaDoorAuGp
import Derived.Test.YtfgaalhaeadhmaaDoorTold
namespace Go.Proofs.YtfgaalhaeadhmaaDoor
open Go.RowKit
set_option linter.unusedVariables false
set_option maxRecDepth 10000

theorem auC_val (z : Int) : ErrVal (auV z) z := by
  unfold auV ErrVal
  split
  · rename_i e; exact .inl ⟨rfl, e⟩
  · exact .inr rfl
theorem auC_same (a : Int) (w : World) (hg : ErrLaid w) : Calls Tryd.prog 10 #[auV a, .int .i64 a] w fun e w' => e = .returned (.bool true) ∧ Below w.heap.size w w' := by
  refine (error_val (auC_val a) a w hg).mono ?_
  rintro e w' ⟨h1, h2⟩
  exact ⟨by rw [h1]; simp, h2⟩
set_option maxRecDepth 100000 in
set_option maxHeartbeats 64000000 in
theorem ac_t34 (es : List Ev) (v : Value) (t c lo tot : Int) (L : List Ms) (a1 : Option Addr) (n c1 b1 : Nat) (w0 W : World) (Q : Ending → World → Prop) (C : Code) (hC : C = acTail 34)
    (hn : L.length = n) (hl : n ≤ 1000) (h1 : OwnMs W b1 (.slice a1 n c1) L) (hv : Evs W v es) (hE : ErrLaid W) (hc : msE es t = c) (hL : (if c = 0 then rfM es t else []) = L) (hlo : (if c = 0 then #[.int .i64 (gpF (rfM es t) t).1, .int .i64 (gpF (rfM es t) t).2, .nilIface] else #[.int .i64 0, .int .i64 0, auV c]) = (#[.int .i64 lo, .int .i64 tot, auV c] : Array Value)) (hbl : Below w0.heap.size w0 W)
    (v2 v3 v4 v5 v7 v8 v9 v10 v11 v12 v13 v14 v15 v19 v20 v21 v22 v23 v24 v25 v26 v27 v28 v29 v30 v31 v32 v33 v34 v35 v36 v37 v38 v39 v40 v41 v42 v43 v44 v45 v46 v47 v48 v49 v50 v51 v52 v53 v54 v55 v56 v57 v58 v59 v60 v61 v62 v63 v64 v65 v66 v67 v68 v69 v70 v71 v72 v73 v74 v75 v76 v77 v78 v79 v80 v81 v82 v83 v84 v85 v86 v87 v88 v89 v90 v91 v92 v93 v94 v95 v96 v97 v98 v99 v100 v101 v102 v103 v104 v105 v106 v107 v108 v109 v110 v111 v112 v113 v114 v115 v116 v117 v118 v119 v120 v121 v122 v123 v124 v125 v126 v127 v128 v129 v130 v131 v132 v133 v134 v135 v136 v137 v138 v139 v140 v141 v142 v143 v144 v145 v146 v147 v148 v149 v150 v151 v152 v153 v154 v155 v156 v157 v158 v159 v160 v161 v162 v163 v164 v165 v166 v167 v168 v169 v170 v171 v172 v173 v174 v175 v176 v177 v178 v179 v180 v181 v182 v183 v184 v185 v186 v187 v188 v189 v190 v191 v192 v193 v194 v195 v196 v197 v198 v199 v200 v201 v202 v203 v204 v205 v206 v207 v208 v209 v210 v211 v212 v213 v214 v215 v216 v217 v218 v219 v220 v221 v222 v223 v224 v225 v226 v227 : Value)
    (hQ : ∀ w', Below w0.heap.size w0 w' → Q (.returned (.bool true)) w') :
    Code.wp Tryd.prog C (bodyPost Tryd.prog Tryd.f5 Q) { tmps := #[v, .int .i64 t, v2, v3, v4, v5, .int .i64 c, v7, v8, v9, v10, v11, v12, v13, v14, v15, .slice a1 n c1, .int .i64 lo, .int .i64 tot, v19, v20, v21, v22, v23, v24, v25, v26, v27, v28, v29, v30, v31, v32, v33, v34, v35, v36, v37, v38, v39, v40, v41, v42, v43, v44, v45, v46, v47, v48, v49, v50, v51, v52, v53, v54, v55, v56, v57, v58, v59, v60, v61, v62, v63, v64, v65, v66, v67, v68, v69, v70, v71, v72, v73, v74, v75, v76, v77, v78, v79, v80, v81, v82, v83, v84, v85, v86, v87, v88, v89, v90, v91, v92, v93, v94, v95, v96, v97, v98, v99, v100, v101, v102, v103, v104, v105, v106, v107, v108, v109, v110, v111, v112, v113, v114, v115, v116, v117, v118, v119, v120, v121, v122, v123, v124, v125, v126, v127, v128, v129, v130, v131, v132, v133, v134, v135, v136, v137, v138, v139, v140, v141, v142, v143, v144, v145, v146, v147, v148, v149, v150, v151, v152, v153, v154, v155, v156, v157, v158, v159, v160, v161, v162, v163, v164, v165, v166, v167, v168, v169, v170, v171, v172, v173, v174, v175, v176, v177, v178, v179, v180, v181, v182, v183, v184, v185, v186, v187, v188, v189, v190, v191, v192, v193, v194, v195, v196, v197, v198, v199, v200, v201, v202, v203, v204, v205, v206, v207, v208, v209, v210, v211, v212, v213, v214, v215, v216, v217, v218, v219, v220, v221, v222, v223, v224, v225, v226, v227], defers := [] } W := by
  have HQ := hidA hQ
  have HBL := hidA hbl
  clear hQ hbl
  subst hC
  conv =>
    arg 2
    unfold acTail
    unfold Tryd.f5
    simp only [Option.getD_some, acTailOf]
  have hm := masters_any es v t W hv
  have HG := hidA (fun W => gaps_any es v t W)
  rw [hc, hL] at hm
  rw [hc, hlo] at HG
  have HN := hidA hn
  have HL := hidA hl
  have H1 := hidA h1
  have HV := hidA hv
  have HE := hidA hE
  have HS := hidA (fun W => auC_same c W)
  generalize auV c = ev at hm HG HS
  clear hn hl h1 hv hE hc hL hlo
  go_upto_region 35 with (go_at_call 19; go_must ((with_reducible refine hm.mono ?_); rintro e W1 ⟨r, rfl, own1, b1⟩; have HO1 := hidA own1; have HB1 := hidA b1; clear own1 b1 hm))
  obtain ⟨a2, c2, rfl⟩ := OwnN.len HO1.out
  rw [HN.out] at HO1 ⊢
  have hs1 := HS.out W1 (HE.out.below HB1.out)
  go_upto_region 36 with (go_at_call 10; go_must ((with_reducible refine hs1.mono ?_); rintro e W2 ⟨rfl, b2⟩; have HB2 := hidA (HB1.out.trans (b2.mono HB1.out.size)); have HO2 := hidA (OwnN.below HO1.out b2); clear b2 hs1))
  have hg2 := HG.out W2 (HV.out.below HB2.out)
  go_upto_region 37 with (go_at_call 20; go_must ((with_reducible refine hg2.mono ?_); rintro e W3 ⟨rfl, b3⟩; have HB3 := hidA (HB2.out.trans (b3.mono HB2.out.size)); have HO3 := hidA (OwnN.below HO2.out b3); clear b3 hg2))
  have hs3 := HS.out W3 (HE.out.below HB3.out)
  go_upto_region 38 with (go_at_call 10; go_must ((with_reducible refine hs3.mono ?_); rintro e W4 ⟨rfl, b4⟩; have HB4 := hidA (HB3.out.trans (b4.mono HB3.out.size)); have HO4 := hidA (OwnN.below HO3.out b4); clear b4 hs3))
  have HX := hidA (HBL.out.trans (HB4.out.mono HBL.out.size))
  have HO5 := hidA (OwnN.below H1.out HB4.out)
  repeat (first | (show Code.wp _ (Code.seq (Code.seq (Code.region 40 _ _) _) _) _ _ _; refine ac_t40 L _ _ n _ _ _ _ _ _ Q _ (by kernel_rfl) HN.out HL.out HO5.out HO4.out HX.out _ _ _ _ _ _ _ _ _ _ _ _ _ _ _ _ _ _ _ _ _ _ _ _ _ _ _ _ _ _ _ _ _ _ _ _ _ _ _ _ _ _ _ _ _ _ _ _ _ _ _ _ _ _ _ _ _ _ _ _ _ _ _ _ _ _ _ _ _ _ _ _ _ _ _ _ _ _ _ _ _ _ _ _ _ _ _ _ _ _ _ _ _ _ _ _ _ _ _ _ _ _ _ _ _ _ _ _ _ _ _ _ _ _ _ _ _ _ _ _ _ _ _ _ _ _ _ _ _ _ _ _ _ _ _ _ _ _ _ _ _ _ _ _ _ _ _ _ _ _ _ _ _ _ _ _ _ _ _ _ _ _ _ _ _ _ _ _ _ _ _ _ _ _ _ _ _ _ _ _ _ _ _ _ _ _ _ _ _ _ _ _ _ _ _ _ _ _ _ _ _ _ _ _ _ _ _ _ _ _ _ _ _ _ _ _ _ _ _ _ _ _ _ _ _ _ ?_) | go_step)
  exact HQ.out
end Go.Proofs.YtfgaalhaeadhmaaDoor
