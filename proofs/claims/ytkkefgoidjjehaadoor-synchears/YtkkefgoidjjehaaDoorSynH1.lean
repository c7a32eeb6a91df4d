/- SyncHears, the last rounds: a note that is due is heard (block 11). -/
import Derived.Test.YtkkefgoidjjehaaDoorSynH0
namespace Go.Proofs.YtkkefgoidjjehaaDoor
open Go.RowKit Go.Maps
set_option linter.unusedVariables false

theorem own_nt {w : World} {base g m c : Nat} {xs : List Nt} (h : OwnNt w base (.slice (some ⟨g, 0, none⟩) m c) xs) (i : Nat) (hi : i < xs.length) (p : Nt) (hp : xs[i] = p) : w.cell? ⟨g, i * 17, none⟩ = some (.int .i64 p.what) ∧ w.cell? ⟨g, i * 17 + 1, none⟩ = some (.int .i64 p.seq) ∧ w.cell? ⟨g, i * 17 + 2, none⟩ = some (.int .i64 p.fl.key.kind) ∧ w.cell? ⟨g, i * 17 + 3, none⟩ = some (.int .i64 p.fl.key.src) ∧ w.cell? ⟨g, i * 17 + 4, none⟩ = some (.int .i64 p.fl.key.frm) ∧ w.cell? ⟨g, i * 17 + 5, none⟩ = some (.int .i64 p.fl.key.dst) ∧ w.cell? ⟨g, i * 17 + 6, none⟩ = some (.int .i64 p.fl.key.too) ∧ w.cell? ⟨g, i * 17 + 7, none⟩ = some (.int .i64 p.fl.st) ∧ w.cell? ⟨g, i * 17 + 8, none⟩ = some (.int .i64 p.fl.unt) ∧ w.cell? ⟨g, i * 17 + 9, none⟩ = some (.int .i64 p.fl.stp) ∧ w.cell? ⟨g, i * 17 + 10, none⟩ = some (.int .i64 p.fl.h0) ∧ w.cell? ⟨g, i * 17 + 11, none⟩ = some (.int .i64 p.fl.h1) ∧ w.cell? ⟨g, i * 17 + 12, none⟩ = some (.int .i64 p.fl.w0) ∧ w.cell? ⟨g, i * 17 + 13, none⟩ = some (.int .i64 p.fl.w1) ∧ w.cell? ⟨g, i * 17 + 14, none⟩ = some (.bool p.fl.d0) ∧ w.cell? ⟨g, i * 17 + 15, none⟩ = some (.bool p.fl.d1) ∧ w.cell? ⟨g, i * 17 + 16, none⟩ = some (.int .i64 p.fl.num) := by
  subst hp
  have hn : ∀ x : Nt, (ntRow x).length = 17 := fun _ => rfl
  have k := fun (j : Nat) (u : Value) (hj : (ntRow xs[i])[j]? = some u) => OwnN.cell h hn i hi j u hj
  exact ⟨k 0 _ rfl, k 1 _ rfl, k 2 _ rfl, k 3 _ rfl, k 4 _ rfl, k 5 _ rfl, k 6 _ rfl, k 7 _ rfl, k 8 _ rfl, k 9 _ rfl, k 10 _ rfl, k 11 _ rfl, k 12 _ rfl, k 13 _ rfl, k 14 _ rfl, k 15 _ rfl, k 16 _ rfl⟩
theorem own_keep {X X' : World} {base bh mh s : Nat} {Wt : List Nat} {v : Value} {ns : List Nt} (h : OwnNt X base v ns) (k : HeAt nK X bh mh s Wt) (t : Turn (Two bh mh) X X') : OwnNt X' base v ns :=
  OwnN.blk h (fun q hq => t.block q (OwnN.block h q hq).2 (fun e => by
    rcases e with rfl | rfl
    · exact own_not h k.1 (by decide) hq
    · obtain ⟨_, h1⟩ := h
      rcases h1 with ⟨rfl, _⟩ | ⟨g, cap, cur, rfl, _, hh, _⟩
      · cases hq
      · simp only [Value.ownBlock, Option.some.injEq] at hq
        subst hq
        exact k.2.not_cells hh))
theorem outN_len (ν : Nat → Nt) (s k : Nat) : (outN ν s k).length = k := by simp [outN]
set_option maxRecDepth 100000 in
set_option maxHeartbeats 32000000 in
theorem hr_last (w W0 : World) (now h n s q j LN ca g : Nat) (ds : Nat → Nat) (Wt : List Nat) (bt mt bh mh : Nat) (L : List Nat) (K : Act → World → Prop) (E : Exit → Act → World → Prop) (C : Code) (hC : C = hrBlk 11)
    (HO : Hid (HrO w bt mt bh mh)) (HS : Hid (HrS w now h n ds s Wt bt mt bh mh W0)) (HL : Hid (∀ W, Below w.heap.size w W → Lives W)) (HW : Hid (OwnNt W0 w.heap.size (.slice (some ⟨g, 0, none⟩) LN ca) (L.map nK))) (HN : Hid (L.length = LN)) (hq : q < LN) (HJ : Hid (L[q]? = some j)) (hj1 : 1 ≤ j) (hj2 : j ≤ n) (hn : n ≤ 100) (HOK : Hid (HOk n s Wt)) (hWt : Wt.length ≤ 5000) (hLN : LN ≤ 5000) (hca : LN ≤ ca) (hcm : ca ≤ maxLen)
    (v0 v1 v2 v3 v4 v5 v6 v7 v8 v9 v10 v11 v13 v14 v15 v16 v18 v19 v20 v21 v22 v23 v24 v25 v26 v27 v29 v31 v32 v33 v34 v35 v36 v37 v38 v39 v40 v41 v42 v43 v44 v45 v46 v47 v48 v49 v50 v51 v52 v53 v54 v55 v56 v57 v58 v59 v60 v61 v62 v63 v64 v65 v66 v67 v68 v69 v70 v71 v72 v73 v74 v75 v76 v77 v78 v79 v80 v81 v82 v83 v84 v85 v86 v87 v88 v89 v90 v91 v92 v93 v94 v95 v96 v97 v98 v99 v100 v101 v102 v103 v104 v105 v106 v107 v108 v109 v110 v111 v112 v113 v114 v115 v116 v117 v118 v119 v120 v121 v122 v123 v124 v125 v126 v127 v128 v129 v130 v131 v132 v133 v134 v135 v136 v137 v138 v139 v140 v141 v142 v143 v144 v145 v146 v147 v148 v149 v150 v151 v152 v153 v154 v155 v156 v157 v158 v159 v160 v161 v162 v163 v164 v165 v166 v167 v168 v169 v170 v171 v172 v173 v174 v175 v176 v177 v178 v179 v180 v181 v182 v183 v184 v185 v186 v187 v188 v189 v190 v191 v192 v193 v194 v195 v196 v197 v198 v199 v200 v201 v202 v203 v204 v205 v206 v207 v208 v209 v210 v211 v212 v213 v214 v215 v216 v217 v218 v219 v220 v221 v222 v223 v224 v225 v226 v227 v228 v229 v230 v231 v232 v233 v234 v235 v236 v237 v238 v239 v240 v241 v242 v243 v244 v245 v246 v247 v248 v249 v250 v251 v252 v253 v254 v255 v256 v257 v258 v259 : Value)
    (hK : ∀ (W9 : World) (u31 u32 u226 u227 u228 u229 u230 u231 u232 u233 u234 u235 u236 u237 u238 u239 u240 : Value), HrS w now h n ds (hearS s Wt j).1 (hearS s Wt j).2 bt mt bh mh W9 → OwnNt W9 w.heap.size (.slice (some ⟨g, 0, none⟩) LN ca) (L.map nK) → K { tmps := #[v0, v1, v2, v3, v4, v5, v6, v7, v8, v9, v10, v11, .pointer (some ⟨bh, 0, none⟩), v13, v14, v15, v16, .int .i64 ((hearS s Wt j).1 : Int), v18, v19, v20, v21, v22, v23, v24, v25, v26, v27, .slice (some ⟨g, 0, none⟩) LN ca, v29, .int .i64 (q : Int), u31, u32, v33, v34, v35, v36, v37, v38, v39, v40, v41, v42, v43, v44, v45, v46, v47, v48, v49, v50, v51, v52, v53, v54, v55, v56, v57, v58, v59, v60, v61, v62, v63, v64, v65, v66, v67, v68, v69, v70, v71, v72, v73, v74, v75, v76, v77, v78, v79, v80, v81, v82, v83, v84, v85, v86, v87, v88, v89, v90, v91, v92, v93, v94, v95, v96, v97, v98, v99, v100, v101, v102, v103, v104, v105, v106, v107, v108, v109, v110, v111, v112, v113, v114, v115, v116, v117, v118, v119, v120, v121, v122, v123, v124, v125, v126, v127, v128, v129, v130, v131, v132, v133, v134, v135, v136, v137, v138, v139, v140, v141, v142, v143, v144, v145, v146, v147, v148, v149, v150, v151, v152, v153, v154, v155, v156, v157, v158, v159, v160, v161, v162, v163, v164, v165, v166, v167, v168, v169, v170, v171, v172, v173, v174, v175, v176, v177, v178, v179, v180, v181, v182, v183, v184, v185, v186, v187, v188, v189, v190, v191, v192, v193, v194, v195, v196, v197, v198, v199, v200, v201, v202, v203, v204, v205, v206, v207, v208, v209, v210, v211, v212, v213, v214, v215, v216, v217, v218, v219, v220, v221, v222, v223, v224, v225, u226, u227, u228, u229, u230, u231, u232, u233, u234, u235, u236, u237, u238, u239, u240, v241, v242, v243, v244, v245, v246, v247, v248, v249, v250, v251, v252, v253, v254, v255, v256, v257, v258, v259], defers := [] } W9) :
    Code.wp Tryd.prog C (Exit.then K E) { tmps := #[v0, v1, v2, v3, v4, v5, v6, v7, v8, v9, v10, v11, .pointer (some ⟨bh, 0, none⟩), v13, v14, v15, v16, .int .i64 (s : Int), v18, v19, v20, v21, v22, v23, v24, v25, v26, v27, .slice (some ⟨g, 0, none⟩) LN ca, v29, .int .i64 (q : Int), v31, v32, v33, v34, v35, v36, v37, v38, v39, v40, v41, v42, v43, v44, v45, v46, v47, v48, v49, v50, v51, v52, v53, v54, v55, v56, v57, v58, v59, v60, v61, v62, v63, v64, v65, v66, v67, v68, v69, v70, v71, v72, v73, v74, v75, v76, v77, v78, v79, v80, v81, v82, v83, v84, v85, v86, v87, v88, v89, v90, v91, v92, v93, v94, v95, v96, v97, v98, v99, v100, v101, v102, v103, v104, v105, v106, v107, v108, v109, v110, v111, v112, v113, v114, v115, v116, v117, v118, v119, v120, v121, v122, v123, v124, v125, v126, v127, v128, v129, v130, v131, v132, v133, v134, v135, v136, v137, v138, v139, v140, v141, v142, v143, v144, v145, v146, v147, v148, v149, v150, v151, v152, v153, v154, v155, v156, v157, v158, v159, v160, v161, v162, v163, v164, v165, v166, v167, v168, v169, v170, v171, v172, v173, v174, v175, v176, v177, v178, v179, v180, v181, v182, v183, v184, v185, v186, v187, v188, v189, v190, v191, v192, v193, v194, v195, v196, v197, v198, v199, v200, v201, v202, v203, v204, v205, v206, v207, v208, v209, v210, v211, v212, v213, v214, v215, v216, v217, v218, v219, v220, v221, v222, v223, v224, v225, v226, v227, v228, v229, v230, v231, v232, v233, v234, v235, v236, v237, v238, v239, v240, v241, v242, v243, v244, v245, v246, v247, v248, v249, v250, v251, v252, v253, v254, v255, v256, v257, v258, v259], defers := [] } W0 := by
  subst hC
  conv =>
    arg 2
    unfold hrBlk
    unfold Tryd.f4
    simp only [Option.getD_some, blkAt]
  conv =>
    arg 4
    zeta
  simp (maxSteps := 10000000) only at hK
  have HK := hidO hK
  clear hK
  have hs : s ≤ 100 := Nat.le_trans HOK.out.1 hn
  have hrn := (hear_ok HOK.out hj2).1.1
  have hqL : q < L.length := by rw [HN.out]; exact hq
  have hjv : L[q] = j := by have e := HJ.out; rw [List.getElem?_eq_getElem hqL] at e; exact Option.some.inj e
  obtain ⟨N, hN⟩ : ∃ N, nK j = N := ⟨_, rfl⟩
  obtain ⟨r0, r1, r2, r3, r4, r5, r6, r7, r8, r9, r10, r11, r12, r13, r14, r15, r16⟩ := own_nt HW.out q (by rw [List.length_map]; exact hqL) N (by rw [List.getElem_map, hjv, hN])
  have q1 := heHear_any nK (fun _ => rfl) bh mh s Wt j W0 HS.out.he (by omega) (by omega) hj1 (by omega) (nK_ok (by omega)) (HL.out W0 HS.out.bel)
  rw [hN] at q1
  unfold ntV at q1
  have i1 : (q : Int) < (LN : Int) := by omega
  have i2 : (0 : Int) ≤ (q : Int) := by omega
  have hs1 : (s : Int) ≤ 100 := by omega
  have HRN := hidO hrn
  clear hqL hjv hN hrn
  go_upto_region 54 with (go_at_call 9; go_must ((with_reducible refine q1.mono ?_); rintro e W1 ⟨v1, k1, rfl, e1, ow1, he1, t1⟩))
  have HS1 := hidO (HS.out.setH HO.out he1 t1)
  have HW1 := hidO (own_keep HW.out HS.out.he t1)
  obtain ⟨a1, c1, rfl⟩ := OwnN.len ow1
  rw [outN_len] at *
  have HE1 := hidO e1
  have hk1 : (k1 : Int) ≤ 100 := by have hrn := HRN.out; rw [e1] at hrn; omega
  have hk0 : (0 : Int) ≤ (k1 : Int) := by omega
  clear q1 he1 t1 ow1 e1 r0 r1 r2 r3 r4 r5 r6 r7 r8 r9 r10 r11 r12 r13 r14 r15 r16 HS HW
  go_wp2_with fail
  have e2 : ((hearS s Wt j).1 : Int) = (s : Int) + (k1 : Int) := by rw [HE1.out]; omega
  have HK2 := HK.out W1
  rw [e2] at HK2
  exact HK2 _ _ _ _ _ _ _ _ _ _ _ _ _ _ _ _ _ (by rw [HE1.out]; exact HS1.out) HW1.out
end Go.Proofs.YtkkefgoidjjehaaDoor
