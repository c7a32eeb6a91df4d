/- What the reference's stream returns (package portref2) of a flow that is not Asked, of side 1: its middle. -/
import Derived.Test.YtdhjfjnjdkmhjaaDoorRefSN1
import Derived.Deep.DeepCutAuto
import Derived.Deep.DeepMust
namespace Go.Proofs.YtdhjfjnjdkmhjaaDoor
open Go.RowKit
set_option linter.unusedVariables false

set_option maxRecDepth 100000 in
set_option maxHeartbeats 32000000 in
theorem rd33_1 (f : Fl) (s : Sg) (a : Option Addr) (l c : Nat) (w W7 : World) (q : Fl) (r fi ah sy ack n1 n2 : Bool) (en m1 m2 : Int) (h7 : Fsz w f s (.slice a l c) zeroF W7) (HQ : Hid (q = if r = true then { f with h1 := if ah = true then en else f.h1, w1 := s.win, d1 := f.d1 || fi, st := stG f.d0 (f.d1 || fi) f.st } else f)) (HR : Hid (r = (!sy && n1 && (!ack || n2) && (!f.d1 || !ah))))
    (HCN1 : Hid (∀ W, Calls Tryd.prog 45 #[.int .i64 s.seq, .int .i64 f.h1, .int .i64 m1] W fun e w' => e = .returned (.bool n1) ∧ Below W.heap.size W w')) (HCN2 : Hid (∀ W, Calls Tryd.prog 45 #[.int .i64 s.ack, .int .i64 f.h0, .int .i64 m2] W fun e w' => e = .returned (.bool n2) ∧ Below W.heap.size W w')) (HCA : Hid (∀ W, Calls Tryd.prog 46 #[.int .i64 en, .int .i64 f.h1] W fun e w' => e = .returned (.bool ah) ∧ w' = W)) (C : Code) (hC : C = stTail 33) (v0 v1 v5 v7 v11 v16 v17 v18 v19 v20 v21 v22 v23 v24 v25 v26 v27 v28 v29 v30 v31 v32 v33 v34 v35 v36 v37 v38 v39 v40 v41 v42 v43 v44 v45 v46 v47 v48 v49 v50 v51 v52 v53 v54 v55 v56 v57 v58 v59 v60 v61 v62 v63 v64 v65 v66 v67 v68 v69 v70 v71 v72 v73 v74 v75 v76 v77 v78 v79 v80 v81 v82 v83 v84 v85 v86 v87 v88 v89 v90 v91 v92 v93 v94 v95 v96 v97 v98 v99 v100 v101 v102 v103 v104 v105 v106 v107 v108 v109 v110 v111 v112 v113 v114 v115 v116 v117 v118 v119 v120 v121 v122 v123 v124 v125 v126 v127 v128 v129 v130 v131 v132 v133 v134 v135 v136 v137 v138 v139 v140 v141 v142 v143 v144 v145 v146 v147 v148 v149 v150 v151 v152 v153 v154 v155 v156 v157 v158 v159 v160 v161 v162 v163 v164 v165 v166 v167 v168 v169 v170 v171 v172 v173 v174 v175 v176 v177 v178 v179 v180 v181 v182 v183 v184 v185 v186 v187 v188 v189 v190 v191 v192 v193 v194 v195 v196 v197 v198 v199 v200 v201 v202 v203 v204 v205 v206 v207 v208 v209 : Value) :
    Code.wp Tryd.prog C (bodyPost Tryd.prog Tryd.f34 fun e w' => e = .returned (.tuple #[.agg #[.int .i64 q.key.kind, .int .i64 q.key.src, .int .i64 q.key.frm, .int .i64 q.key.dst, .int .i64 q.key.too, .int .i64 q.st, .int .i64 q.unt, .int .i64 q.stp, .int .i64 q.h0, .int .i64 q.h1, .int .i64 q.w0, .int .i64 q.w1, .bool q.d0, .bool q.d1, .int .i64 q.num], .bool r]) ∧ Below w.heap.size w w') { tmps := #[v0, v1, .int .i64 1, .pointer (some ⟨w.heap.size, 0, none⟩), .pointer (some ⟨w.heap.size + 1, 0, none⟩), v5, .pointer (some ⟨w.heap.size + 1 + 1, 0, none⟩), v7, .int .i64 0, .bool fi, .bool sy, v11, .bool ack, .int .i64 en, .int .i64 m1, .int .i64 m2, v16, v17, v18, v19, v20, v21, v22, v23, v24, v25, v26, v27, v28, v29, v30, v31, v32, v33, v34, v35, v36, v37, v38, v39, v40, v41, v42, v43, v44, v45, v46, v47, v48, v49, v50, v51, v52, v53, v54, v55, v56, v57, v58, v59, v60, v61, v62, v63, v64, v65, v66, v67, v68, v69, v70, v71, v72, v73, v74, v75, v76, v77, v78, v79, v80, v81, v82, v83, v84, v85, v86, v87, v88, v89, v90, v91, v92, v93, v94, v95, v96, v97, v98, v99, v100, v101, v102, v103, v104, v105, v106, v107, v108, v109, v110, v111, v112, v113, v114, v115, v116, v117, v118, v119, v120, v121, v122, v123, v124, v125, v126, v127, v128, v129, v130, v131, v132, v133, v134, v135, v136, v137, v138, v139, v140, v141, v142, v143, v144, v145, v146, v147, v148, v149, v150, v151, v152, v153, v154, v155, v156, v157, v158, v159, v160, v161, v162, v163, v164, v165, v166, v167, v168, v169, v170, v171, v172, v173, v174, v175, v176, v177, v178, v179, v180, v181, v182, v183, v184, v185, v186, v187, v188, v189, v190, v191, v192, v193, v194, v195, v196, v197, v198, v199, v200, v201, v202, v203, v204, v205, v206, v207, v208, v209], defers := [] } W7 := by
  subst hC
  conv =>
    arg 2
    unfold stTail
    unfold Tryd.f34
    simp only [Option.getD_some, tailOf]
  conv =>
    arg 4
    zeta
  go_step
  go_upto_region 33 with fail
  have hcl := Ext.call (w := W7) HCN1.out
  obtain ⟨c0, c1, c2, c3, c4, c5, c6, c7, c8, c9, c10, c11, c12, c13, c14⟩ := h7.fl.cells
  obtain ⟨s0, s1, s2, s3, s4, s5, s6⟩ := h7.sg.cells
  have c8 := Ext.cell c8
  have c9 := Ext.cell c9
  have c10 := Ext.cell c10
  have c11 := Ext.cell c11
  have c12 := Ext.cell c12
  have c13 := Ext.cell c13
  have s0 := Ext.cell s0
  have s1 := Ext.cell s1
  have s2 := Ext.cell s2
  have s3 := Ext.cell s3
  have s4 := Ext.cell s4
  have s5 := Ext.cell s5
  have s6 := Ext.cell s6
  clear c0 c1 c2 c3 c4 c5 c6 c7 c14
  refine wp_region_ext (by kernel_rfl) (by kernel_rfl) ?_
  repeat (go_big_quiet_step ((go_at_call 45; exact hcl _)))
  refine wpQuiet_nil ?_
  rintro _ ⟨u, rfl⟩
  have h11 := h7.step u.h
  obtain ⟨W11, hW11⟩ : ∃ X9, u.W = X9 := ⟨_, rfl⟩
  rw [hW11] at h11 ⊢
  clear hW11 hcl u h7 c8 c9 c10 c11 c12 c13 s0 s1 s2 s3 s4 s5 s6
  go_upto_region 34 with fail
  have hcl := Ext.call (w := W11) HCN2.out
  obtain ⟨c0, c1, c2, c3, c4, c5, c6, c7, c8, c9, c10, c11, c12, c13, c14⟩ := h11.fl.cells
  obtain ⟨s0, s1, s2, s3, s4, s5, s6⟩ := h11.sg.cells
  have c8 := Ext.cell c8
  have c9 := Ext.cell c9
  have c10 := Ext.cell c10
  have c11 := Ext.cell c11
  have c12 := Ext.cell c12
  have c13 := Ext.cell c13
  have s0 := Ext.cell s0
  have s1 := Ext.cell s1
  have s2 := Ext.cell s2
  have s3 := Ext.cell s3
  have s4 := Ext.cell s4
  have s5 := Ext.cell s5
  have s6 := Ext.cell s6
  clear c0 c1 c2 c3 c4 c5 c6 c7 c14
  refine wp_region_ext (by kernel_rfl) (by kernel_rfl) ?_
  repeat (go_big_quiet_step ((go_at_call 45; exact hcl _)))
  refine wpQuiet_nil ?_
  rintro _ ⟨u, rfl⟩
  have h12 := h11.step u.h
  obtain ⟨W12, hW12⟩ : ∃ X9, u.W = X9 := ⟨_, rfl⟩
  rw [hW12] at h12 ⊢
  clear hW12 hcl u h11 c8 c9 c10 c11 c12 c13 s0 s1 s2 s3 s4 s5 s6
  obtain ⟨c0, c1, c2, c3, c4, c5, c6, c7, c8, c9, c10, c11, c12, c13, c14⟩ := h12.fl.cells
  obtain ⟨s0, s1, s2, s3, s4, s5, s6⟩ := h12.sg.cells
  have ca := HCA.out W12
  go_upto_region 35 with fail
  go_cut [18] (fun v wr => v = .bool ah ∧ wr = W12)
  case first =>
    go_wp2_with (go_at_call 46; go_must (refine ca.mono ?_; rintro e w' ⟨rfl, hw'⟩; rw [hw']; clear hw' w'))
    go_meet
    case rel => exact ⟨rfl, rfl⟩
  case rest =>
  obtain ⟨rfl, hw⟩ := hcut
  subst hw
  go_step
  exact rd36_1 f s a l c w wc q r fi ah sy ack n1 n2 en h12 HQ HR _ (by kernel_rfl) _ _ _ _ _ _ _ _ _ _ _ _ _ _ _ _ _ _ _ _ _ _ _ _ _ _ _ _ _ _ _ _ _ _ _ _ _ _ _ _ _ _ _ _ _ _ _ _ _ _ _ _ _ _ _ _ _ _ _ _ _ _ _ _ _ _ _ _ _ _ _ _ _ _ _ _ _ _ _ _ _ _ _ _ _ _ _ _ _ _ _ _ _ _ _ _ _ _ _ _ _ _ _ _ _ _ _ _ _ _ _ _ _ _ _ _ _ _ _ _ _ _ _ _ _ _ _ _ _ _ _ _ _ _ _ _ _ _ _ _ _ _ _ _ _ _ _ _ _ _ _ _ _ _ _ _ _ _ _ _ _ _ _ _ _ _ _ _ _ _ _ _ _ _ _ _ _ _ _ _ _ _ _ _ _ _ _ _ _ _ _ _ _ _ _ _ _ _ _
set_option maxRecDepth 100000 in
set_option maxHeartbeats 32000000 in
theorem rd2_1 (f : Fl) (s : Sg) (a : Option Addr) (l c : Nat) (w W7 : World) (q : Fl) (r fi ah sy ack n1 n2 : Bool) (en m1 m2 : Int) (h7 : Fsz w f s (.slice a l c) zeroF W7) (HQ : Hid (q = if r = true then { f with h1 := if ah = true then en else f.h1, w1 := s.win, d1 := f.d1 || fi, st := stG f.d0 (f.d1 || fi) f.st } else f)) (HR : Hid (r = (!sy && n1 && (!ack || n2) && (!f.d1 || !ah)))) (HM1 : Hid (m1 = max1 f.w0)) (HM2 : Hid (m2 = max1 f.w1))
    (HCN1 : Hid (∀ W, Calls Tryd.prog 45 #[.int .i64 s.seq, .int .i64 f.h1, .int .i64 m1] W fun e w' => e = .returned (.bool n1) ∧ Below W.heap.size W w')) (HCN2 : Hid (∀ W, Calls Tryd.prog 45 #[.int .i64 s.ack, .int .i64 f.h0, .int .i64 m2] W fun e w' => e = .returned (.bool n2) ∧ Below W.heap.size W w')) (HCA : Hid (∀ W, Calls Tryd.prog 46 #[.int .i64 en, .int .i64 f.h1] W fun e w' => e = .returned (.bool ah) ∧ w' = W)) (C : Code) (hC : C = stTail 28) (v0 v1 v5 v7 v11 v15 v16 v17 v18 v19 v20 v21 v22 v23 v24 v25 v26 v27 v28 v29 v30 v31 v32 v33 v34 v35 v36 v37 v38 v39 v40 v41 v42 v43 v44 v45 v46 v47 v48 v49 v50 v51 v52 v53 v54 v55 v56 v57 v58 v59 v60 v61 v62 v63 v64 v65 v66 v67 v68 v69 v70 v71 v72 v73 v74 v75 v76 v77 v78 v79 v80 v81 v82 v83 v84 v85 v86 v87 v88 v89 v90 v91 v92 v93 v94 v95 v96 v97 v98 v99 v100 v101 v102 v103 v104 v105 v106 v107 v108 v109 v110 v111 v112 v113 v114 v115 v116 v117 v118 v119 v120 v121 v122 v123 v124 v125 v126 v127 v128 v129 v130 v131 v132 v133 v134 v135 v136 v137 v138 v139 v140 v141 v142 v143 v144 v145 v146 v147 v148 v149 v150 v151 v152 v153 v154 v155 v156 v157 v158 v159 v160 v161 v162 v163 v164 v165 v166 v167 v168 v169 v170 v171 v172 v173 v174 v175 v176 v177 v178 v179 v180 v181 v182 v183 v184 v185 v186 v187 v188 v189 v190 v191 v192 v193 v194 v195 v196 v197 v198 v199 v200 v201 v202 v203 v204 v205 v206 v207 v208 v209 : Value) :
    Code.wp Tryd.prog C (bodyPost Tryd.prog Tryd.f34 fun e w' => e = .returned (.tuple #[.agg #[.int .i64 q.key.kind, .int .i64 q.key.src, .int .i64 q.key.frm, .int .i64 q.key.dst, .int .i64 q.key.too, .int .i64 q.st, .int .i64 q.unt, .int .i64 q.stp, .int .i64 q.h0, .int .i64 q.h1, .int .i64 q.w0, .int .i64 q.w1, .bool q.d0, .bool q.d1, .int .i64 q.num], .bool r]) ∧ Below w.heap.size w w') { tmps := #[v0, v1, .int .i64 1, .pointer (some ⟨w.heap.size, 0, none⟩), .pointer (some ⟨w.heap.size + 1, 0, none⟩), v5, .pointer (some ⟨w.heap.size + 1 + 1, 0, none⟩), v7, .int .i64 0, .bool fi, .bool sy, v11, .bool ack, .int .i64 en, .int .i64 f.w0, v15, v16, v17, v18, v19, v20, v21, v22, v23, v24, v25, v26, v27, v28, v29, v30, v31, v32, v33, v34, v35, v36, v37, v38, v39, v40, v41, v42, v43, v44, v45, v46, v47, v48, v49, v50, v51, v52, v53, v54, v55, v56, v57, v58, v59, v60, v61, v62, v63, v64, v65, v66, v67, v68, v69, v70, v71, v72, v73, v74, v75, v76, v77, v78, v79, v80, v81, v82, v83, v84, v85, v86, v87, v88, v89, v90, v91, v92, v93, v94, v95, v96, v97, v98, v99, v100, v101, v102, v103, v104, v105, v106, v107, v108, v109, v110, v111, v112, v113, v114, v115, v116, v117, v118, v119, v120, v121, v122, v123, v124, v125, v126, v127, v128, v129, v130, v131, v132, v133, v134, v135, v136, v137, v138, v139, v140, v141, v142, v143, v144, v145, v146, v147, v148, v149, v150, v151, v152, v153, v154, v155, v156, v157, v158, v159, v160, v161, v162, v163, v164, v165, v166, v167, v168, v169, v170, v171, v172, v173, v174, v175, v176, v177, v178, v179, v180, v181, v182, v183, v184, v185, v186, v187, v188, v189, v190, v191, v192, v193, v194, v195, v196, v197, v198, v199, v200, v201, v202, v203, v204, v205, v206, v207, v208, v209], defers := [] } W7 := by
  subst hC
  conv =>
    arg 2
    unfold stTail
    unfold Tryd.f34
    simp only [Option.getD_some, tailOf]
  conv =>
    arg 4
    zeta
  go_step
  go_step
  go_cut [14] (fun v wr => v = .int .i64 m1 ∧ wr = W7)
  case first =>
    by_cases hlt : f.w0 < 1
    · have HE := hidE (show m1 = 1 by rw [HM1.out]; exact if_pos hlt)
      go_wp2_with fail
      go_meet
      case rel => exact ⟨by rw [HE.out], rfl⟩
    · have HE := hidE (show m1 = f.w0 by rw [HM1.out]; exact if_neg hlt)
      go_wp2_with fail
      go_meet
      case rel => exact ⟨by rw [HE.out], rfl⟩
  case rest =>
  obtain ⟨rfl, hw⟩ := hcut
  subst hw
  have h8 := h7
  obtain ⟨W8, hW8⟩ : ∃ X9, wc = X9 := ⟨_, rfl⟩
  rw [hW8] at h8 ⊢
  clear hW8 h7
  obtain ⟨c0, c1, c2, c3, c4, c5, c6, c7, c8, c9, c10, c11, c12, c13, c14⟩ := h8.fl.cells
  obtain ⟨s0, s1, s2, s3, s4, s5, s6⟩ := h8.sg.cells
  go_upto_region 30 with fail
  go_cut [15] (fun v wr => v = .int .i64 f.w1 ∧ wr = W8)
  case first =>
    go_wp2_with fail
    go_meet
    case rel => exact ⟨rfl, rfl⟩
  case rest =>
  obtain ⟨rfl, hw⟩ := hcut
  subst hw
  clear c0 c1 c2 c3 c4 c5 c6 c7 c8 c9 c10 c11 c12 c13 c14 s0 s1 s2 s3 s4 s5 s6
  have h9 := h8
  obtain ⟨W9, hW9⟩ : ∃ X9, wc = X9 := ⟨_, rfl⟩
  rw [hW9] at h9 ⊢
  clear hW9 h8
  go_step
  go_step
  go_cut [15] (fun v wr => v = .int .i64 m2 ∧ wr = W9)
  case first =>
    by_cases hlt : f.w1 < 1
    · have HE := hidE (show m2 = 1 by rw [HM2.out]; exact if_pos hlt)
      go_wp2_with fail
      go_meet
      case rel => exact ⟨by rw [HE.out], rfl⟩
    · have HE := hidE (show m2 = f.w1 by rw [HM2.out]; exact if_neg hlt)
      go_wp2_with fail
      go_meet
      case rel => exact ⟨by rw [HE.out], rfl⟩
  case rest =>
  obtain ⟨rfl, hw⟩ := hcut
  subst hw
  go_step
  exact rd33_1 f s a l c w wc q r fi ah sy ack n1 n2 en m1 m2 h9 HQ HR HCN1 HCN2 HCA _ (by kernel_rfl) _ _ _ _ _ _ _ _ _ _ _ _ _ _ _ _ _ _ _ _ _ _ _ _ _ _ _ _ _ _ _ _ _ _ _ _ _ _ _ _ _ _ _ _ _ _ _ _ _ _ _ _ _ _ _ _ _ _ _ _ _ _ _ _ _ _ _ _ _ _ _ _ _ _ _ _ _ _ _ _ _ _ _ _ _ _ _ _ _ _ _ _ _ _ _ _ _ _ _ _ _ _ _ _ _ _ _ _ _ _ _ _ _ _ _ _ _ _ _ _ _ _ _ _ _ _ _ _ _ _ _ _ _ _ _ _ _ _ _ _ _ _ _ _ _ _ _ _ _ _ _ _ _ _ _ _ _ _ _ _ _ _ _ _ _ _ _ _ _ _ _ _ _ _ _ _ _ _ _ _ _ _ _ _ _ _ _ _ _ _ _ _ _ _ _ _ _ _ _
end Go.Proofs.YtdhjfjnjdkmhjaaDoor
