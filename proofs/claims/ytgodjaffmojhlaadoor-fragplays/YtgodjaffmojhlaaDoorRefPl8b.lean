/- What is left of Add of the reference's pool as soon as the heap is there, where the piece fits. -/
import Derived.Test.YtgodjaffmojhlaaDoorRefPl8a
import Derived.Test.YtgodjaffmojhlaaDoorPoolAdd6
import Derived.Deep.RegionLaw
import Derived.Deep.RegionHeld3
import Derived.Deep.RegionHeldLaw
import Derived.Deep.CutBlock
namespace Go.Proofs.YtgodjaffmojhlaaDoor
open Go.RowKit
set_option linter.unusedVariables false

set_option maxRecDepth 100000 in
set_option maxHeartbeats 8000000 in
theorem radd_t21 (w0 : World) (F : Nat → Prop) (pb : Nat) (s : Po) (p : Pk) (a : Option Addr) (L c : Nat) (now : Int) (w : World) (Q : Ending → World → Prop) (he : pkErr p = 0) (hte : tickE s now = 0) (hnw : ¬ (p.pos = 0 ∧ p.more = false)) (hx : ¬ (getH (tickS s now).l (nmOf p) = none ∧ 8 ≤ (tickS s now).l.length)) (hF : ∀ k, F k → k < w.heap.size) (hnew : (∀ k, F k → w0.heap.size ≤ k) ∧ w0.heap.size ≤ w.heap.size) (hQ : ∀ e w', RAdds w0 F pb s p now w e w' → Q e w') (hb0 : Bytes w0 (.slice a L c) p.body) (A : List Rh) (r : Rh) (B : List Rh) (lv : Value) (wc : World) (C : Code) (hC : C = addTail 21) (hbd0 : (orNew (getH (tickS s now).l (nmOf p)) (nmOf p) now).bad = false) (hwr0 : wrongB (orNew (getH (tickS s now).l (nmOf p)) (nmOf p) now).all p = false) (hst : AddSt w0 F pb (tickS s now) p (.slice a L c) now w A r B lv wc)
    (v1 v2 v3 v5 v7 v8 v9 v11 v12 v13 v14 v15 v16 v17 v18 v19 v20 v21 v22 v23 v24 v25 v26 v27 v28 v29 v30 v31 v32 v33 v34 v35 v36 v37 v38 v39 v40 v41 v42 v43 v44 v45 v46 v47 v48 v49 v50 v51 v52 v53 v54 v55 v56 v57 v58 v59 v60 v61 v62 v63 v64 v65 v66 v67 v68 v69 v70 v71 v72 v73 v74 v75 v76 v77 v78 v79 v80 v81 v82 v83 v84 v85 v86 v87 v88 v89 v90 v91 v92 v93 v94 v95 v96 v97 v98 v99 v100 v101 v102 v103 v104 v105 v106 v107 v108 v109 v110 v111 v112 v113 v114 v115 v116 v117 v118 v119 v120 v121 v122 v123 v124 v125 v126 v127 v128 v129 v130 v131 v132 v133 v134 v135 v136 v137 v138 v139 v140 v141 v142 v143 v144 v145 v146 v147 v148 v149 v150 v151 v152 v153 v154 v155 v156 v157 v158 v159 v160 v161 v162 v163 v164 v165 v166 v167 v168 v169 v170 v171 v172 v173 v174 v175 v176 v177 v178 v179 v180 v181 v182 v183 v184 v185 v186 v187 v188 v189 v190 v191 v192 v193 v194 v195 v196 v197 v198 v199 v200 v201 v202 v203 v204 v205 v206 v207 v208 v209 v210 v211 v212 v213 v214 v215 v216 v217 v218 v219 v220 v221 v222 v223 v224 v225 v226 v227 v228 v229 v230 v231 v232 v233 v234 v235 v236 v237 v238 v239 v240 v241 v242 v243 v244 v245 v246 v247 v248 v249 v250 v251 v252 v253 : Value) :
    Code.wp Tryd.prog C (bodyPost Tryd.prog Tryd.f8 Q) { tmps := #[.pointer (some ⟨pb, 0, none⟩), v1, v2, v3, .pointer (some ⟨w.heap.size, 0, none⟩), v5, .pointer (some ⟨w.heap.size + 1, 0, none⟩), v7, v8, v9, .int .i64 (A.length : Int), v11, v12, v13, v14, v15, v16, v17, v18, v19, v20, v21, v22, v23, v24, v25, v26, v27, v28, v29, v30, v31, v32, v33, v34, v35, v36, v37, v38, v39, v40, v41, v42, v43, v44, v45, v46, v47, v48, v49, v50, v51, v52, v53, v54, v55, v56, v57, v58, v59, v60, v61, v62, v63, v64, v65, v66, v67, v68, v69, v70, v71, v72, v73, v74, v75, v76, v77, v78, v79, v80, v81, v82, v83, v84, v85, v86, v87, v88, v89, v90, v91, v92, v93, v94, v95, v96, v97, v98, v99, v100, v101, v102, v103, v104, v105, v106, v107, v108, v109, v110, v111, v112, v113, v114, v115, v116, v117, v118, v119, v120, v121, v122, v123, v124, v125, v126, v127, v128, v129, v130, v131, v132, v133, v134, v135, v136, v137, v138, v139, v140, v141, v142, v143, v144, v145, v146, v147, v148, v149, v150, v151, v152, v153, v154, v155, v156, v157, v158, v159, v160, v161, v162, v163, v164, v165, v166, v167, v168, v169, v170, v171, v172, v173, v174, v175, v176, v177, v178, v179, v180, v181, v182, v183, v184, v185, v186, v187, v188, v189, v190, v191, v192, v193, v194, v195, v196, v197, v198, v199, v200, v201, v202, v203, v204, v205, v206, v207, v208, v209, v210, v211, v212, v213, v214, v215, v216, v217, v218, v219, v220, v221, v222, v223, v224, v225, v226, v227, v228, v229, v230, v231, v232, v233, v234, v235, v236, v237, v238, v239, v240, v241, v242, v243, v244, v245, v246, v247, v248, v249, v250, v251, v252, v253], defers := [] } wc := by
  have HE := hidR he
  have HTE := hidR hte
  have HNW := hidR hnw
  have HX4 := hidR hx
  have HF := hidR hF
  have HNEW := hidR hnew
  have HQ := hidR hQ
  clear he hte hnw hx hF hnew hQ
  have HB0 := hidR hb0
  have HBD := hidR hbd0
  have HWR := hidR hwr0
  have HST := hidR hst
  clear hb0 hbd0 hwr0 hst
  subst hC
  conv =>
    arg 2
    unfold addTail
    unfold Tryd.f8
    simp only [Option.getD_some, tailOf]
  obtain ⟨g, cap, M, hM, hlv, hgl, hMc, hcc, hM8, hC, hfz, hgp, hgP⟩ := HST.out.shape
  subst hlv
  have hbd : r.h.bad = false := by rw [HST.out.is]; exact HBD.out
  have hwr := HWR.out
  rw [← HST.out.is] at hwr
  have k9 := hC.all.2.2.2.2.2.2.2.2.2.1
  have k10 := hC.all.2.2.2.2.2.2.2.2.2.2
  rw [hbd] at k9
  have hwg := HST.out.wrong hbd HE.out HB0.out
  rw [hwr] at hwg
  obtain ⟨aa, nn, cc, hav⟩ := (HST.out.pool.slv r (List.mem_append_right _ List.mem_cons_self)).2
  have HAV := hidR hav
  rw [hav] at k10 hwg
  unfold pkV at hwg
  obtain ⟨_, _, q2, _, _⟩ := HST.out.pool.cells
  obtain ⟨x0, x1, x2, x3, x4, x5, x6, x7⟩ := HST.out.px.cells
  have hplc : pb < wc.heap.size := HST.out.pool.lt
  have hxlc : w.heap.size < wc.heap.size := HST.out.px.lt
  obtain ⟨m, hm⟩ : ∃ m, A.length = m := ⟨_, rfl⟩
  have HM := hidR hm
  have HMM := hidR hM
  rw [hm] at k9 k10 ⊢
  have hmM : m < M := by omega
  have i3 : (0 : Int) ≤ (m : Int) := by omega
  have i4 : (m : Int) < (M : Int) := by omega
  have hS : wc.cell? ⟨pb, 2, none⟩ = some (.slice (some ⟨g, 0, none⟩) M cap) ∧ wc.cell? ⟨g, m * 11 + 10, none⟩ = some (.slice aa nn cc) ∧ wc.cell? ⟨w.heap.size, 0, none⟩ = some (.int .i64 p.kind) ∧ wc.cell? ⟨w.heap.size, 1, none⟩ = some (.int .i64 p.ttl) ∧ wc.cell? ⟨w.heap.size, 2, none⟩ = some (.int .i64 p.ident) ∧ wc.cell? ⟨w.heap.size, 3, none⟩ = some (.int .i64 p.src) ∧ wc.cell? ⟨w.heap.size, 4, none⟩ = some (.int .i64 p.dst) ∧ wc.cell? ⟨w.heap.size, 5, none⟩ = some (.int .i64 p.pos) ∧ wc.cell? ⟨w.heap.size, 6, none⟩ = some (.bool p.more) ∧ wc.cell? ⟨w.heap.size, 7, none⟩ = some (.slice a L c) := ⟨q2, k10, x0, x1, x2, x3, x4, x5, x6, x7⟩
  have HBDr := hidR hbd
  have HWRr := hidR hwr
  clear hM hm hC hav hfz hbd hwr
  go_upto_region 23 with fail
  go_region_held3 (fun X => X.cell? ⟨pb, 2, none⟩ = some (.slice (some ⟨g, 0, none⟩) M cap) ∧ X.cell? ⟨g, m * 11 + 10, none⟩ = some (.slice aa nn cc) ∧ X.cell? ⟨w.heap.size, 0, none⟩ = some (.int .i64 p.kind) ∧ X.cell? ⟨w.heap.size, 1, none⟩ = some (.int .i64 p.ttl) ∧ X.cell? ⟨w.heap.size, 2, none⟩ = some (.int .i64 p.ident) ∧ X.cell? ⟨w.heap.size, 3, none⟩ = some (.int .i64 p.src) ∧ X.cell? ⟨w.heap.size, 4, none⟩ = some (.int .i64 p.dst) ∧ X.cell? ⟨w.heap.size, 5, none⟩ = some (.int .i64 p.pos) ∧ X.cell? ⟨w.heap.size, 6, none⟩ = some (.bool p.more) ∧ X.cell? ⟨w.heap.size, 7, none⟩ = some (.slice a L c)) (with_reducible first | assumption | go_keep) (first
    | (go_at_call 18; refine hwg.mono ?_; rintro e w6 ⟨rfl, bw6⟩; have hS6 : w6.cell? ⟨pb, 2, none⟩ = some (.slice (some ⟨g, 0, none⟩) M cap) ∧ w6.cell? ⟨g, m * 11 + 10, none⟩ = some (.slice aa nn cc) ∧ w6.cell? ⟨w.heap.size, 0, none⟩ = some (.int .i64 p.kind) ∧ w6.cell? ⟨w.heap.size, 1, none⟩ = some (.int .i64 p.ttl) ∧ w6.cell? ⟨w.heap.size, 2, none⟩ = some (.int .i64 p.ident) ∧ w6.cell? ⟨w.heap.size, 3, none⟩ = some (.int .i64 p.src) ∧ w6.cell? ⟨w.heap.size, 4, none⟩ = some (.int .i64 p.dst) ∧ w6.cell? ⟨w.heap.size, 5, none⟩ = some (.int .i64 p.pos) ∧ w6.cell? ⟨w.heap.size, 6, none⟩ = some (.bool p.more) ∧ w6.cell? ⟨w.heap.size, 7, none⟩ = some (.slice a L c) := ⟨(bw6.cell (p := ⟨pb, 2, none⟩) hplc).trans q2, (bw6.cell (p := ⟨g, m * 11 + 10, none⟩) hgl).trans k10, (bw6.cell (p := ⟨w.heap.size, 0, none⟩) hxlc).trans x0, (bw6.cell (p := ⟨w.heap.size, 1, none⟩) hxlc).trans x1, (bw6.cell (p := ⟨w.heap.size, 2, none⟩) hxlc).trans x2, (bw6.cell (p := ⟨w.heap.size, 3, none⟩) hxlc).trans x3, (bw6.cell (p := ⟨w.heap.size, 4, none⟩) hxlc).trans x4, (bw6.cell (p := ⟨w.heap.size, 5, none⟩) hxlc).trans x5, (bw6.cell (p := ⟨w.heap.size, 6, none⟩) hxlc).trans x6, (bw6.cell (p := ⟨w.heap.size, 7, none⟩) hxlc).trans x7⟩))
  have HS6 := hidR (HST.out.below HF.out HNEW.out.1 HNEW.out.2 bw6)
  have k96 := (bw6.cell (p := ⟨g, m * 11 + 9, none⟩) hgl).trans k9
  clear HST hS hwg k9 k10 q2 x0 x1 x2 x3 x4 x5 x6 x7 bw6 hgl hplc hxlc

  obtain ⟨g', cap', M', hM', hlv', hgl', _, _, _, _, hfz, hgp', hgP'⟩ := HS6.out.shape
  simp only [Value.slice.injEq, Option.some.injEq, Addr.mk.injEq] at hlv'
  obtain ⟨⟨hg', -⟩, -, -⟩ := hlv'
  subst hg'
  have z106 := hfz (m * 11 + 10)
  have hrok := HS6.out.pool.rok (List.mem_append_right A (List.mem_cons_self (a := r) (l := B)))
  have hokr := HS6.out.pool.ok.each r.h (List.mem_map.2 ⟨r, List.mem_append_right A (List.mem_cons_self (a := r) (l := B)), rfl⟩)
  have hown : OwnK w6.drew 0 (.slice aa nn cc) (r.h.all.zip r.vs) := by have := (hrok.all HBDr.out).1; rw [HAV.out] at this; exact this
  have hlen : (r.h.all.zip r.vs).length ≤ 100000 := by
    have h1 := len_held hokr.good.one
    have h2 := (bounds_kept hokr.good).1
    rw [List.length_zip]; omega
  have hgw : w.heap.size ≠ g := fun e => by
    rcases hgP' with h | h
    · have := HF.out _ h; omega
    · omega
  have hsz6 : w.heap.size + 2 ≤ w6.heap.size := by have := HS6.out.pz.lt; omega
  have nP : Hid ((Value.slice aa nn cc).ownBlock ≠ some pb) := fun e => (hrok.fall HBDr.out pb (by rw [HAV.out]; exact e)).2.1 rfl
  have nG : Hid ((Value.slice aa nn cc).ownBlock ≠ some g) := fun e => (hrok.fall HBDr.out g (by rw [HAV.out]; exact e)).2.2 rfl
  have nX : Hid ((Value.slice aa nn cc).ownBlock ≠ some w.heap.size) := fun e => by
    rcases (hrok.fall HBDr.out w.heap.size (by rw [HAV.out]; exact e)).1 with h | h
    · have := HF.out _ h; omega
    · omega
  have hp6 : pb < w6.heap.size := HS6.out.pool.lt
  have hgl6 := hgl'
  have hx6 : w.heap.size < w6.heap.size := by omega
  obtain ⟨q2, k10, x0, x1, x2, x3, x4, x5, x6, x7⟩ := hS6
  have hSS : w6.cell? ⟨pb, 2, none⟩ = some (.slice (some ⟨g, 0, none⟩) M cap) ∧ w6.cell? ⟨w.heap.size, 0, none⟩ = some (.int .i64 p.kind) ∧ w6.cell? ⟨w.heap.size, 1, none⟩ = some (.int .i64 p.ttl) ∧ w6.cell? ⟨w.heap.size, 2, none⟩ = some (.int .i64 p.ident) ∧ w6.cell? ⟨w.heap.size, 3, none⟩ = some (.int .i64 p.src) ∧ w6.cell? ⟨w.heap.size, 4, none⟩ = some (.int .i64 p.dst) ∧ w6.cell? ⟨w.heap.size, 5, none⟩ = some (.int .i64 p.pos) ∧ w6.cell? ⟨w.heap.size, 6, none⟩ = some (.bool p.more) ∧ w6.cell? ⟨w.heap.size, 7, none⟩ = some (.slice a L c) := ⟨q2, x0, x1, x2, x3, x4, x5, x6, x7⟩
  have k10d : w6.drew.cell? ⟨g, m * 11 + 10, none⟩ = some (.slice aa nn cc) := k10
  have k10a : (w6.drew.alloc (.cells #[.int .i64 p.kind, .int .i64 p.ttl, .int .i64 p.ident, .int .i64 p.src, .int .i64 p.dst, .int .i64 p.pos, .bool p.more, .slice a L c] 40)).cell? ⟨g, m * 11 + 10, none⟩ = some (.slice aa nn cc) := (World.cell?_of_block (w := w6.drew) (a := ⟨g, m * 11 + 10, none⟩) (Below.heap_alloc w6.drew _ g hgl6)).trans k10d
  have k10b : (w6.alloc (.cells #[.int .i64 p.kind, .int .i64 p.ttl, .int .i64 p.ident, .int .i64 p.src, .int .i64 p.dst, .int .i64 p.pos, .bool p.more, .slice a L c] 40)).cell? ⟨g, m * 11 + 10, none⟩ = some (.slice aa nn cc) := (World.cell?_of_block (w := w6) (a := ⟨g, m * 11 + 10, none⟩) (Below.heap_alloc w6 _ g hgl6)).trans k10
  obtain ⟨zl, hzl⟩ : ∃ zl, (r.h.all.zip r.vs).length = zl := ⟨_, rfl⟩
  have HZL := hidR hzl
  have hpg : pb ≠ g := Ne.symm hgp'
  clear hzl
  clear hfz hM' hgl' hgP' hrok hokr k96
  go_upto_region 27 with fail
  go_cut [160] (fun v ww => ∃ g2 n2 cap2 : Nat, v = .slice (some ⟨g2, 0, none⟩) n2 cap2 ∧ Hid (n2 = (r.h.all ++ [p]).length) ∧ Hid (KeptSt w0 F pb (tickS s now) p (.slice a L c) w A r B (.slice (some ⟨g, 0, none⟩) M cap) v ww))
  case first =>
    refine wp_region_held_drew (S := (fun X => X.cell? ⟨pb, 2, none⟩ = some (.slice (some ⟨g, 0, none⟩) M cap) ∧ X.cell? ⟨w.heap.size, 0, none⟩ = some (.int .i64 p.kind) ∧ X.cell? ⟨w.heap.size, 1, none⟩ = some (.int .i64 p.ttl) ∧ X.cell? ⟨w.heap.size, 2, none⟩ = some (.int .i64 p.ident) ∧ X.cell? ⟨w.heap.size, 3, none⟩ = some (.int .i64 p.src) ∧ X.cell? ⟨w.heap.size, 4, none⟩ = some (.int .i64 p.dst) ∧ X.cell? ⟨w.heap.size, 5, none⟩ = some (.int .i64 p.pos) ∧ X.cell? ⟨w.heap.size, 6, none⟩ = some (.bool p.more) ∧ X.cell? ⟨w.heap.size, 7, none⟩ = some (.slice a L c))) (by kernel_rfl) hSS (fun hHeld => ?_)
    refine wpAnyH_take (i := 0) (v := ?_) rfl (by kernel_rfl) (by kernel_rfl) (by kernel_rfl) (fun _ _ _ h => h) (Or.inl ⟨by rfl, ?_⟩) (by assumption) ?_
    rotate_left
    · intro w hSw
      try dsimp only at hSw
      go_simp
      try with_reducible rfl
    try simp only [Act.put]
    refine wpAnyH_take (i := 1) (v := ?_) rfl (by kernel_rfl) (by kernel_rfl) (by kernel_rfl) (fun _ _ _ h => h) (Or.inl ⟨by rfl, ?_⟩) (by assumption) ?_
    rotate_left
    · intro w hSw
      try dsimp only at hSw
      go_simp
      try with_reducible rfl
    try simp only [Act.put]
    refine wpAnyH_take (i := 2) (v := ?_) rfl (by kernel_rfl) (by kernel_rfl) (by kernel_rfl) (fun _ _ _ h => h) (Or.inl ⟨by rfl, ?_⟩) (by assumption) ?_
    rotate_left
    · intro w hSw
      try dsimp only at hSw
      go_simp
      try with_reducible rfl
    try simp only [Act.put]
    refine wpAnyH_take (i := 3) (v := ?_) rfl (by kernel_rfl) (by kernel_rfl) (by kernel_rfl) (fun _ _ _ h => h) (Or.inl ⟨by rfl, ?_⟩) (by assumption) ?_
    rotate_left
    · intro w hSw
      try dsimp only at hSw
      go_simp
      try with_reducible rfl
    try simp only [Act.put]
    refine wpAnyH_take (i := 4) (v := ?_) rfl (by kernel_rfl) (by kernel_rfl) (by kernel_rfl) (fun _ _ _ h => h) (Or.inl ⟨by rfl, ?_⟩) (by assumption) ?_
    rotate_left
    · intro w hSw
      try dsimp only at hSw
      go_simp
      try with_reducible rfl
    try simp only [Act.put]
    refine wpAnyH_take (i := 5) (v := ?_) rfl (by kernel_rfl) (by kernel_rfl) (by kernel_rfl) (fun _ _ _ h => h) (Or.inl ⟨by rfl, ?_⟩) (by assumption) ?_
    rotate_left
    · intro w hSw
      try dsimp only at hSw
      go_simp
      try with_reducible rfl
    try simp only [Act.put]
    refine wpAnyH_take (i := 6) (v := ?_) rfl (by kernel_rfl) (by kernel_rfl) (by kernel_rfl) (fun _ _ _ h => h) (Or.inl ⟨by rfl, ?_⟩) (by assumption) ?_
    rotate_left
    · intro w hSw
      try dsimp only at hSw
      go_simp
      try with_reducible rfl
    try simp only [Act.put]
    refine wpAnyH_take (i := 7) (v := ?_) rfl (by kernel_rfl) (by kernel_rfl) (by kernel_rfl) (fun _ _ _ h => h) (Or.inl ⟨by rfl, ?_⟩) (by assumption) ?_
    rotate_left
    · intro w hSw
      try dsimp only at hSw
      go_simp
      try with_reducible rfl
    try simp only [Act.put]
    refine wpAnyH_take (i := 8) (v := ?_) rfl (by kernel_rfl) (by kernel_rfl) (by kernel_rfl) (fun _ _ _ h => h) (Or.inl ⟨by rfl, ?_⟩) (by assumption) ?_
    rotate_left
    · intro w hSw
      try dsimp only at hSw
      go_simp
      try with_reducible rfl
    try simp only [Act.put]
    refine wpAnyH_take (i := 9) (v := ?_) rfl (by kernel_rfl) (by kernel_rfl) (by kernel_rfl) (fun _ _ _ h => h) (Or.inl ⟨by rfl, ?_⟩) (by assumption) ?_
    rotate_left
    · intro w hSw
      try dsimp only at hSw
      go_simp
      try with_reducible rfl
    try simp only [Act.put]
    refine wpAnyH_take (i := 10) (v := ?_) rfl (by kernel_rfl) (by kernel_rfl) (by kernel_rfl) (fun _ _ _ h => h) (Or.inl ⟨by rfl, ?_⟩) (by assumption) ?_
    rotate_left
    · intro w hSw
      try dsimp only at hSw
      go_simp
      try with_reducible rfl
    try simp only [Act.put]
    refine wpAnyH_take (i := 11) (v := ?_) rfl (by kernel_rfl) (by kernel_rfl) (by kernel_rfl) (fun _ _ _ h => h) (Or.inl ⟨by rfl, ?_⟩) (by assumption) ?_
    rotate_left
    · intro w hSw
      try dsimp only at hSw
      go_simp
      try with_reducible rfl
    try simp only [Act.put]
    refine wpAnyH_take (i := 13) (v := ?_) rfl (by kernel_rfl) (by kernel_rfl) (by kernel_rfl) (fun _ _ _ h => h) (Or.inl ⟨by rfl, ?_⟩) (by assumption) ?_
    rotate_left
    · intro w hSw
      try dsimp only at hSw
      go_simp
      try with_reducible rfl
    try simp only [Act.put]
    refine wpAnyH_ready (rs := [12, 14]) (by kernel_rfl) (by simp) ?_
    refine AllReadyH.cons rfl (fun K hK => ?_) (AllReadyH.cons rfl (fun K hK => ?_) AllReadyH.nil)
    · go_simp
      refine hK.out _ _ hSS (fun hHeld => ?_)
      clear hK K
      try simp only [Act.put, List.setIfInBounds_toArray, List.set_cons_zero, List.set_cons_succ]
      refine wpAnyH_ready (rs := [14]) (by kernel_rfl) (by simp) ?_
      refine AllReadyH.cons rfl (fun K hK => ?_) AllReadyH.nil
      go_simp
      refine hK.out _ _ (s27_alloc hSS _) (fun hHeld => ?_)
      clear hK K
      try simp only [Act.put, List.setIfInBounds_toArray, List.set_cons_zero, List.set_cons_succ]
      refine wpAnyH_ready (rs := [15]) (by kernel_rfl) (by simp) ?_
      refine AllReadyH.cons rfl (fun K hK => ?_) AllReadyH.nil
      refine step_append_pk1 rfl (.tmp 157) (.tmp 159) rfl 0 (.slice aa nn cc) (r.h.all.zip r.vs) rfl hown p a L c rfl hlen (Nat.zero_le _) ?_
      intro g2 cap2 w7 own7 grow7 at7
      rw [HZL.out] at own7 ⊢
      have k7 := (grown_cell (wr := w6) ⟨1, rfl⟩ grow7 (q := ⟨g, m * 11 + 10, none⟩) hgl6 nG.out).1.trans k10
      have z7 := (grown_cell (wr := w6) ⟨1, rfl⟩ grow7 (q := ⟨g, m * 11 + 10, none⟩) hgl6 nG.out).2.trans z106
      refine hK.out _ _ ⟨(grown_cell (wr := w6) ⟨1, rfl⟩ grow7 (q := ⟨pb, 2, none⟩) hp6 nP.out).1.trans q2, (grown_cell (wr := w6) ⟨1, rfl⟩ grow7 (q := ⟨w.heap.size, 0, none⟩) hx6 nX.out).1.trans x0, (grown_cell (wr := w6) ⟨1, rfl⟩ grow7 (q := ⟨w.heap.size, 1, none⟩) hx6 nX.out).1.trans x1, (grown_cell (wr := w6) ⟨1, rfl⟩ grow7 (q := ⟨w.heap.size, 2, none⟩) hx6 nX.out).1.trans x2, (grown_cell (wr := w6) ⟨1, rfl⟩ grow7 (q := ⟨w.heap.size, 3, none⟩) hx6 nX.out).1.trans x3, (grown_cell (wr := w6) ⟨1, rfl⟩ grow7 (q := ⟨w.heap.size, 4, none⟩) hx6 nX.out).1.trans x4, (grown_cell (wr := w6) ⟨1, rfl⟩ grow7 (q := ⟨w.heap.size, 5, none⟩) hx6 nX.out).1.trans x5, (grown_cell (wr := w6) ⟨1, rfl⟩ grow7 (q := ⟨w.heap.size, 6, none⟩) hx6 nX.out).1.trans x6, (grown_cell (wr := w6) ⟨1, rfl⟩ grow7 (q := ⟨w.heap.size, 7, none⟩) hx6 nX.out).1.trans x7⟩ (fun hHeld => ?_)
      clear hK K
      simp only [List.getElem_toArray, List.getElem_cons_succ, List.getElem_cons_zero, Act.put, List.setIfInBounds_toArray, List.set_cons_zero, List.set_cons_succ]
      refine wpAnyH_take (i := 16) (v := ?_) rfl (by kernel_rfl) (by kernel_rfl) (by kernel_rfl) (fun _ _ _ h => h) (Or.inl ⟨by rfl, ?_⟩) (by assumption) ?_
      rotate_left
      · intro w hSw
        try dsimp only at hSw
        go_simp
        try with_reducible rfl
      try simp only [Act.put]
      refine wpAnyH_take (i := 17) (v := ?_) rfl (by kernel_rfl) (by kernel_rfl) (by kernel_rfl) (fun _ _ _ h => h) (Or.inl ⟨by rfl, ?_⟩) (by assumption) ?_
      rotate_left
      · intro w hSw
        try dsimp only at hSw
        go_simp
        try with_reducible rfl
      try simp only [Act.put]
      refine wpAnyH_ready (rs := [18]) (by kernel_rfl) (by simp) ?_
      refine AllReadyH.cons rfl (fun K hK => ?_) AllReadyH.nil
      go_simp
      refine hK.out _ _ (s27_set hpg hgw hHeld) (fun hHeld => ?_)
      clear hK K
      refine wpAnyH_done (by kernel_rfl) ?_ _
      try simp only [Act.put, List.setIfInBounds_toArray, List.set_cons_zero, List.set_cons_succ]
      go_wp2_with fail
      go_meet
      case rel => exact ⟨g2, zl + 1, cap2, rfl, (by rw [Hid, ← HZL.out, List.length_zip, ((HS6.out.pool.rok (List.mem_append_right A (List.mem_cons_self (a := r) (l := B)))).all HBDr.out).2]; simp), (by have := HS6.out.toMore HBDr.out HWRr.out HE.out HF.out HNEW.out.1 HNEW.out.2 HB0.out ⟨1, rfl⟩ own7 (by rw [HAV.out]; exact grow7) (by rw [HAV.out]; exact at7); rw [HM.out] at this; exact this)⟩
    · go_simp
      refine hK.out _ _ (s27_alloc hSS _) (fun hHeld => ?_)
      clear hK K
      try simp only [Act.put, List.setIfInBounds_toArray, List.set_cons_zero, List.set_cons_succ]
      refine wpAnyH_ready (rs := [12]) (by kernel_rfl) (by simp) ?_
      refine AllReadyH.cons rfl (fun K hK => ?_) AllReadyH.nil
      go_simp
      refine hK.out _ _ (s27_alloc hSS _) (fun hHeld => ?_)
      clear hK K
      try simp only [Act.put, List.setIfInBounds_toArray, List.set_cons_zero, List.set_cons_succ]
      refine wpAnyH_ready (rs := [15]) (by kernel_rfl) (by simp) ?_
      refine AllReadyH.cons rfl (fun K hK => ?_) AllReadyH.nil
      refine step_append_pk1 rfl (.tmp 157) (.tmp 159) rfl 0 (.slice aa nn cc) (r.h.all.zip r.vs) rfl hown p a L c rfl hlen (Nat.zero_le _) ?_
      intro g2 cap2 w7 own7 grow7 at7
      rw [HZL.out] at own7 ⊢
      have k7 := (grown_cell (wr := w6) ⟨1, rfl⟩ grow7 (q := ⟨g, m * 11 + 10, none⟩) hgl6 nG.out).1.trans k10
      have z7 := (grown_cell (wr := w6) ⟨1, rfl⟩ grow7 (q := ⟨g, m * 11 + 10, none⟩) hgl6 nG.out).2.trans z106
      refine hK.out _ _ ⟨(grown_cell (wr := w6) ⟨1, rfl⟩ grow7 (q := ⟨pb, 2, none⟩) hp6 nP.out).1.trans q2, (grown_cell (wr := w6) ⟨1, rfl⟩ grow7 (q := ⟨w.heap.size, 0, none⟩) hx6 nX.out).1.trans x0, (grown_cell (wr := w6) ⟨1, rfl⟩ grow7 (q := ⟨w.heap.size, 1, none⟩) hx6 nX.out).1.trans x1, (grown_cell (wr := w6) ⟨1, rfl⟩ grow7 (q := ⟨w.heap.size, 2, none⟩) hx6 nX.out).1.trans x2, (grown_cell (wr := w6) ⟨1, rfl⟩ grow7 (q := ⟨w.heap.size, 3, none⟩) hx6 nX.out).1.trans x3, (grown_cell (wr := w6) ⟨1, rfl⟩ grow7 (q := ⟨w.heap.size, 4, none⟩) hx6 nX.out).1.trans x4, (grown_cell (wr := w6) ⟨1, rfl⟩ grow7 (q := ⟨w.heap.size, 5, none⟩) hx6 nX.out).1.trans x5, (grown_cell (wr := w6) ⟨1, rfl⟩ grow7 (q := ⟨w.heap.size, 6, none⟩) hx6 nX.out).1.trans x6, (grown_cell (wr := w6) ⟨1, rfl⟩ grow7 (q := ⟨w.heap.size, 7, none⟩) hx6 nX.out).1.trans x7⟩ (fun hHeld => ?_)
      clear hK K
      simp only [List.getElem_toArray, List.getElem_cons_succ, List.getElem_cons_zero, Act.put, List.setIfInBounds_toArray, List.set_cons_zero, List.set_cons_succ]
      refine wpAnyH_take (i := 16) (v := ?_) rfl (by kernel_rfl) (by kernel_rfl) (by kernel_rfl) (fun _ _ _ h => h) (Or.inl ⟨by rfl, ?_⟩) (by assumption) ?_
      rotate_left
      · intro w hSw
        try dsimp only at hSw
        go_simp
        try with_reducible rfl
      try simp only [Act.put]
      refine wpAnyH_take (i := 17) (v := ?_) rfl (by kernel_rfl) (by kernel_rfl) (by kernel_rfl) (fun _ _ _ h => h) (Or.inl ⟨by rfl, ?_⟩) (by assumption) ?_
      rotate_left
      · intro w hSw
        try dsimp only at hSw
        go_simp
        try with_reducible rfl
      try simp only [Act.put]
      refine wpAnyH_ready (rs := [18]) (by kernel_rfl) (by simp) ?_
      refine AllReadyH.cons rfl (fun K hK => ?_) AllReadyH.nil
      go_simp
      refine hK.out _ _ (s27_set hpg hgw hHeld) (fun hHeld => ?_)
      clear hK K
      refine wpAnyH_done (by kernel_rfl) ?_ _
      try simp only [Act.put, List.setIfInBounds_toArray, List.set_cons_zero, List.set_cons_succ]
      go_wp2_with fail
      go_meet
      case rel => exact ⟨g2, zl + 1, cap2, rfl, (by rw [Hid, ← HZL.out, List.length_zip, ((HS6.out.pool.rok (List.mem_append_right A (List.mem_cons_self (a := r) (l := B)))).all HBDr.out).2]; simp), (by have := HS6.out.toMore HBDr.out HWRr.out HE.out HF.out HNEW.out.1 HNEW.out.2 HB0.out ⟨1, rfl⟩ own7 (by rw [HAV.out]; exact grow7) (by rw [HAV.out]; exact at7); rw [HM.out] at this; exact this)⟩
  case rest =>
    obtain ⟨g2, n2, cap2, hv2, HN2, HK⟩ := hcut
    subst hv2
    have HIS := hidR HS6.out.is
    have HDEL := hidR HS6.out.del
    have HNMD := hidR HS6.out.named
    go_step
    exact radd_t28 w0 F pb s p a L c now w Q HE.out HTE.out HNW.out HX4.out HF.out HNEW.out HQ.out A r B g cap M m g2 n2 cap2 wc _ (by kernel_rfl) HIS.out HBDr.out HWRr.out HDEL.out HNMD.out HM.out HMM.out hMc hcc hM8 HN2.out HK.out _ _ _ _ _ _ _ _ _ _ _ _ _ _ _ _ _ _ _ _ _ _ _ _ _ _ _ _ _ _ _ _ _ _ _ _ _ _ _ _ _ _ _ _ _ _ _ _ _ _ _ _ _ _ _ _ _ _ _ _ _ _ _ _ _ _ _ _ _ _ _ _ _ _ _ _ _ _ _ _ _ _ _ _ _ _ _ _ _ _ _ _ _ _ _ _ _ _ _ _ _ _ _ _ _ _ _ _ _ _ _ _ _ _ _ _ _ _ _ _ _ _ _ _ _ _ _ _ _ _ _ _ _ _ _ _ _ _ _ _ _ _ _ _ _ _ _ _ _ _ _ _ _ _ _ _ _ _ _ _ _ _ _ _ _ _ _ _ _ _ _ _ _ _ _ _ _ _ _ _ _ _ _ _ _ _ _ _ _ _ _ _ _ _ _ _ _ _ _ _ _ _ _ _ _ _ _ _ _ _ _ _ _ _ _ _ _ _ _ _ _ _ _ _ _ _ _ _ _ _ _ _ _ _ _ _ _ _ _ _ _ _ _ _ _ _ _ _ _ _ 
end Go.Proofs.YtgodjaffmojhlaaDoor
