/- SyncHears: where the law stands; a note is told. -/
import Derived.Test.YtkkefgoidjjehaaDoorSynKo
import Derived.Deep.CutRange
import Derived.Deep.CutBlock
import Derived.Deep.LoopGhost
namespace Go.Proofs.YtkkefgoidjjehaaDoor
open Go.RowKit Go.Maps
set_option linter.unusedVariables false

theorem hidO {p : Prop} (h : p) : Hid p := h
/-- Where the blocks of the teller and of the hearer lie. -/
structure HrO (w : World) (bt mt bh mh : Nat) : Prop where
  o1 : w.heap.size ≤ bt
  o2 : w.heap.size ≤ mt
  o3 : w.heap.size ≤ bh
  o4 : w.heap.size ≤ mh
  d1 : bt ≠ bh
  d2 : bt ≠ mh
  d3 : mt ≠ bh
  d4 : mt ≠ mh
/-- A teller and a hearer. -/
structure HrS (w : World) (now h n : Nat) (ds : Nat → Nat) (s : Nat) (Wt : List Nat) (bt mt bh mh : Nat) (X : World) : Prop where
  tl : TlAt X bt mt now h n ds
  he : HeAt nK X bh mh s Wt
  bel : Below w.heap.size w X
section
variable {w X X' : World} {now h n s now' h' n' s' : Nat} {ds ds' : Nat → Nat} {Wt Wt' : List Nat} {bt mt bh mh : Nat}
theorem HrS.below (k : HrS w now h n ds s Wt bt mt bh mh X) (b : Below X.heap.size X X') : HrS w now h n ds s Wt bt mt bh mh X' :=
  ⟨k.tl.below b, k.he.below (Nat.le_refl _) b, k.bel.trans (b.mono k.bel.size)⟩
theorem HeAt.turn {ν : Nat → Nt} {F : Nat → Prop} {b m : Nat} (k : HeAt ν X b m s Wt) (t : Turn F X X') (h1 : ¬ F b) (h2 : ¬ F m) : HeAt ν X' b m s Wt := ⟨(t.block b k.lt h1).trans k.1, k.2.block (t.block m k.2.lt h2)⟩
theorem HrS.setT (k : HrS w now h n ds s Wt bt mt bh mh X) (o : HrO w bt mt bh mh) (k' : TlAt X' bt mt now' h' n' ds') (t : Turn (Bth bt mt) X X') : HrS w now' h' n' ds' s Wt bt mt bh mh X' :=
  ⟨k', k.he.turn t (fun e => e.elim (fun e => o.d1 e.symm) (fun e => o.d3 e.symm)) (fun e => e.elim (fun e => o.d2 e.symm) (fun e => o.d4 e.symm)), t.below k.bel k.bel.size (fun i hi => by rcases hi with rfl | rfl; exact o.o1; exact o.o2)⟩
theorem HrS.setH (k : HrS w now h n ds s Wt bt mt bh mh X) (o : HrO w bt mt bh mh) (k' : HeAt nK X' bh mh s' Wt') (t : Turn (Two bh mh) X X') : HrS w now h n ds s' Wt' bt mt bh mh X' :=
  ⟨k.tl.turn t (fun e => e.elim (fun e => o.d1 e) (fun e => o.d2 e)) (fun e => e.elim (fun e => o.d3 e) (fun e => o.d4 e)), k', t.below k.bel k.bel.size (fun i hi => by rcases hi with rfl | rfl; exact o.o3; exact o.o4)⟩
end
/-- The block of a number. -/
def blkAt (n : Nat) : Code → Option Code
  | .seq a b => match blkAt n a with
    | some c => some c
    | none => blkAt n b
  | .loop a => blkAt n a
  | .block m a => match Nat.beq m n with
    | true => some (.block m a)
    | false => blkAt n a
  | .cond _ a b => match blkAt n a with
    | some c => some c
    | none => blkAt n b
  | _ => none
noncomputable def hrBlk (n : Nat) : Code := (blkAt n (Tryd.f4.body.getD .skip)).getD .skip
set_option maxRecDepth 100000 in
set_option maxHeartbeats 32000000 in
theorem hr_tell (w W0 : World) (i s : Nat) (Wt : List Nat) (bt mt bh mh : Nat) (K : Act → World → Prop) (E : Exit → Act → World → Prop) (C : Code) (hC : C = hrBlk 1)
    (HO : Hid (HrO w bt mt bh mh)) (HS : Hid (HrS w 0 0 i (fun _ => 0) s Wt bt mt bh mh W0)) (HL : Hid (∀ W, Below w.heap.size w W → Lives W)) (hi : i ≤ 40)
    (v0 v1 v2 v3 v4 v5 v6 v7 v8 v9 v11 v12 v14 v15 v16 v17 v18 v19 v20 v21 v22 v23 v24 v25 v26 v27 v28 v29 v30 v31 v32 v33 v34 v35 v36 v37 v38 v39 v40 v41 v42 v43 v44 v45 v46 v47 v48 v49 v50 v51 v52 v53 v54 v55 v56 v57 v58 v59 v60 v61 v62 v63 v64 v65 v66 v67 v68 v69 v70 v71 v72 v73 v74 v75 v76 v77 v78 v79 v80 v81 v82 v83 v84 v85 v86 v87 v88 v89 v90 v91 v92 v93 v94 v95 v96 v97 v98 v99 v100 v101 v102 v103 v104 v105 v106 v107 v108 v109 v110 v111 v112 v113 v114 v115 v116 v117 v118 v119 v120 v121 v122 v123 v124 v125 v126 v127 v128 v129 v130 v131 v132 v133 v134 v135 v136 v137 v138 v139 v140 v141 v142 v143 v144 v145 v146 v147 v148 v149 v150 v151 v152 v153 v154 v155 v156 v157 v158 v159 v160 v161 v162 v163 v164 v165 v166 v167 v168 v169 v170 v171 v172 v173 v174 v175 v176 v177 v178 v179 v180 v181 v182 v183 v184 v185 v186 v187 v188 v189 v190 v191 v192 v193 v194 v195 v196 v197 v198 v199 v200 v201 v202 v203 v204 v205 v206 v207 v208 v209 v210 v211 v212 v213 v214 v215 v216 v217 v218 v219 v220 v221 v222 v223 v224 v225 v226 v227 v228 v229 v230 v231 v232 v233 v234 v235 v236 v237 v238 v239 v240 v241 v242 v243 v244 v245 v246 v247 v248 v249 v250 v251 v252 v253 v254 v255 v256 v257 v258 v259 : Value)
    (hK : ∀ (W9 : World) (u14 u15 u16 u92 u93 u94 u95 u96 u97 u98 u99 u100 u101 u102 u103 u104 u105 u106 u107 u108 u109 : Value), HrS w 0 0 (i + 1) (fun _ => 0) s Wt bt mt bh mh W9 → K { tmps := #[v0, v1, v2, v3, v4, v5, v6, v7, v8, v9, .pointer (some ⟨bt, 0, none⟩), v11, v12, .int .i64 (i : Int), u14, u15, u16, v17, v18, v19, v20, v21, v22, v23, v24, v25, v26, v27, v28, v29, v30, v31, v32, v33, v34, v35, v36, v37, v38, v39, v40, v41, v42, v43, v44, v45, v46, v47, v48, v49, v50, v51, v52, v53, v54, v55, v56, v57, v58, v59, v60, v61, v62, v63, v64, v65, v66, v67, v68, v69, v70, v71, v72, v73, v74, v75, v76, v77, v78, v79, v80, v81, v82, v83, v84, v85, v86, v87, v88, v89, v90, v91, u92, u93, u94, u95, u96, u97, u98, u99, u100, u101, u102, u103, u104, u105, u106, u107, u108, u109, v110, v111, v112, v113, v114, v115, v116, v117, v118, v119, v120, v121, v122, v123, v124, v125, v126, v127, v128, v129, v130, v131, v132, v133, v134, v135, v136, v137, v138, v139, v140, v141, v142, v143, v144, v145, v146, v147, v148, v149, v150, v151, v152, v153, v154, v155, v156, v157, v158, v159, v160, v161, v162, v163, v164, v165, v166, v167, v168, v169, v170, v171, v172, v173, v174, v175, v176, v177, v178, v179, v180, v181, v182, v183, v184, v185, v186, v187, v188, v189, v190, v191, v192, v193, v194, v195, v196, v197, v198, v199, v200, v201, v202, v203, v204, v205, v206, v207, v208, v209, v210, v211, v212, v213, v214, v215, v216, v217, v218, v219, v220, v221, v222, v223, v224, v225, v226, v227, v228, v229, v230, v231, v232, v233, v234, v235, v236, v237, v238, v239, v240, v241, v242, v243, v244, v245, v246, v247, v248, v249, v250, v251, v252, v253, v254, v255, v256, v257, v258, v259], defers := [] } W9) :
    Code.wp Tryd.prog C (Exit.then K E) { tmps := #[v0, v1, v2, v3, v4, v5, v6, v7, v8, v9, .pointer (some ⟨bt, 0, none⟩), v11, v12, .int .i64 (i : Int), v14, v15, v16, v17, v18, v19, v20, v21, v22, v23, v24, v25, v26, v27, v28, v29, v30, v31, v32, v33, v34, v35, v36, v37, v38, v39, v40, v41, v42, v43, v44, v45, v46, v47, v48, v49, v50, v51, v52, v53, v54, v55, v56, v57, v58, v59, v60, v61, v62, v63, v64, v65, v66, v67, v68, v69, v70, v71, v72, v73, v74, v75, v76, v77, v78, v79, v80, v81, v82, v83, v84, v85, v86, v87, v88, v89, v90, v91, v92, v93, v94, v95, v96, v97, v98, v99, v100, v101, v102, v103, v104, v105, v106, v107, v108, v109, v110, v111, v112, v113, v114, v115, v116, v117, v118, v119, v120, v121, v122, v123, v124, v125, v126, v127, v128, v129, v130, v131, v132, v133, v134, v135, v136, v137, v138, v139, v140, v141, v142, v143, v144, v145, v146, v147, v148, v149, v150, v151, v152, v153, v154, v155, v156, v157, v158, v159, v160, v161, v162, v163, v164, v165, v166, v167, v168, v169, v170, v171, v172, v173, v174, v175, v176, v177, v178, v179, v180, v181, v182, v183, v184, v185, v186, v187, v188, v189, v190, v191, v192, v193, v194, v195, v196, v197, v198, v199, v200, v201, v202, v203, v204, v205, v206, v207, v208, v209, v210, v211, v212, v213, v214, v215, v216, v217, v218, v219, v220, v221, v222, v223, v224, v225, v226, v227, v228, v229, v230, v231, v232, v233, v234, v235, v236, v237, v238, v239, v240, v241, v242, v243, v244, v245, v246, v247, v248, v249, v250, v251, v252, v253, v254, v255, v256, v257, v258, v259], defers := [] } W0 := by
  subst hC
  conv =>
    arg 2
    unfold hrBlk
    unfold Tryd.f4
    simp only [Option.getD_some, blkAt]
  conv =>
    arg 4
    zeta
  simp (maxSteps := 10000000) only at hK
  have HK := hidO hK
  clear hK
  have q1 := skeyOf_any i W0 (by omega)
  have HQ : Hid (∀ W, HrS w 0 0 i (fun _ => 0) s Wt bt mt bh mh W → Calls Tryd.prog 13 #[.pointer (some ⟨bt, 0, none⟩), .agg #[.int .i64 2, .int .i64 0, .int .i64 (1 + (i : Int) % 3), .int .i64 (10 + (i : Int) % 5), .int .i64 7, .int .i64 (20 - (i : Int) % 3), .int .i64 7, .int .i64 0, .int .i64 0, .int .i64 0, .int .i64 0, .int .i64 0, .int .i64 0, .int .i64 0, .bool false, .bool false, .int .i64 0], .int .i64 0] W fun e w' => e = .returned (.tuple #[.int .i64 ((i : Int) + 1), .nilIface]) ∧ TlAt w' bt mt 0 0 (i + 1) (fun _ => 0) ∧ Turn (Bth bt mt) W w') := fun W hW => tlTell_any bt mt 0 0 i (fun _ => 0) W hW.tl (Nat.zero_le _) (by omega) (by omega) rfl (HL.out W hW.bel)
  have i1 : (0 : Int) ≤ (i : Int) := by omega
  have i2 : (i : Int) ≤ 40 := by omega
  generalize (1 + (i : Int) % 3) = x1 at q1 HQ
  generalize (10 + (i : Int) % 5) = x2 at q1 HQ
  generalize (20 - (i : Int) % 3) = x3 at q1 HQ
  go_upto_region 16 with (go_at_call 12; go_must ((with_reducible refine q1.mono ?_); rintro e W1 ⟨rfl, b1⟩))
  have HS1 := hidO (HS.out.below b1)
  have kk := heap_alloc_new W1 (.cells #[.int .i64 x1, .int .i64 x2, .int .i64 7, .int .i64 x3, .int .i64 7] 23)
  have HS2 := hidO (HS1.out.below ((Below.refl W1.heap.size W1).alloc (Nat.le_refl _) (.cells #[.int .i64 x1, .int .i64 x2, .int .i64 7, .int .i64 x3, .int .i64 7] 23)))
  obtain ⟨W2, hW2⟩ : ∃ W2, W1.alloc (.cells #[.int .i64 x1, .int .i64 x2, .int .i64 7, .int .i64 x3, .int .i64 7] 23) = W2 := ⟨_, rfl⟩
  obtain ⟨Kb, hKb⟩ : ∃ Kb, W1.heap.size = Kb := ⟨_, rfl⟩
  rw [hW2] at kk HS2
  rw [hKb] at kk
  simp only [hW2, hKb]
  have c0 : W2.cell? ⟨Kb, 0, none⟩ = some (.int .i64 x1) := by rw [cell_of_row W2 _ _ _ _ _ kk]; rfl
  have c1 : W2.cell? ⟨Kb, 1, none⟩ = some (.int .i64 x2) := by rw [cell_of_row W2 _ _ _ _ _ kk]; rfl
  have c2 : W2.cell? ⟨Kb, 2, none⟩ = some (.int .i64 7) := by rw [cell_of_row W2 _ _ _ _ _ kk]; rfl
  have c3 : W2.cell? ⟨Kb, 3, none⟩ = some (.int .i64 x3) := by rw [cell_of_row W2 _ _ _ _ _ kk]; rfl
  have c4 : W2.cell? ⟨Kb, 4, none⟩ = some (.int .i64 7) := by rw [cell_of_row W2 _ _ _ _ _ kk]; rfl
  have q2 := HQ.out W2 HS2.out
  clear kk hW2 hKb b1 q1 HS HS1 HQ
  go_upto_region 17 with (go_at_call 13; go_must ((with_reducible refine q2.mono ?_); rintro e W3 ⟨rfl, k3, t3⟩))
  have HF := hidO (HS2.out.setT HO.out k3 t3)
  clear k3 t3 q2 c0 c1 c2 c3 c4 HS2
  go_wp2_with fail
  exact HK.out _ _ _ _ _ _ _ _ _ _ _ _ _ _ _ _ _ _ _ _ _ _ HF.out
end Go.Proofs.YtkkefgoidjjehaaDoor
