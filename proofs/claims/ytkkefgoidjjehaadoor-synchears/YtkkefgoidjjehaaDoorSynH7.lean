/- SyncHears: a round (block 3). -/
import Derived.Test.YtkkefgoidjjehaaDoorSynH6
namespace Go.Proofs.YtkkefgoidjjehaaDoor
open Go.RowKit Go.Maps
set_option linter.unusedVariables false

theorem own_keepT {X X' : World} {base bt mt now h n : Nat} {ds : Nat → Nat} {v : Value} {ns : List Nt} (k0 : OwnNt X base v ns) (k : TlAt X bt mt now h n ds) (t : Turn (Bth bt mt) X X') : OwnNt X' base v ns :=
  OwnN.blk k0 (fun q hq => t.block q (OwnN.block k0 q hq).2 (fun e => by
    rcases e with rfl | rfl
    · exact own_not k0 k.1 (by decide) hq
    · obtain ⟨_, h1⟩ := k0
      rcases h1 with ⟨rfl, _⟩ | ⟨g, cap, cur, rfl, _, hh, _⟩
      · cases hq
      · simp only [Value.ownBlock, Option.some.injEq] at hq
        subst hq
        exact k.2.not_cells hh))
/-- 'append' of a row of notes. -/
theorem wpList_append_nts {w : World} {ops : Array Oper} {rest : List Oper} {o : Oper} {a : Act} {Q : Exit → Act → World → Prop} (hgd : o.guard = none) (s x : Operand)
    (ho : o.op = .call { callee := .builtin .append, args := #[s, x], argTypes := #[42, 42] })
    (base : Nat) (v : Value) (fs : List Nt) (hs : a.eval s = v) (hown : OwnNt w base v fs) (b2 : Nat) (vx : Value) (qs : List Nt) (hx : a.eval x = vx) (hsrc : OwnNt w b2 vx qs)
    (hlen : fs.length + qs.length ≤ 1000000) (hbase : base ≤ w.heap.size)
    (h : ∀ v' w', OwnNt w' base v' (fs ++ qs) → w.grownBy w' v.ownBlock → wpList Tryd.prog ops Q rest (a.put o.dst v') w') : wpList Tryd.prog ops Q (o :: rest) a w := by
  obtain ⟨i0, hi, hz0, hz1, hz2⟩ := info_parts Tryd.infoNt
  refine wpList_append_view (enc := ntRow) (xs := fs) (base := base) (v := v) hgd s x 42 ho i0 _ 128 Tryd.underlying42 hi hz0 hz1 hz2 rfl (by decide) (fun _ => rfl) ?_ hs hown vx qs hx (OwnN.view hsrc) (by unfold maxLen; omega) (by omega) hbase h
  intro f u hu
  simp only [ntRow, List.mem_cons, List.not_mem_nil, or_false] at hu
  rcases hu with rfl | rfl | rfl | rfl | rfl | rfl | rfl | rfl | rfl | rfl | rfl | rfl | rfl | rfl | rfl | rfl | rfl <;> rfl
set_option maxRecDepth 100000 in
set_option maxHeartbeats 32000000 in
theorem hr_round3 (w W0 : World) (t0 h n s i LN ca ge oe NE ce : Nat) (ao an : Option Addr) (cn : Nat) (zs : List Int) (ds : Nat → Nat) (Wt : List Nat) (bt mt bh mh : Nat) (L : List Nat) (K : Act → World → Prop) (E : Exit → Act → World → Prop) (C : Code) (hC : C = hrBlk 3)
    (HO : Hid (HrO w bt mt bh mh)) (HS : Hid (HrS w t0 h n ds s Wt bt mt bh mh W0)) (HL : Hid (∀ W, Below w.heap.size w W → Lives W)) (HW : Hid (OwnNt W0 w.heap.size (.slice ao LN ca) (L.map nK))) (HN : Hid (L.length = LN)) (HJ : Hid (∀ j ∈ L, 1 ≤ j ∧ j ≤ n)) (hn : n ≤ 100) (HOK : Hid (HOk n s Wt)) (hhs : h ≤ s) (ht : t0 ≤ i) (hi : i ≤ 100) (HDB : Hid (∀ j, ds j ≤ 2000)) (hWt : Wt.length ≤ 2900) (hLN : LN ≤ 4800) (HNZ : Hid (Numz w (.slice an zs.length cn) zs)) (HC0 : Hid (∀ X', Below w.heap.size w X' → X'.cell? ⟨ge, oe + i, none⟩ = some (.slice an zs.length cn))) (hi1 : (i : Int) < (NE : Int)) (hgc : NE ≤ ce) (hgm : ce ≤ maxLen)
    (v0 v2 v3 v4 v5 v6 v7 v8 v9 v11 v13 v14 v15 v16 v20 v21 v22 v23 v24 v25 v26 v27 v28 v29 v30 v31 v32 v33 v34 v35 v36 v37 v38 v39 v40 v41 v42 v43 v44 v45 v46 v47 v48 v49 v50 v51 v52 v53 v54 v55 v56 v57 v58 v59 v60 v61 v62 v63 v64 v65 v66 v67 v68 v69 v70 v71 v72 v73 v74 v75 v76 v77 v78 v79 v80 v81 v82 v83 v84 v85 v86 v87 v88 v89 v90 v91 v92 v93 v94 v95 v96 v97 v98 v99 v100 v101 v102 v103 v104 v105 v106 v107 v108 v109 v110 v111 v112 v113 v114 v115 v116 v117 v118 v119 v120 v121 v122 v123 v124 v125 v126 v127 v128 v129 v130 v131 v132 v133 v134 v135 v136 v137 v138 v139 v140 v141 v142 v143 v144 v145 v146 v147 v148 v149 v150 v151 v152 v153 v154 v155 v156 v157 v158 v159 v160 v161 v162 v163 v164 v165 v166 v167 v168 v169 v170 v171 v172 v173 v174 v175 v176 v177 v178 v179 v180 v181 v182 v183 v184 v185 v186 v187 v188 v189 v190 v191 v192 v193 v194 v195 v196 v197 v198 v199 v200 v201 v202 v203 v204 v205 v206 v207 v208 v209 v210 v211 v212 v213 v214 v215 v216 v217 v218 v219 v220 v221 v222 v223 v224 v225 v226 v227 v228 v229 v230 v231 v232 v233 v234 v235 v236 v237 v238 v239 v240 v241 v242 v243 v244 v245 v246 v247 v248 v249 v250 v251 v252 v253 v254 v255 v256 v257 v258 v259 : Value)
    (hK : ∀ (s9 h9 c9 : Nat) (a9 : Option Addr) (Wt9 L9 : List Nat) (W9 : World) (u4 u20 u21 u22 u23 u24 u25 u26 u120 u121 u122 u123 u124 u125 u126 u127 u128 u129 u130 u131 u132 u133 u134 u135 u136 u137 u138 u139 u140 u141 u142 u143 u144 u145 u146 u147 u148 u149 u150 u151 u152 u153 u154 u155 u156 u157 u158 u159 u160 u161 u162 u163 u164 u165 u166 u167 u168 u169 u170 u171 u172 u173 u174 u175 u176 u177 u178 u179 u180 u181 u182 u183 u184 u185 u186 u187 u188 u189 u190 u191 u192 u193 u194 u195 u196 u197 u198 u199 u200 u201 u202 u203 u204 u205 u206 : Value), HOk n s9 Wt9 → h9 ≤ s9 → Wt9.length ≤ Wt.length + 8 → HrS w i h9 n (dsN i ds) s9 Wt9 bt mt bh mh W9 → OwnNt W9 w.heap.size (.slice a9 L9.length c9) (L9.map nK) → L9.length ≤ LN + 100 → (∀ j ∈ L9, 1 ≤ j ∧ j ≤ n) → K { tmps := #[v0, .slice (some ⟨ge, oe, none⟩) NE ce, v2, v3, u4, v5, v6, v7, v8, v9, .pointer (some ⟨bt, 0, none⟩), v11, .pointer (some ⟨bh, 0, none⟩), v13, v14, v15, v16, .int .i64 (s9 : Int), .slice a9 L9.length c9, .int .i64 (i : Int), u20, u21, u22, u23, u24, u25, u26, v27, v28, v29, v30, v31, v32, v33, v34, v35, v36, v37, v38, v39, v40, v41, v42, v43, v44, v45, v46, v47, v48, v49, v50, v51, v52, v53, v54, v55, v56, v57, v58, v59, v60, v61, v62, v63, v64, v65, v66, v67, v68, v69, v70, v71, v72, v73, v74, v75, v76, v77, v78, v79, v80, v81, v82, v83, v84, v85, v86, v87, v88, v89, v90, v91, v92, v93, v94, v95, v96, v97, v98, v99, v100, v101, v102, v103, v104, v105, v106, v107, v108, v109, v110, v111, v112, v113, v114, v115, v116, v117, v118, v119, u120, u121, u122, u123, u124, u125, u126, u127, u128, u129, u130, u131, u132, u133, u134, u135, u136, u137, u138, u139, u140, u141, u142, u143, u144, u145, u146, u147, u148, u149, u150, u151, u152, u153, u154, u155, u156, u157, u158, u159, u160, u161, u162, u163, u164, u165, u166, u167, u168, u169, u170, u171, u172, u173, u174, u175, u176, u177, u178, u179, u180, u181, u182, u183, u184, u185, u186, u187, u188, u189, u190, u191, u192, u193, u194, u195, u196, u197, u198, u199, u200, u201, u202, u203, u204, u205, u206, v207, v208, v209, v210, v211, v212, v213, v214, v215, v216, v217, v218, v219, v220, v221, v222, v223, v224, v225, v226, v227, v228, v229, v230, v231, v232, v233, v234, v235, v236, v237, v238, v239, v240, v241, v242, v243, v244, v245, v246, v247, v248, v249, v250, v251, v252, v253, v254, v255, v256, v257, v258, v259], defers := [] } W9) :
    Code.wp Tryd.prog C (Exit.then K E) { tmps := #[v0, .slice (some ⟨ge, oe, none⟩) NE ce, v2, v3, v4, v5, v6, v7, v8, v9, .pointer (some ⟨bt, 0, none⟩), v11, .pointer (some ⟨bh, 0, none⟩), v13, v14, v15, v16, .int .i64 (s : Int), .slice ao LN ca, .int .i64 (i : Int), v20, v21, v22, v23, v24, v25, v26, v27, v28, v29, v30, v31, v32, v33, v34, v35, v36, v37, v38, v39, v40, v41, v42, v43, v44, v45, v46, v47, v48, v49, v50, v51, v52, v53, v54, v55, v56, v57, v58, v59, v60, v61, v62, v63, v64, v65, v66, v67, v68, v69, v70, v71, v72, v73, v74, v75, v76, v77, v78, v79, v80, v81, v82, v83, v84, v85, v86, v87, v88, v89, v90, v91, v92, v93, v94, v95, v96, v97, v98, v99, v100, v101, v102, v103, v104, v105, v106, v107, v108, v109, v110, v111, v112, v113, v114, v115, v116, v117, v118, v119, v120, v121, v122, v123, v124, v125, v126, v127, v128, v129, v130, v131, v132, v133, v134, v135, v136, v137, v138, v139, v140, v141, v142, v143, v144, v145, v146, v147, v148, v149, v150, v151, v152, v153, v154, v155, v156, v157, v158, v159, v160, v161, v162, v163, v164, v165, v166, v167, v168, v169, v170, v171, v172, v173, v174, v175, v176, v177, v178, v179, v180, v181, v182, v183, v184, v185, v186, v187, v188, v189, v190, v191, v192, v193, v194, v195, v196, v197, v198, v199, v200, v201, v202, v203, v204, v205, v206, v207, v208, v209, v210, v211, v212, v213, v214, v215, v216, v217, v218, v219, v220, v221, v222, v223, v224, v225, v226, v227, v228, v229, v230, v231, v232, v233, v234, v235, v236, v237, v238, v239, v240, v241, v242, v243, v244, v245, v246, v247, v248, v249, v250, v251, v252, v253, v254, v255, v256, v257, v258, v259], defers := [] } W0 := by
  subst hC
  conv =>
    arg 2
    unfold hrBlk
    unfold Tryd.f4
    simp only [Option.getD_some, blkAt]
  conv =>
    arg 4
    zeta
  simp (maxSteps := 10000000) only at hK
  have HK := hidO hK
  clear hK
  have hsn := HOK.out.1
  have q1 := tlDue_any bt mt t0 h n i ds W0 HS.out.tl (by omega) hn ht (by omega) HDB.out
  have hll : (dueJ h n i ds).length ≤ 100 := by
    unfold dueJ
    exact Nat.le_trans (List.length_filter_le _ _) (by simp; omega)
  go_upto_region 25 with (go_at_call 14; go_must ((with_reducible refine q1.mono ?_); rintro e W1 ⟨v1, rfl, ow1, k1, t1⟩))
  have HS1 := hidO (HS.out.setT HO.out k1 t1)
  have ow0 : OwnNt W1 w.heap.size (.slice ao LN ca) (L.map nK) := own_keepT HW.out HS.out.tl t1
  have hbs : w.heap.size ≤ W1.heap.size := HS1.out.bel.size
  have hl2 : (L.map nK).length + ((dueJ h n i ds).map nK).length ≤ 1000000 := by
    rw [List.length_map, List.length_map, HN.out]; omega
  have HJ2 : Hid (∀ j ∈ L ++ dueJ h n i ds, 1 ≤ j ∧ j ≤ n) := fun j hj => by
    rcases List.mem_append.1 hj with h1 | h1
    · exact HJ.out j h1
    · have := mem_dueJ.1 h1; omega
  have HLL : Hid ((L ++ dueJ h n i ds).length ≤ LN + 100) := by show _ ≤ _; rw [List.length_append, HN.out]; omega
  have HOL : Hid (∀ k, (Value.slice ao LN ca).ownBlock = some k → (k ≠ bt ∧ k ≠ mt ∧ k ≠ bh ∧ k ≠ mh) ∧ w.heap.size ≤ k) := fun k hk => by
    have hne : ∀ m (l : List (Lit × Value)), MapIs Tryd.prog 3 W1 m l → k ≠ m := fun m l hm e => by
      obtain ⟨_, h1⟩ := ow0
      rcases h1 with ⟨e1, _⟩ | ⟨g, cap, cur, e1, _, hh, _⟩
      · rw [e1] at hk; cases hk
      · rw [e1] at hk
        simp only [Value.ownBlock, Option.some.injEq] at hk
        subst hk
        exact (e ▸ hm).not_cells hh
    exact ⟨⟨fun e => own_not ow0 HS1.out.tl.1 (by decide) (e ▸ hk), hne mt _ HS1.out.tl.2, fun e => own_not ow0 HS1.out.he.1 (by decide) (e ▸ hk), hne mh _ HS1.out.he.2⟩, (OwnN.block ow0 k hk).1⟩
  clear q1 k1 t1 HS HW HJ HDB
  go_upto_region 27 with fail
  go_upto_region 28 with (at_builtin; go_must (refine wpList_append_nts rfl (.tmp 128) (.tmp 129) rfl w.heap.size _ (L.map nK) rfl ow0 W0.heap.size _ ((dueJ h n i ds).map nK) rfl ow1 hl2 hbs ?_; intro v2 W2 own2 gr2))
  rw [← List.map_append] at own2
  have HS2 : Hid (HrS w i h n (dsN i ds) s Wt bt mt bh mh W2) := by
    have k := HS1.out
    have hb : ∀ q, q < W1.heap.size → (∀ e : (Value.slice ao LN ca).ownBlock = some q, False) → W2.heap[q]? = W1.heap[q]? := fun q h1 h2 => gr2.block q h1 (fun e => h2 e.symm)
    refine ⟨k.tl.blk (hb bt k.tl.lt (fun e => (HOL.out bt e).1.1 rfl)) (hb mt k.tl.2.lt (fun e => (HOL.out mt e).1.2.1 rfl)), ⟨(hb bh k.he.lt (fun e => (HOL.out bh e).1.2.2.1 rfl)).trans k.he.1, k.he.2.block (hb mh k.he.2.lt (fun e => (HOL.out mh e).1.2.2.2 rfl))⟩, k.bel.trans ⟨gr2.os, gr2.tape, gr2.output, gr2.size, fun q hq => ?_⟩⟩
    exact gr2.block q (Nat.lt_of_lt_of_le hq k.bel.size) (fun e => by have := (HOL.out q e.symm).2; omega)
  obtain ⟨L2, hL2⟩ : ∃ L2, L ++ dueJ h n i ds = L2 := ⟨_, rfl⟩
  rw [hL2] at own2 HJ2 HLL
  obtain ⟨a2, c2, rfl⟩ := OwnN.len own2
  obtain ⟨LN2, hLN2⟩ : ∃ LN2, L2.length = LN2 := ⟨_, rfl⟩
  have HN2 : Hid (L2.length = LN2) := hLN2
  have HW2 : Hid (OwnNt W2 w.heap.size (.slice a2 LN2 c2) (L2.map nK)) := by
    have e := own2
    rw [List.length_map, hLN2] at e
    exact e
  have hl3 : LN2 ≤ LN + 100 := by rw [← hLN2]; exact HLL.out
  rw [List.length_map, hLN2]
  clear own2 gr2 ow0 ow1 hL2 hLN2 HOL HS1 hl2 hbs HN hll HLL
  go_upto_block 4 with fail
  refine hr_row w W2 i h n s i LN2 c2 ge oe NE ce a2 an cn zs (dsN i ds) Wt bt mt bh mh L2 _ _ _ (by kernel_rfl) HO HS2 HL HW2 HN2 HJ2 hn HOK (by omega) (by omega) HNZ HC0 hi1 hgc hgm _ _ _ _ _ _ _ _ _ _ _ _ _ _ _ _ _ _ _ _ _ _ _ _ _ _ _ _ _ _ _ _ _ _ _ _ _ _ _ _ _ _ _ _ _ _ _ _ _ _ _ _ _ _ _ _ _ _ _ _ _ _ _ _ _ _ _ _ _ _ _ _ _ _ _ _ _ _ _ _ _ _ _ _ _ _ _ _ _ _ _ _ _ _ _ _ _ _ _ _ _ _ _ _ _ _ _ _ _ _ _ _ _ _ _ _ _ _ _ _ _ _ _ _ _ _ _ _ _ _ _ _ _ _ _ _ _ _ _ _ _ _ _ _ _ _ _ _ _ _ _ _ _ _ _ _ _ _ _ _ _ _ _ _ _ _ _ _ _ _ _ _ _ _ _ _ _ _ _ _ _ _ _ _ _ _ _ _ _ _ _ _ _ _ _ _ _ _ _ _ _ _ _ _ _ _ _ _ _ _ _ _ _ _ _ _ _ _ _ _ _ _ _ _ _ _ _ _ _ _ _ _ _ _ _ _ _ _ _ _ _ _ _ _ _ _ _ _ _ _ _ _ _ _ ?_
  intro s9 Wt9 W3 u4' u22' u23' u24' u25' u26' u131' u132' u133' u134' u135' u136' u137' u138' u139' u140' u141' u142' u143' u144' u145' u146' u147' u148' u149' u150' u151' u152' u153' u154' u155' u156' u157' u158' u159' u160' u161' u162' u163' u164' u165' u166' u167' u168' u169' u170' u171' u172' u173' u174' u175' u176' u177' u178' u179' u180' u181' u182' u183' u184' u185' u186' u187' u188' u189' u190' u191' u192' u193' u194' u195' u196' g1 g2 g3 g4 g5
  have G1 := hidO g1
  have G4 := hidO g4
  have G5 := hidO g5
  clear g1 g4 g5 HS2 HW2 HOK
  conv =>
    arg 1
    zeta
  try go_step
  have hs9 := G1.out.1
  have q2 := heSeq_any nK bh mh s9 Wt9 W3 G4.out.he
  have q3 := tlHeard_any bt mt i h n s9 (dsN i ds) W3 G4.out.tl (by omega) hs9 (by omega)
  have j0 : (0 : Int) ≤ (i : Int) := by omega
  by_cases h3 : (i : Int) % 3 = 0
  · go_wp2_with (first
      | (go_at_call 10; go_must ((with_reducible refine q2.mono ?_); rintro e W4 ⟨rfl, hW4⟩; rw [hW4]; clear hW4 W4))
      | (go_at_call 15; go_must ((with_reducible refine q3.mono ?_); rintro e W5 ⟨rfl, k5, t5⟩; have HF := hidO (G4.out.setT HO.out k5 t5); have HF2 := hidO (own_keepT G5.out G4.out.tl t5); clear k5 t5)))
    have HK9 := HK.out s9 s9 c2 a2 Wt9 L2 W5
    rw [HN2.out] at HK9
    exact HK9 _ _ _ _ _ _ _ _ _ _ _ _ _ _ _ _ _ _ _ _ _ _ _ _ _ _ _ _ _ _ _ _ _ _ _ _ _ _ _ _ _ _ _ _ _ _ _ _ _ _ _ _ _ _ _ _ _ _ _ _ _ _ _ _ _ _ _ _ _ _ _ _ _ _ _ _ _ _ _ _ _ _ _ _ _ _ _ _ _ _ _ _ _ _ _ G1.out (Nat.le_refl _) g3 HF.out HF2.out (by omega) HJ2.out
  · go_wp2_with fail
    have HK9 := HK.out s9 h c2 a2 Wt9 L2 W3
    rw [HN2.out] at HK9
    exact HK9 _ _ _ _ _ _ _ _ _ _ _ _ _ _ _ _ _ _ _ _ _ _ _ _ _ _ _ _ _ _ _ _ _ _ _ _ _ _ _ _ _ _ _ _ _ _ _ _ _ _ _ _ _ _ _ _ _ _ _ _ _ _ _ _ _ _ _ _ _ _ _ _ _ _ _ _ _ _ _ _ _ _ _ _ _ _ _ _ _ _ _ _ _ _ _ G1.out (by omega) g3 G4.out G5.out (by omega) HJ2.out
end Go.Proofs.YtkkefgoidjjehaaDoor
