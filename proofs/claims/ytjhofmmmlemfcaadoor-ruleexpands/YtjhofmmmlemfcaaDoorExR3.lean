/- What the reference's Expand returns (package portref1) from its loop over lines on: 'refE'. -/
import Derived.Test.YtjhofmmmlemfcaaDoorExR2
namespace Go.Proofs.YtjhofmmmlemfcaaDoor
open Go.RowKit
set_option linter.unusedVariables false
set_option maxRecDepth 10000

theorem lsE_facts {ls : List (List UInt8)} {NL M : Nat} {eb : Bool} (hN : ls.length = NL) (hM : NL = M + 1) (he : decide (ls.getLast? = some []) = eb) :
    (eb = true → (lsE ls).length = M ∧ ∀ k (h : k < M) (h2 : k < ls.length), (lsE ls)[k]? = some ls[k]) ∧ (eb = false → lsE ls = ls) := by
  unfold lsE
  refine ⟨fun h => ?_, fun h => ?_⟩
  · subst h
    rw [if_pos (of_decide_eq_true he)]
    refine ⟨by rw [List.length_dropLast]; omega, fun k h h2 => ?_⟩
    rw [List.getElem?_eq_getElem (by rw [List.length_dropLast]; omega), List.getElem_dropLast]
  · subst h
    rw [if_neg (of_decide_eq_false he)]
theorem take_more {l : List (List UInt8)} {k : Nat} {x : List UInt8} (h : l[k]? = some x) : flE ((l.take (k + 1)).flatMap expL) = flE ((l.take k).flatMap expL) ++ flE (expL x) := by
  obtain ⟨hk, rfl⟩ := List.getElem?_eq_some_iff.1 h
  rw [flat_take expL l k hk, flE_append]
theorem flE_pos {ls : List (List UInt8)} (h : ls ≠ []) : 0 < (flE (ls.flatMap expL)).length := by
  obtain ⟨a, r, rfl⟩ := List.exists_cons_of_ne_nil h
  obtain ⟨y, ys, hy⟩ := List.exists_cons_of_ne_nil (expL_ne a.length a (Nat.le_refl _))
  rw [List.flatMap_cons, hy, List.cons_append, flE]
  simp
  try omega
theorem then_self {P : Exit → Act → World → Prop} : Exit.then (P .normal) P = P := by
  funext x a w
  cases x <;> rfl
theorem take_len {l : List (List UInt8)} {k : Nat} : (flE ((l.take k).flatMap expL)).length ≤ (flE (l.flatMap expL)).length := by
  conv => rhs; rw [← List.take_append_drop k l, List.flatMap_append, flE_append, List.length_append]
  omega
set_option maxRecDepth 100000 in
set_option maxHeartbeats 64000000 in
theorem re_t40 (ls : List (List UInt8)) (g NL cl : Nat) (w0 W : World) (Q : Ending → World → Prop) (C : Code) (hC : C = exTail 40)
    (hN : ls.length = NL) (hne : ls ≠ []) (hN2 : NL ≤ 2001) (hlen : ∀ x ∈ ls, x.length ≤ 2000) (hp : ∀ x ∈ ls, pairB false x = true) (hr : RowL W g ls) (hbl : Below w0.heap.size w0 W)
    (v0 v1 v2 v3 v4 v5 v6 v7 v8 v9 v10 v11 v12 v14 v15 v16 v17 v18 v19 v20 v21 v22 v23 v24 v25 v26 v27 v28 v29 v30 v31 v32 v33 v34 v35 v36 v37 v38 v39 v40 v41 v42 v43 v44 v45 v46 v47 v48 v49 v50 v51 v52 v53 v54 v55 v56 v57 v58 v59 v60 v61 v62 v63 v64 v65 v66 v67 v68 v69 v70 v71 v72 v73 v74 v75 v76 v77 v78 v79 v80 v81 v82 v83 v84 v85 v86 v87 v88 v89 v90 v91 v92 v93 v94 v95 v96 v97 v98 v99 v100 v101 v102 v103 v104 v105 v106 v107 v108 v109 v110 v111 v112 v113 v114 v115 v116 v117 v118 v119 v120 v121 v122 v123 v124 v125 v126 v127 v128 v129 v130 v131 v132 v133 v134 v135 v136 v137 v138 v139 v140 v141 v142 v143 v144 v145 v146 v147 v148 v149 v150 v151 v152 v153 v154 v155 v156 v157 v158 v159 v160 v161 v162 v163 v164 v165 v166 v167 v168 v169 v170 v171 v172 v173 v174 v175 v176 v177 v178 v179 v180 v181 v182 v183 v184 v185 v186 v187 v188 v189 v190 v191 v192 v193 v194 v195 v196 v197 v198 v199 v200 v201 v202 v203 v204 v205 v206 v207 v208 v209 v210 v211 v212 v213 v214 v215 v216 v217 v218 v219 v220 v221 v222 v223 v224 v225 v226 v227 v228 v229 v230 v231 v232 v233 v234 v235 v236 v237 v238 v239 v240 v241 v242 v243 v244 v245 v246 v247 v248 v249 v250 v251 v252 v253 v254 v255 v256 v257 v258 v259 v260 v261 v262 v263 v264 v265 v266 v267 v268 v269 v270 v271 v272 v273 : Value)
    (hQ : ∀ l E w', refE ls (flE ((lsE ls).flatMap expL)) = (l, E) → Below w0.heap.size w0 w' → Q (.returned (.tuple #[.string (mkB l), .int .i64 E])) w') :
    Code.wp Tryd.prog C (bodyPost Tryd.prog Tryd.f7 Q) { tmps := #[v0, v1, v2, v3, v4, v5, v6, v7, v8, v9, v10, v11, v12, .slice (some ⟨g, 0, none⟩) NL cl, v14, v15, v16, v17, v18, v19, v20, v21, v22, v23, v24, v25, v26, v27, v28, v29, v30, v31, v32, v33, v34, v35, v36, v37, v38, v39, v40, v41, v42, v43, v44, v45, v46, v47, v48, v49, v50, v51, v52, v53, v54, v55, v56, v57, v58, v59, v60, v61, v62, v63, v64, v65, v66, v67, v68, v69, v70, v71, v72, v73, v74, v75, v76, v77, v78, v79, v80, v81, v82, v83, v84, v85, v86, v87, v88, v89, v90, v91, v92, v93, v94, v95, v96, v97, v98, v99, v100, v101, v102, v103, v104, v105, v106, v107, v108, v109, v110, v111, v112, v113, v114, v115, v116, v117, v118, v119, v120, v121, v122, v123, v124, v125, v126, v127, v128, v129, v130, v131, v132, v133, v134, v135, v136, v137, v138, v139, v140, v141, v142, v143, v144, v145, v146, v147, v148, v149, v150, v151, v152, v153, v154, v155, v156, v157, v158, v159, v160, v161, v162, v163, v164, v165, v166, v167, v168, v169, v170, v171, v172, v173, v174, v175, v176, v177, v178, v179, v180, v181, v182, v183, v184, v185, v186, v187, v188, v189, v190, v191, v192, v193, v194, v195, v196, v197, v198, v199, v200, v201, v202, v203, v204, v205, v206, v207, v208, v209, v210, v211, v212, v213, v214, v215, v216, v217, v218, v219, v220, v221, v222, v223, v224, v225, v226, v227, v228, v229, v230, v231, v232, v233, v234, v235, v236, v237, v238, v239, v240, v241, v242, v243, v244, v245, v246, v247, v248, v249, v250, v251, v252, v253, v254, v255, v256, v257, v258, v259, v260, v261, v262, v263, v264, v265, v266, v267, v268, v269, v270, v271, v272, v273], defers := [] } W := by
  have HQ := hidR hQ
  clear hQ
  subst hC
  conv =>
    arg 2
    unfold exTail
    unfold Tryd.f7
    simp only [Option.getD_some, exTailOf]
  obtain ⟨M, hM⟩ : ∃ M, NL = M + 1 := ⟨NL - 1, by have := List.length_pos_iff.2 hne; omega⟩
  have hlM : M < ls.length := by omega
  have HLX : Hid (ls.getLast? = some ls[M]) := by
    rw [Hid, List.getLast?_eq_getElem?, hN, hM, Nat.add_sub_cancel, List.getElem?_eq_getElem hlM]
  have cM := hr.2 M hlM
  have hmx : NL - 1 = M := by omega
  have hm0 : (0 : Int) ≤ (NL : Int) - 1 := by omega
  have hm1 : (NL : Int) - 1 < (NL : Int) := by omega
  have hne2 : Hid ((mkB ls[M]).toList.isEmpty = decide (ls.getLast? = some [])) := by
    rw [Hid, HLX.out, ByteArray.toList_eq, mkB_toList, Bool.eq_iff_iff, List.isEmpty_iff, decide_eq_true_iff]
    constructor
    · intro h; rw [h]
    · intro h; exact Option.some.inj h
  generalize ls[M] = lx at cM hne2 HLX
  rw [← hmx] at cM
  have he2 := hne2.out
  obtain ⟨eb, hebE⟩ : ∃ eb, decide (ls.getLast? = some []) = eb := ⟨_, rfl⟩
  rw [hebE] at he2
  have HEB := hidR hebE
  have HLE := hidR (lsE_facts hN hM hebE)
  have HR := hidR hr
  have HBL := hidR hbl
  have HF := hidR (And.intro hN (And.intro hne (And.intro hlen (And.intro hp hM))))
  clear hN hne hlen hp hr hbl hM hlM hmx hebE hne2
  go_upto_region 43 with fail
  clear cM he2
  go_loopw [18, 20, 21, 22, 23, 24, 25, 26, 27, 28] (fun ov i _ _ _ _ _ _ _ _ w2 => ∃ (k : Nat) (os : List UInt8), k ≤ NL ∧ i = .int .i64 (k : Int) ∧ ov = .string (mkB os) ∧ Hid (os = flE (((lsE ls).take k).flatMap expL)) ∧ Hid (os.length ≤ 2001) ∧ Hid (Below W.heap.size W w2)) (fun _ i _ _ _ _ _ _ _ _ _ => ((NL : Int) - intOf i).toNat)
  case atStart => exact ⟨0, [], by omega, rfl, rfl, by simp [Hid, flE], by simp [Hid], Below.refl _ _⟩
  case round =>
    obtain ⟨k, os, hk, rfl, rfl, HOS, HOL, HB⟩ := hrel
    by_cases hlt : k < NL
    · have hlt' : (k : Int) < (NL : Int) := by omega
      have hk0 : (0 : Int) ≤ (k : Int) := by omega
      have hkl : k < ls.length := by rw [HF.out.1]; exact hlt
      have c0 := (HB.out.cell (p := ⟨g, k, none⟩) HR.out.1).trans (HR.out.2 k hkl)
      have hol := HOL.out
      have hxl := HF.out.2.2.1 _ (List.getElem_mem hkl)
      have hpx := HF.out.2.2.2.1 _ (List.getElem_mem hkl)
      by_cases hsk : k = M ∧ eb = true
      · as_aux_lemma =>
        obtain ⟨hkm, heb⟩ := hsk
        subst heb
        have hb1 : ((k : Int) == (NL : Int) - 1) = true := by rw [beq_iff_eq]; have := HF.out.2.2.2.2; omega
        have HOS2 : Hid (os = flE (((lsE ls).take (k + 1)).flatMap expL)) := by
          have h1 := (HLE.out.1 rfl).1
          rw [Hid, HOS.out, List.take_of_length_le (by omega), List.take_of_length_le (by omega)]
        generalize ls[k] = x0 at c0
        clear HOS hkl hol hxl hpx hkm
        go_wp2
        go_roundw
        case rel => exact ⟨k + 1, os, by omega, by go_num, rfl, HOS2.out, HOL.out, HB.out⟩
        case measure => simp [intOf]; omega
      · have HKX : Hid ((lsE ls)[k]? = some ls[k]) := by
          rcases eb with _ | _
          · rw [Hid, HLE.out.2 rfl, List.getElem?_eq_getElem hkl]
          · exact (HLE.out.1 rfl).2 k (by have := HF.out.2.2.2.2; have : ¬ k = M := fun e => hsk ⟨e, rfl⟩; omega) hkl
        generalize ls[k] = x0 at c0 hxl hpx HKX
        have hbig : 2001 < (os ++ flE (expL x0)).length → ∀ w9, Below (wr.alloc (.cells #[.string (mkB x0)] 9)).heap.size (wr.alloc (.cells #[.string (mkB x0)] 9)) w9 → Q (.returned (.tuple #[.string ⟨#[]⟩, .int .i64 4])) w9 := by
          intro hb w9 hb9
          have h1 := take_more HKX.out
          rw [← HOS.out] at h1
          have h2 := @take_len (lsE ls) (k + 1)
          rw [h1] at h2
          refine HQ.out [] 4 w9 ?_ ?_
          · unfold refE
            split
            · rw [if_pos (by omega)]
            · rw [if_pos (by omega)]
          · have hal : Below wr.heap.size wr (wr.alloc (.cells #[.string (mkB x0)] 9)) := (Below.refl _ _).alloc (Nat.le_refl _) _
            have h3 := HBL.out.trans (HB.out.mono HBL.out.size)
            have h4 := h3.trans (hal.mono h3.size)
            exact h4.trans (hb9.mono h4.size)
        by_cases hkm : k = M
        · as_aux_lemma =>
          have heb : eb = false := by
            rcases eb with _ | _
            · rfl
            · exact absurd ⟨hkm, rfl⟩ hsk
          subst heb
          have hb1 : ((k : Int) == (NL : Int) - 1) = true := by rw [beq_iff_eq]; have := HF.out.2.2.2.2; omega
          clear hsk hkm
          go_upto_region 47 with fail
          have hrow : RowL (wr.alloc (.cells #[.string (mkB x0)] 9)) wr.heap.size [x0] := ⟨by simp, fun j hj => by
            have : j = 0 := by simpa using hj
            subst this
            rw [(cell1 (heap_alloc_new wr (.cells #[.string (mkB x0)] 9))).1]; rfl⟩
          have hal : Below wr.heap.size wr (wr.alloc (.cells #[.string (mkB x0)] 9)) := (Below.refl _ _).alloc (Nat.le_refl _) _
          obtain ⟨G1, hG1⟩ : ∃ G, wr.heap.size = G := ⟨_, rfl⟩
          obtain ⟨W1, hW1⟩ : ∃ X, wr.alloc (.cells #[.string (mkB x0)] 9) = X := ⟨_, rfl⟩
          rw [hW1] at hrow hal hbig ⊢
          rw [hG1] at hrow ⊢
          have HAL := hidO hal
          clear hal hG1 hW1
          go_step
          go_step
          go_step
          go_step
          go_step
          go_step
          go_step
          rw [← then_self (P := Exit.inBlock 9 _)]
          refine re_l6 os x0 G1 _ Q _ _ _ (by kernel_rfl) hrow hpx hxl hol ?_ ?_ hbig _ _ _ _ _ _ _ _ _ _ _ _ _ _ _ _ _ _ _ _ _ _ _ _ _ _ _ _ _ _ _ _ _ _ _ _ _ _ _ _ _ _ _ _ _ _ _ _ _ _ _ _ _ _ _ _ _ _ _ _ _ _ _ _ _ _ _ _ _ _ _ _ _ _ _ _ _ _ _ _ _ _ _ _ _ _ _ _ _ _ _ _ _ _ _ _ _ _ _ _ _ _ _ _ _ _ _ _ _ _ _ _ _ _ _ _ _ _ _ _ _ _ _ _ _ _ _ _ _ _ _ _ _ _ _ _ _ _ _ _ _ _ _ _ _ _ _ _ _ _ _ _ _ _ _ _ _ _ _ _ _ _ _ _ _ _ _ _ _ _ _ _ _ _ _ _ _ _ _ _ _ _ _ _ _ _ _ _ _ _ _ _ _ _ _ _ _ _ _ _ _ _ _ _ _ _ _ _ _ _ _ _ _ _ _ _ _ _ _ _ _ _ _ _ _ _ _ _ _ _ _ _ _ _ _ _ _ _ _ _ _ _ _ _ _ _ _ _ _ _ _ _ _ _ _ _ _ _ _ _ _ _ _ _ _ _ _ _ _ _ _ ?_
          rotate_left 2
          intro W9 u2' u3' u18' u21' u22' u23' u24' u25' u26' u27' u28' u188' u189' u190' u191' u192' u193' u194' u195' u196' u197' u198' u199' u200' u201' u202' u203' u204' u205' u206' u207' u208' u209' u210' u211' u212' u213' u214' u215' u216' u217' u218' u219' u220' u221' u222' u223' u224' u225' u226' u227' u228' u229' u230' u231' u232' u233' u234' u235' u236' u237' u238' u239' u240' u241' u242' u243' u244' u245' u246' u247' u248' u249' u250' u251' u252' u253' u254' u255' u256' u257' u258' u259' u260' u261' u262' h9
          obtain ⟨⟨os2, rfl, hos2, hol2⟩, hb9⟩ := h9
          have HB9 := hidO hb9
          have HO2 := hidO hos2
          have HL2 := hidO hol2
          clear hb9 hos2 hol2 hrow hbig
          conv =>
            arg 1
            zeta
          go_wp2
          go_roundw
          case rel =>
            refine ⟨k + 1, os2, by omega, by go_num, rfl, ?_, HL2.out, ?_⟩
            · rw [Hid, take_more HKX.out, ← HOS.out]; exact HO2.out
            · have h3 := HB.out
              have h4 := h3.trans (HAL.out.mono h3.size)
              exact h4.trans (HB9.out.mono h4.size)
          case measure => simp [intOf]; omega
          · intro ch x d v w h
            cases d <;> exact h
          · intro a w h
            exact h
        · as_aux_lemma =>
          have hb1 : ((k : Int) == (NL : Int) - 1) = false := by rw [beq_eq_false_iff_ne]; have := HF.out.2.2.2.2; omega
          clear hsk hkm
          go_upto_region 47 with fail
          have hrow : RowL (wr.alloc (.cells #[.string (mkB x0)] 9)) wr.heap.size [x0] := ⟨by simp, fun j hj => by
            have : j = 0 := by simpa using hj
            subst this
            rw [(cell1 (heap_alloc_new wr (.cells #[.string (mkB x0)] 9))).1]; rfl⟩
          have hal : Below wr.heap.size wr (wr.alloc (.cells #[.string (mkB x0)] 9)) := (Below.refl _ _).alloc (Nat.le_refl _) _
          obtain ⟨G1, hG1⟩ : ∃ G, wr.heap.size = G := ⟨_, rfl⟩
          obtain ⟨W1, hW1⟩ : ∃ X, wr.alloc (.cells #[.string (mkB x0)] 9) = X := ⟨_, rfl⟩
          rw [hW1] at hrow hal hbig ⊢
          rw [hG1] at hrow ⊢
          have HAL := hidO hal
          clear hal hG1 hW1
          go_step
          go_step
          go_step
          go_step
          go_step
          go_step
          go_step
          rw [← then_self (P := Exit.inBlock 9 _)]
          refine re_l6 os x0 G1 _ Q _ _ _ (by kernel_rfl) hrow hpx hxl hol ?_ ?_ hbig _ _ _ _ _ _ _ _ _ _ _ _ _ _ _ _ _ _ _ _ _ _ _ _ _ _ _ _ _ _ _ _ _ _ _ _ _ _ _ _ _ _ _ _ _ _ _ _ _ _ _ _ _ _ _ _ _ _ _ _ _ _ _ _ _ _ _ _ _ _ _ _ _ _ _ _ _ _ _ _ _ _ _ _ _ _ _ _ _ _ _ _ _ _ _ _ _ _ _ _ _ _ _ _ _ _ _ _ _ _ _ _ _ _ _ _ _ _ _ _ _ _ _ _ _ _ _ _ _ _ _ _ _ _ _ _ _ _ _ _ _ _ _ _ _ _ _ _ _ _ _ _ _ _ _ _ _ _ _ _ _ _ _ _ _ _ _ _ _ _ _ _ _ _ _ _ _ _ _ _ _ _ _ _ _ _ _ _ _ _ _ _ _ _ _ _ _ _ _ _ _ _ _ _ _ _ _ _ _ _ _ _ _ _ _ _ _ _ _ _ _ _ _ _ _ _ _ _ _ _ _ _ _ _ _ _ _ _ _ _ _ _ _ _ _ _ _ _ _ _ _ _ _ _ _ _ _ _ _ _ _ _ _ _ _ _ _ _ _ _ _ ?_
          rotate_left 2
          intro W9 u2' u3' u18' u21' u22' u23' u24' u25' u26' u27' u28' u188' u189' u190' u191' u192' u193' u194' u195' u196' u197' u198' u199' u200' u201' u202' u203' u204' u205' u206' u207' u208' u209' u210' u211' u212' u213' u214' u215' u216' u217' u218' u219' u220' u221' u222' u223' u224' u225' u226' u227' u228' u229' u230' u231' u232' u233' u234' u235' u236' u237' u238' u239' u240' u241' u242' u243' u244' u245' u246' u247' u248' u249' u250' u251' u252' u253' u254' u255' u256' u257' u258' u259' u260' u261' u262' h9
          obtain ⟨⟨os2, rfl, hos2, hol2⟩, hb9⟩ := h9
          have HB9 := hidO hb9
          have HO2 := hidO hos2
          have HL2 := hidO hol2
          clear hb9 hos2 hol2 hrow hbig
          conv =>
            arg 1
            zeta
          go_wp2
          go_roundw
          case rel =>
            refine ⟨k + 1, os2, by omega, by go_num, rfl, ?_, HL2.out, ?_⟩
            · rw [Hid, take_more HKX.out, ← HOS.out]; exact HO2.out
            · have h3 := HB.out
              have h4 := h3.trans (HAL.out.mono h3.size)
              exact h4.trans (HB9.out.mono h4.size)
          case measure => simp [intOf]; omega
          · intro ch x d v w h
            cases d <;> exact h
          · intro a w h
            exact h
    · as_aux_lemma =>
      have hkn : k = NL := by omega
      have HO : Hid (os = flE ((lsE ls).flatMap expL)) := by
        rw [Hid, HOS.out, List.take_of_length_le]
        rcases eb with _ | _
        · rw [HLE.out.2 rfl, HF.out.1]; omega
        · rw [(HLE.out.1 rfl).1]; have := HF.out.2.2.2.2; omega
      have hlf : ¬ (k : Int) < (NL : Int) := by omega
      have HBZ := hidO (HBL.out.trans (HB.out.mono HBL.out.size))
      clear HOS hlt
      rcases eb with _ | _
      · have hgl : ¬ ls.getLast? = some [] := of_decide_eq_false HEB.out
        have hpos : 0 < os.length := by
          rw [HO.out, HLE.out.2 rfl]; exact flE_pos HF.out.2.1
        have hol := HOL.out
        have hw : wrap64 (((mkB os).size : Int) - 1) = ((os.length - 1 : Nat) : Int) := by
          rw [mkB_size, wrap64]; omega
        have hz0 : (0 : Int) ≤ ((os.length - 1 : Nat) : Int) := by omega
        have hz1 : ((os.length - 1 : Nat) : Int) ≤ ((mkB os).size : Int) := by rw [mkB_size]; omega
        have hdl : (mkB os).extract 0 (os.length - 1) = mkB os.dropLast := by rw [sub_ext, List.drop_zero, Nat.sub_zero, List.dropLast_eq_take]
        have hdn : os.dropLast.length ≤ 2000 := by rw [List.length_dropLast]; omega
        have HQQ := hidO (HQ.out os.dropLast 0 wr (by unfold refE; rw [if_neg hgl, ← HO.out, if_neg (by omega)]) HBZ.out)
        generalize os.dropLast = dl at hdl hdn HQQ
        have hdi : ¬ (2000 : Int) < ((mkB dl).size : Int) := by rw [mkB_size]; omega
        clear HO hgl hpos hdn
        go_wp2
        exact HQQ.out
      · have hgl : ls.getLast? = some [] := of_decide_eq_true HEB.out
        by_cases hb : 2000 < os.length
        · have hbi : (2000 : Int) < ((mkB os).size : Int) := by rw [mkB_size]; omega
          have HQQ := hidO (HQ.out [] 4 wr (by unfold refE; rw [if_pos hgl, ← HO.out, if_pos hb]) HBZ.out)
          clear HO hgl hb
          go_wp2
          exact HQQ.out
        · have hbi : ¬ (2000 : Int) < ((mkB os).size : Int) := by rw [mkB_size]; omega
          have HQQ := hidO (HQ.out os 0 wr (by unfold refE; rw [if_pos hgl, ← HO.out, if_neg hb]) HBZ.out)
          clear HO hgl hb
          go_wp2
          exact HQQ.out
end Go.Proofs.YtjhofmmmlemfcaaDoor
