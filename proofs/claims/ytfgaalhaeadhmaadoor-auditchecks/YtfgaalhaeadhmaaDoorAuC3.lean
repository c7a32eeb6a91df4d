/- AuditChecks from where the reference's Masters is asked on. -/
import Derived.Test.YtfgaalhaeadhmaaDoorAuC2
namespace Go.Proofs.YtfgaalhaeadhmaaDoor
open Go.RowKit
set_option linter.unusedVariables false
set_option maxRecDepth 10000

set_option maxRecDepth 100000 in
set_option maxHeartbeats 64000000 in
theorem ac_t20 (es : List Ev) (v : Value) (t c : Int) (w0 W : World) (Q : Ending → World → Prop) (C : Code) (hC : C = acTail 20)
    (hv : Evs W v es) (hE : ErrLaid W) (hc : msE es t = c) (hbl : Below w0.heap.size w0 W)
    (v2 v3 v4 v5 v7 v8 v9 v10 v11 v12 v13 v14 v15 v19 v20 v21 v22 v23 v24 v25 v26 v27 v28 v29 v30 v31 v32 v33 v34 v35 v36 v37 v38 v39 v40 v41 v42 v43 v44 v45 v46 v47 v48 v49 v50 v51 v52 v53 v54 v55 v56 v57 v58 v59 v60 v61 v62 v63 v64 v65 v66 v67 v68 v69 v70 v71 v72 v73 v74 v75 v76 v77 v78 v79 v80 v81 v82 v83 v84 v85 v86 v87 v88 v89 v90 v91 v92 v93 v94 v95 v96 v97 v98 v99 v100 v101 v102 v103 v104 v105 v106 v107 v108 v109 v110 v111 v112 v113 v114 v115 v116 v117 v118 v119 v120 v121 v122 v123 v124 v125 v126 v127 v128 v129 v130 v131 v132 v133 v134 v135 v136 v137 v138 v139 v140 v141 v142 v143 v144 v145 v146 v147 v148 v149 v150 v151 v152 v153 v154 v155 v156 v157 v158 v159 v160 v161 v162 v163 v164 v165 v166 v167 v168 v169 v170 v171 v172 v173 v174 v175 v176 v177 v178 v179 v180 v181 v182 v183 v184 v185 v186 v187 v188 v189 v190 v191 v192 v193 v194 v195 v196 v197 v198 v199 v200 v201 v202 v203 v204 v205 v206 v207 v208 v209 v210 v211 v212 v213 v214 v215 v216 v217 v218 v219 v220 v221 v222 v223 v224 v225 v226 v227 : Value)
    (hQ : ∀ w', Below w0.heap.size w0 w' → Q (.returned (.bool true)) w') :
    Code.wp Tryd.prog C (bodyPost Tryd.prog Tryd.f5 Q) { tmps := #[v, .int .i64 t, v2, v3, v4, v5, .int .i64 c, v7, v8, v9, v10, v11, v12, v13, v14, v15, .slice none 0 0, .int .i64 0, .int .i64 0, v19, v20, v21, v22, v23, v24, v25, v26, v27, v28, v29, v30, v31, v32, v33, v34, v35, v36, v37, v38, v39, v40, v41, v42, v43, v44, v45, v46, v47, v48, v49, v50, v51, v52, v53, v54, v55, v56, v57, v58, v59, v60, v61, v62, v63, v64, v65, v66, v67, v68, v69, v70, v71, v72, v73, v74, v75, v76, v77, v78, v79, v80, v81, v82, v83, v84, v85, v86, v87, v88, v89, v90, v91, v92, v93, v94, v95, v96, v97, v98, v99, v100, v101, v102, v103, v104, v105, v106, v107, v108, v109, v110, v111, v112, v113, v114, v115, v116, v117, v118, v119, v120, v121, v122, v123, v124, v125, v126, v127, v128, v129, v130, v131, v132, v133, v134, v135, v136, v137, v138, v139, v140, v141, v142, v143, v144, v145, v146, v147, v148, v149, v150, v151, v152, v153, v154, v155, v156, v157, v158, v159, v160, v161, v162, v163, v164, v165, v166, v167, v168, v169, v170, v171, v172, v173, v174, v175, v176, v177, v178, v179, v180, v181, v182, v183, v184, v185, v186, v187, v188, v189, v190, v191, v192, v193, v194, v195, v196, v197, v198, v199, v200, v201, v202, v203, v204, v205, v206, v207, v208, v209, v210, v211, v212, v213, v214, v215, v216, v217, v218, v219, v220, v221, v222, v223, v224, v225, v226, v227], defers := [] } W := by
  have HQ := hidA hQ
  have HBL := hidA hbl
  clear hQ hbl
  subst hC
  conv =>
    arg 2
    unfold acTail
    unfold Tryd.f5
    simp only [Option.getD_some, acTailOf]
  have HV := hidA hv
  have HE := hidA hE
  have HC := hidA hc
  clear hv hE hc
  by_cases hz : c = 0
  · obtain ⟨hok, ht1, ht2⟩ := msE_good (HC.out.trans hz)
    obtain ⟨hgd, hlen⟩ := aud_gd hok
    have hgd0 : 0 ≤ (stA es es.length).1 := by
      rcases Nat.eq_zero_or_pos es.length with h | h
      · rw [h]; exact Int.le_refl _
      · obtain ⟨k, hk⟩ : ∃ k, es.length = k + 1 := ⟨es.length - 1, by omega⟩
        rw [hk, stA_succ (by omega)]
        exact (hgd.times _ (List.getElem_mem (by omega))).1
    have HBD := hidA (rf_bd es t hgd.times (by omega) (by omega))
    have htt : 0 ≤ t ∧ t ≤ 1000000 := by omega
    have HTT := hidA htt
    have hml := rf_len es t
    have HML := hidA (show (rfM es t).length ≤ 1000 by omega)
    have hrm := refMasters_any es v t W hlen HV.out
    have hlo : (if (0 : Int) = 0 then #[.int .i64 (gpF (rfM es t) t).1, .int .i64 (gpF (rfM es t) t).2, .nilIface] else #[.int .i64 0, .int .i64 0, auV 0]) = (#[.int .i64 (gpF (rfM es t) t).1, .int .i64 (gpF (rfM es t) t).2, auV 0] : Array Value) := by rw [if_pos rfl]; rfl
    have hLL : (if (0 : Int) = 0 then rfM es t else []) = rfM es t := if_pos rfl
    have HLO := hidA hlo
    have HLL := hidA hLL
    obtain ⟨ms, hms⟩ : ∃ ms, rfM es t = ms := ⟨_, rfl⟩
    have HMS := hidA hms
    rw [hms] at hrm HBD HML
    subst hz
    clear hok ht1 ht2 hgd hlen hgd0 hml hms hlo hLL htt
    go_upto_region 22 with (go_at_call 18; go_must ((with_reducible refine hrm.mono ?_); rintro e W1 ⟨r, rfl, own1, b1⟩; have HO1 := hidA own1; have HB1 := hidA b1; clear own1 b1 hrm))
    obtain ⟨a1, c1, rfl⟩ := OwnN.len HO1.out
    obtain ⟨n, hn⟩ : ∃ n, ms.length = n := ⟨_, rfl⟩
    have HN := hidA hn
    rw [hn] at HO1 HML ⊢
    clear hn
    have hn1 : (n : Int) ≤ 1000 := by have := HML.out; omega
    go_wp2_with fail
    go_loopw [17, 18, 19, 20] (fun lo tot fr i wr => ∃ k : Nat, k ≤ n + 1 ∧ i = .int .i64 (k : Int) ∧ ((k ≤ n ∧ lo = .int .i64 (gpK ms k).1 ∧ tot = .int .i64 (gpK ms k).2.1 ∧ fr = .int .i64 (gpK ms k).2.2) ∨ (k = n + 1 ∧ lo = .int .i64 (gpF ms t).1 ∧ tot = .int .i64 (gpF ms t).2 ∧ ∃ z, fr = .int .i64 z)) ∧ wr = W1) (fun _ _ _ i _ => n + 1 - (intOf i).toNat)
    case atStart => exact ⟨0, by omega, by go_num, .inl ⟨by omega, by go_num, by go_num, by go_num⟩, rfl⟩
    case round =>
      obtain ⟨k, hk, rfl, hd, rfl⟩ := hrel
      rcases hd with ⟨hkn, rfl, rfl, rfl⟩ | ⟨hkn, rfl, rfl, z, rfl⟩
      · have hbk := gp_bd HBD.out k (by rw [HN.out]; exact hkn)
        have hi1 : (k : Int) ≤ (n : Int) := by omega
        have hi2 : (0 : Int) ≤ (k : Int) := by omega
        by_cases hlt : k < n
        · have hi3 : (k : Int) < (n : Int) := by omega
          have hkl : k < ms.length := by rw [HN.out]; exact hlt
          obtain ⟨g, c0, hv0, _, _, hcc, hcm⟩ := OwnN.shape HO1.out (by rw [HN.out]; omega)
          simp only [Value.slice.injEq] at hv0
          obtain ⟨rfl, hmid, rfl⟩ := hv0
          rw [HN.out] at hcc
          clear hmid
          have q0 : wr.cell? ⟨g, k * 3, none⟩ = some (.int .i64 ms[k].b) := by simpa using OwnN.cell (enc := msRow) HO1.out (fun _ => rfl) k hkl 0 (.int .i64 ms[k].b) rfl
          have q1 : wr.cell? ⟨g, k * 3 + 1, none⟩ = some (.int .i64 ms[k].e) := OwnN.cell (enc := msRow) HO1.out (fun _ => rfl) k hkl 1 (.int .i64 ms[k].e) rfl
          have hgk := gpK_succ hkl
          have hmk := HBD.out ms[k] (List.getElem_mem hkl)
          obtain ⟨m, hm⟩ : ∃ m, ms[k] = m := ⟨_, rfl⟩
          rw [hm] at q0 q1 hgk hmk
          unfold gpS at hgk
          have HGK := hidA hgk
          obtain ⟨lo, hlo⟩ : ∃ x, (gpK ms k).1 = x := ⟨_, rfl⟩
          obtain ⟨tot, htot⟩ : ∃ x, (gpK ms k).2.1 = x := ⟨_, rfl⟩
          obtain ⟨fr, hfr⟩ : ∃ x, (gpK ms k).2.2 = x := ⟨_, rfl⟩
          rw [hlo, htot, hfr] at hbk HGK
          rw [hlo, htot, hfr]
          obtain ⟨u, hu⟩ : ∃ u, m.b = u := ⟨_, rfl⟩
          rw [hu] at q0 hmk HGK
          have w1 : wrap64 (u - fr) = u - fr := by unfold wrap64; omega
          have w2 : wrap64 (tot + u) = tot + u := by unfold wrap64; omega
          have w3 : wrap64 (tot + u - fr) = tot + u - fr := by unfold wrap64; omega
          have w4 : wrap64 ((k : Int) + 1) = (k : Int) + 1 := by unfold wrap64; omega
          have HEQ := hidA (show tot + u - fr = tot + (u - fr) by omega)
          clear hgk hbk hmk hlo htot hfr hm hu hkl hkn
          have w3' : wrap64 (tot + u - fr) = tot + (u - fr) := by rw [w3]; exact HEQ.out
          obtain ⟨me, hme⟩ : ∃ me, m.e = me := ⟨_, rfl⟩
          rw [hme] at q1 HGK
          clear hme
          have hnn : n ≤ 1000 := by omega
          go_upto_block 3 with fail
          refine ac_b3k t lo tot fr u me g n _ k _ _ _ _ (by kernel_rfl) hlt hnn hcc hcm q0 q1 w1 w2 w3' _ _ _ _ _ _ _ _ _ _ _ _ _ _ _ _ _ _ _ _ _ _ _ _ _ _ _ _ _ _ _ _ _ _ _ _ _ _ _ _ _ _ _ _ _ _ _ _ _ _ _ _ _ _ _ _ _ _ _ _ _ _ _ _ _ _ _ _ _ _ _ _ _ _ _ _ _ _ _ _ _ _ _ _ _ _ _ _ _ _ _ _ _ _ _ _ _ _ _ _ _ _ _ _ _ _ _ _ _ _ _ _ _ _ _ _ _ _ _ _ _ _ _ _ _ _ _ _ _ _ _ _ _ _ _ _ _ _ _ _ _ _ _ _ _ _ _ _ _ _ _ _ _ _ _ _ _ _ _ _ _ _ _ _ _ _ _ _ _ _ _ _ _ _ _ _ _ _ _ _ _ _ _ _ _ _ _ _ _ _ _ _ _ _ _ _ _ _ _ _ _ _ _ _ _ _ _ _ _ _ _ _ _ _ _ _ _ _ _ _ _ _ ?_
          intro W9 u21' u139' u140' u141' u142' u143' u144' u145' u146' u147' u148' u149' u150' u151' u152' u153' u154' u155' u156' u157' u158' u159' u160' u161' u162' u163' u164' u165' u166' u167' u168' u169' u170' hW9
          subst hW9
          conv =>
            arg 1
            zeta
          try go_step
          clear w1 w2 w3 w3' q0 q1 hcc hcm
          go_wp2_with fail
          go_roundw
          case rel => exact ⟨k + 1, by omega, by go_num, .inl ⟨by omega, by rw [HGK.out], by rw [HGK.out], by rw [HGK.out]⟩, by first | rfl | trivial⟩
          case measure => first | (simp [intOf]; done) | (simp [intOf]; omega)
        · obtain rfl : k = n := by omega
          have hi3 : ¬ (k : Int) < (k : Int) := by omega
          have HGF := hidA (show gpF ms t = (max (gpK ms k).1 (t - (gpK ms k).2.2), (gpK ms k).2.1 + (t - (gpK ms k).2.2)) by unfold gpF; rw [HN.out])
          obtain ⟨lo, hlo⟩ : ∃ x, (gpK ms k).1 = x := ⟨_, rfl⟩
          obtain ⟨tot, htot⟩ : ∃ x, (gpK ms k).2.1 = x := ⟨_, rfl⟩
          obtain ⟨fr, hfr⟩ : ∃ x, (gpK ms k).2.2 = x := ⟨_, rfl⟩
          rw [hlo, htot, hfr] at hbk HGF
          rw [hlo, htot, hfr]
          have htt := HTT.out
          have w1 : wrap64 (t - fr) = t - fr := by unfold wrap64; omega
          have w2 : wrap64 (tot + t) = tot + t := by unfold wrap64; omega
          have w3 : wrap64 (tot + t - fr) = tot + t - fr := by unfold wrap64; omega
          have w4 : wrap64 ((k : Int) + 1) = (k : Int) + 1 := by unfold wrap64; omega
          have HEQ := hidA (show tot + t - fr = tot + (t - fr) by omega)
          clear hbk hlo htot hfr htt hkn hlt
          have w3' : wrap64 (tot + t - fr) = tot + (t - fr) := by rw [w3]; exact HEQ.out
          have hnn : k ≤ 1000 := by omega
          go_upto_block 3 with fail
          refine ac_b3n t lo tot fr _ k _ _ _ _ _ (by kernel_rfl) hnn w1 w2 w3' _ _ _ _ _ _ _ _ _ _ _ _ _ _ _ _ _ _ _ _ _ _ _ _ _ _ _ _ _ _ _ _ _ _ _ _ _ _ _ _ _ _ _ _ _ _ _ _ _ _ _ _ _ _ _ _ _ _ _ _ _ _ _ _ _ _ _ _ _ _ _ _ _ _ _ _ _ _ _ _ _ _ _ _ _ _ _ _ _ _ _ _ _ _ _ _ _ _ _ _ _ _ _ _ _ _ _ _ _ _ _ _ _ _ _ _ _ _ _ _ _ _ _ _ _ _ _ _ _ _ _ _ _ _ _ _ _ _ _ _ _ _ _ _ _ _ _ _ _ _ _ _ _ _ _ _ _ _ _ _ _ _ _ _ _ _ _ _ _ _ _ _ _ _ _ _ _ _ _ _ _ _ _ _ _ _ _ _ _ _ _ _ _ _ _ _ _ _ _ _ _ _ _ _ _ _ _ _ _ _ _ _ _ _ _ _ _ _ _ _ _ _ ?_
          intro W9 u21' u139' u140' u141' u142' u143' u144' u145' u146' u147' u148' u149' u150' u151' u152' u153' u154' u155' u156' u157' u158' u159' u160' u161' u162' u163' u164' u165' u166' u167' u168' u169' u170' hW9
          subst hW9
          conv =>
            arg 1
            zeta
          try go_step
          clear w1 w2 w3 w3'
          go_wp2_with fail
          go_roundw
          case rel => exact ⟨k + 1, by omega, by go_num, .inr ⟨rfl, by rw [HGF.out], by rw [HGF.out], _, rfl⟩, by first | rfl | trivial⟩
          case measure => first | (simp [intOf]; done) | (simp [intOf]; omega)
      · subst hkn
        have hi1 : ¬ ((n + 1 : Nat) : Int) ≤ (n : Int) := by omega
        have HX := hidA (HBL.out.trans (HB1.out.mono HBL.out.size))
        have HLO2 := hidA (show (if (0 : Int) = 0 then #[.int .i64 (gpF (rfM es t) t).1, .int .i64 (gpF (rfM es t) t).2, .nilIface] else #[.int .i64 0, .int .i64 0, auV 0]) = (#[.int .i64 (gpF ms t).1, .int .i64 (gpF ms t).2, auV 0] : Array Value) by rw [if_pos rfl, HMS.out]; rfl)
        repeat (first | (show Code.wp _ (Code.seq (Code.region 34 _ _) _) _ _ _; refine ac_t34 es v t 0 _ _ ms _ n _ _ _ _ Q _ (by kernel_rfl) HN.out HML.out HO1.out (HV.out.below HB1.out) (HE.out.below HB1.out) HC.out (HLL.out.trans HMS.out) HLO2.out HX.out _ _ _ _ _ _ _ _ _ _ _ _ _ _ _ _ _ _ _ _ _ _ _ _ _ _ _ _ _ _ _ _ _ _ _ _ _ _ _ _ _ _ _ _ _ _ _ _ _ _ _ _ _ _ _ _ _ _ _ _ _ _ _ _ _ _ _ _ _ _ _ _ _ _ _ _ _ _ _ _ _ _ _ _ _ _ _ _ _ _ _ _ _ _ _ _ _ _ _ _ _ _ _ _ _ _ _ _ _ _ _ _ _ _ _ _ _ _ _ _ _ _ _ _ _ _ _ _ _ _ _ _ _ _ _ _ _ _ _ _ _ _ _ _ _ _ _ _ _ _ _ _ _ _ _ _ _ _ _ _ _ _ _ _ _ _ _ _ _ _ _ _ _ _ _ _ _ _ _ _ _ _ _ _ _ _ _ _ _ _ _ _ _ _ _ _ _ _ _ _ _ _ _ _ _ _ _ _ _ _ _ _ _ _ _ _ _ _ _ _ _ _ ?_) | go_step)
        exact HQ.out
  · have HZ := hidA hz
    have HLO := hidA (show (if c = 0 then #[.int .i64 (gpF (rfM es t) t).1, .int .i64 (gpF (rfM es t) t).2, .nilIface] else #[.int .i64 0, .int .i64 0, auV c]) = (#[.int .i64 0, .int .i64 0, auV c] : Array Value) from if_neg hz)
    have HLL := hidA (show (if c = 0 then rfM es t else []) = [] from if_neg hz)
    have HNL := hidA (show OwnMs W 0 (.slice none 0 0) [] from OwnN.nil _ _)
    have hzb : (c == 0) = false := by simpa using hz
    clear hz
    repeat (first | (show Code.wp _ (Code.seq (Code.region 34 _ _) _) _ _ _; refine ac_t34 es v t c 0 0 [] none 0 _ _ _ _ Q _ (by kernel_rfl) rfl (by omega) HNL.out HV.out HE.out HC.out HLL.out HLO.out HBL.out _ _ _ _ _ _ _ _ _ _ _ _ _ _ _ _ _ _ _ _ _ _ _ _ _ _ _ _ _ _ _ _ _ _ _ _ _ _ _ _ _ _ _ _ _ _ _ _ _ _ _ _ _ _ _ _ _ _ _ _ _ _ _ _ _ _ _ _ _ _ _ _ _ _ _ _ _ _ _ _ _ _ _ _ _ _ _ _ _ _ _ _ _ _ _ _ _ _ _ _ _ _ _ _ _ _ _ _ _ _ _ _ _ _ _ _ _ _ _ _ _ _ _ _ _ _ _ _ _ _ _ _ _ _ _ _ _ _ _ _ _ _ _ _ _ _ _ _ _ _ _ _ _ _ _ _ _ _ _ _ _ _ _ _ _ _ _ _ _ _ _ _ _ _ _ _ _ _ _ _ _ _ _ _ _ _ _ _ _ _ _ _ _ _ _ _ _ _ _ _ _ _ _ _ _ _ _ _ _ _ _ _ _ _ _ _ _ _ _ _ _ _ ?_) | go_step)
    exact HQ.out
end Go.Proofs.YtfgaalhaeadhmaaDoor
