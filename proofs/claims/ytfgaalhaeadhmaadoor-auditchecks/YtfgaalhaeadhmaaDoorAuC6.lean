/- AuditChecks from its array of counts on: the loop that counts. -/
import Derived.Test.YtfgaalhaeadhmaaDoorAuC5
namespace Go.Proofs.YtfgaalhaeadhmaaDoor
open Go.RowKit
set_option linter.unusedVariables false
set_option maxRecDepth 10000

theorem cntE_take (n : Int) {es : List Ev} {k : Nat} (h : k < es.length) : (cntE n (es.take (k + 1)) : Int) = (cntE n (es.take k) : Int) + (if es[k].what = n then 1 else 0) := by
  unfold cntE
  rw [List.take_succ_eq_append_getElem h, List.countP_append]
  by_cases e : es[k].what = n <;> simp [e]
theorem w64_succ {k : Int} (h0 : 0 ≤ k) (h1 : k ≤ 1000) : wrap64 (k + 1) = k + 1 := by unfold wrap64; omega
theorem cntE_le (n : Int) (es : List Ev) (k : Nat) : cntE n (es.take k) ≤ k := by
  unfold cntE
  have h1 := List.countP_le_length (p := fun e : Ev => e.what == n) (l := es.take k)
  have h2 := List.length_take_le k es
  omega
set_option maxRecDepth 100000 in
set_option maxHeartbeats 64000000 in
theorem ac_t6 (es : List Ev) (t c : Int) (ao : Option Addr) (N co : Nat) (w0 W : World) (Q : Ending → World → Prop) (C : Code) (hC : C = acTail 6)
    (hN : es.length = N) (hv : Evs W (.slice ao N co) es) (hE : ErrLaid W) (hc : (audR es).2 = c) (hbl : Below w0.heap.size w0 W)
    (v2 v3 v4 v5 v7 v8 v9 v10 v11 v12 v13 v14 v15 v16 v17 v18 v19 v20 v21 v22 v23 v24 v25 v26 v27 v28 v29 v30 v31 v32 v33 v34 v35 v36 v37 v38 v39 v40 v41 v42 v43 v44 v45 v46 v47 v48 v49 v50 v51 v52 v53 v54 v55 v56 v57 v58 v59 v60 v61 v62 v63 v64 v65 v66 v67 v68 v69 v70 v71 v72 v73 v74 v75 v76 v77 v78 v79 v80 v81 v82 v83 v84 v85 v86 v87 v88 v89 v90 v91 v92 v93 v94 v95 v96 v97 v98 v99 v100 v101 v102 v103 v104 v105 v106 v107 v108 v109 v110 v111 v112 v113 v114 v115 v116 v117 v118 v119 v120 v121 v122 v123 v124 v125 v126 v127 v128 v129 v130 v131 v132 v133 v134 v135 v136 v137 v138 v139 v140 v141 v142 v143 v144 v145 v146 v147 v148 v149 v150 v151 v152 v153 v154 v155 v156 v157 v158 v159 v160 v161 v162 v163 v164 v165 v166 v167 v168 v169 v170 v171 v172 v173 v174 v175 v176 v177 v178 v179 v180 v181 v182 v183 v184 v185 v186 v187 v188 v189 v190 v191 v192 v193 v194 v195 v196 v197 v198 v199 v200 v201 v202 v203 v204 v205 v206 v207 v208 v209 v210 v211 v212 v213 v214 v215 v216 v217 v218 v219 v220 v221 v222 v223 v224 v225 v226 v227 : Value)
    (hQ : ∀ w', Below w0.heap.size w0 w' → Q (.returned (.bool true)) w') :
    Code.wp Tryd.prog C (bodyPost Tryd.prog Tryd.f5 Q) { tmps := #[.slice ao N co, .int .i64 t, v2, v3, v4, v5, .int .i64 c, v7, v8, v9, v10, v11, v12, v13, v14, v15, v16, v17, v18, v19, v20, v21, v22, v23, v24, v25, v26, v27, v28, v29, v30, v31, v32, v33, v34, v35, v36, v37, v38, v39, v40, v41, v42, v43, v44, v45, v46, v47, v48, v49, v50, v51, v52, v53, v54, v55, v56, v57, v58, v59, v60, v61, v62, v63, v64, v65, v66, v67, v68, v69, v70, v71, v72, v73, v74, v75, v76, v77, v78, v79, v80, v81, v82, v83, v84, v85, v86, v87, v88, v89, v90, v91, v92, v93, v94, v95, v96, v97, v98, v99, v100, v101, v102, v103, v104, v105, v106, v107, v108, v109, v110, v111, v112, v113, v114, v115, v116, v117, v118, v119, v120, v121, v122, v123, v124, v125, v126, v127, v128, v129, v130, v131, v132, v133, v134, v135, v136, v137, v138, v139, v140, v141, v142, v143, v144, v145, v146, v147, v148, v149, v150, v151, v152, v153, v154, v155, v156, v157, v158, v159, v160, v161, v162, v163, v164, v165, v166, v167, v168, v169, v170, v171, v172, v173, v174, v175, v176, v177, v178, v179, v180, v181, v182, v183, v184, v185, v186, v187, v188, v189, v190, v191, v192, v193, v194, v195, v196, v197, v198, v199, v200, v201, v202, v203, v204, v205, v206, v207, v208, v209, v210, v211, v212, v213, v214, v215, v216, v217, v218, v219, v220, v221, v222, v223, v224, v225, v226, v227], defers := [] } W := by
  have HQ := hidA hQ
  have HBL := hidA hbl
  clear hQ hbl
  subst hC
  conv =>
    arg 2
    unfold acTail
    unfold Tryd.f5
    simp only [Option.getD_some, acTailOf]
  have HN := hidA hN
  have HV := hidA hv
  have HE := hidA hE
  have HC := hidA hc
  obtain ⟨B, hB⟩ : ∃ B, W.heap.size = B := ⟨_, rfl⟩
  have n1 := heap_alloc_new W (.cells #[.int .i64 0, .int .i64 0, .int .i64 0, .int .i64 0, .int .i64 0] 50)
  have b1 : Below W.heap.size W (W.alloc (.cells #[.int .i64 0, .int .i64 0, .int .i64 0, .int .i64 0, .int .i64 0] 50)) := (Below.refl _ _).alloc (Nat.le_refl _) _
  rw [hB] at n1 b1
  have HWB := hidA hB
  clear hN hv hE hc
  by_cases hz : c = 0
  · subst hz
    obtain ⟨hgd, hlen⟩ := aud_gd HC.out
    have HGD := hidA hgd
    have hN1 : (N : Int) ≤ 1000 := by have := HN.out; omega
    clear hgd hlen
    go_upto_region 7 with fail
    generalize W.alloc (.cells #[.int .i64 0, .int .i64 0, .int .i64 0, .int .i64 0, .int .i64 0] 50) = W1 at n1 b1 ⊢
    have HB1 := hidA b1
    have HR1 := hidA n1
    clear n1 b1 hB
    go_upto_region 8 with fail
    go_loopw [11] (fun i wr => ∃ (k : Nat) (m0 m4 : Int), k ≤ N ∧ i = .int .i64 (k : Int) ∧ Below B W wr ∧ Hid (wr.heap[B]? = some (.cells #[.int .i64 m0, .int .i64 (cntE 1 (es.take k) : Nat), .int .i64 (cntE 2 (es.take k) : Nat), .int .i64 (cntE 3 (es.take k) : Nat), .int .i64 m4] 50 (0, 0)))) (fun i _ => N - (intOf i).toNat)
    case atStart => exact ⟨0, 0, 0, by omega, by go_num, HB1.out, HR1.out⟩
    case round =>
      obtain ⟨k, m0, m4, hk, rfl, hb, HR⟩ := hrel
      have HB2 := hidA hb
      clear hb
      by_cases hkn : k < N
      · have i1 : (k : Int) < (N : Int) := by omega
        have i2 : (0 : Int) ≤ (k : Int) := by omega
        have hkl : k < es.length := by rw [HN.out]; exact hkn
        obtain ⟨c1, c2, b, off, rfl⟩ := HV.out.capOk (by omega)
        have hE2 := (HV.out.cells k hkl).blk (HB2.out.block b (by rw [← HWB.out]; exact (HV.out.cells k hkl).lt))
        obtain ⟨q0, qn, q2, qr⟩ := hE2
        have hwt := wrN_what (HGD.out k hkl hkl)
        obtain ⟨p1, p2⟩ := And.intro hwt.2.2.2.1 hwt.2.2.2.2.1
        have t1 := cntE_take 1 hkl
        have t2 := cntE_take 2 hkl
        have t3 := cntE_take 3 hkl
        have l1 := cntE_le 1 es k
        have l2 := cntE_le 2 es k
        have l3 := cntE_le 3 es k
        generalize es[k].what = q at q2 p1 p2 t1 t2 t3
        have r1 : wr.cell? ⟨B, 1, none⟩ = some (.int .i64 (cntE 1 (es.take k) : Nat)) := by rw [cell_of_row wr B 1 _ _ (0, 0) HR.out]; rfl
        have r2 : wr.cell? ⟨B, 2, none⟩ = some (.int .i64 (cntE 2 (es.take k) : Nat)) := by rw [cell_of_row wr B 2 _ _ (0, 0) HR.out]; rfl
        have r3 : wr.cell? ⟨B, 3, none⟩ = some (.int .i64 (cntE 3 (es.take k) : Nat)) := by rw [cell_of_row wr B 3 _ _ (0, 0) HR.out]; rfl
        have r4 : wr.cell? ⟨B, 4, none⟩ = some (.int .i64 m4) := by rw [cell_of_row wr B 4 _ _ (0, 0) HR.out]; rfl
        have f1 := frozen_of_row wr B 1 _ _ HR.out
        have f2 := frozen_of_row wr B 2 _ _ HR.out
        have f3 := frozen_of_row wr B 3 _ _ HR.out
        have f4 := frozen_of_row wr B 4 _ _ HR.out
        have HT1 := hidA t1
        have HT2 := hidA t2
        have HT3 := hidA t3
        have hw1 : wrap64 ((cntE 1 (es.take k) : Int) + 1) = (cntE 1 (es.take k) : Int) + 1 := w64_succ (Int.natCast_nonneg _) (by omega)
        have hw2 : wrap64 ((cntE 2 (es.take k) : Int) + 1) = (cntE 2 (es.take k) : Int) + 1 := w64_succ (Int.natCast_nonneg _) (by omega)
        have hw3 : wrap64 ((cntE 3 (es.take k) : Int) + 1) = (cntE 3 (es.take k) : Int) + 1 := w64_succ (Int.natCast_nonneg _) (by omega)
        have hwk : wrap64 ((k : Int) + 1) = (k : Int) + 1 := w64_succ i2 (by omega)
        clear t1 t2 t3 l1 l2 l3 hwt q0 qn qr hkl
        rcases (by omega : q = 1 ∨ q = 2 ∨ q = 3 ∨ q = 4) with rfl | rfl | rfl | rfl
        · clear p1 p2
          go_upto_region 10 with fail
          go_region
          all_goals
            clear r1 r2 r3 r4 f1 f2 f3 f4 hw1 hw2 hw3 q2 c1 c2 i1 i2
            iterate 14 (try go_step)
            refine And.intro ?rel ?measure
            case rel => exact ⟨_, _, _, _, _, _, _, _, _, _, _, _, _, _, _, _, _, _, _, _, _, _, _, _, _, ⟨k + 1, m0, m4, by omega, by go_num, (HB2.out.setCell (p := ⟨B, 1, none⟩) (Nat.le_refl _) _).drew, by
              have h := heap_setCell_same wr B 1 _ _ (.int .i64 ((cntE 1 (es.take k) : Int) + 1)) HR.out
              rw [HT1.out, HT2.out, HT3.out, if_pos rfl, if_neg (by decide), if_neg (by decide), Int.add_zero, Int.add_zero]; exact h⟩, rfl⟩
            case measure => simp [intOf]; omega
        · clear p1 p2
          go_upto_region 10 with fail
          go_region
          all_goals
            clear r1 r2 r3 r4 f1 f2 f3 f4 hw1 hw2 hw3 q2 c1 c2 i1 i2
            iterate 14 (try go_step)
            refine And.intro ?rel ?measure
            case rel => exact ⟨_, _, _, _, _, _, _, _, _, _, _, _, _, _, _, _, _, _, _, _, _, _, _, _, _, ⟨k + 1, m0, m4, by omega, by go_num, (HB2.out.setCell (p := ⟨B, 2, none⟩) (Nat.le_refl _) _).drew, by
              have h := heap_setCell_same wr B 2 _ _ (.int .i64 ((cntE 2 (es.take k) : Int) + 1)) HR.out
              rw [HT1.out, HT2.out, HT3.out, if_pos rfl, if_neg (by decide), if_neg (by decide), Int.add_zero, Int.add_zero]; exact h⟩, rfl⟩
            case measure => simp [intOf]; omega
        · clear p1 p2
          go_upto_region 10 with fail
          go_region
          all_goals
            clear r1 r2 r3 r4 f1 f2 f3 f4 hw1 hw2 hw3 q2 c1 c2 i1 i2
            iterate 14 (try go_step)
            refine And.intro ?rel ?measure
            case rel => exact ⟨_, _, _, _, _, _, _, _, _, _, _, _, _, _, _, _, _, _, _, _, _, _, _, _, _, ⟨k + 1, m0, m4, by omega, by go_num, (HB2.out.setCell (p := ⟨B, 3, none⟩) (Nat.le_refl _) _).drew, by
              have h := heap_setCell_same wr B 3 _ _ (.int .i64 ((cntE 3 (es.take k) : Int) + 1)) HR.out
              rw [HT1.out, HT2.out, HT3.out, if_pos rfl, if_neg (by decide), if_neg (by decide), Int.add_zero, Int.add_zero]; exact h⟩, rfl⟩
            case measure => simp [intOf]; omega
        · clear p1 p2
          go_upto_region 10 with fail
          go_region
          all_goals
            clear r1 r2 r3 r4 f1 f2 f3 f4 hw1 hw2 hw3 q2 c1 c2 i1 i2
            iterate 14 (try go_step)
            refine And.intro ?rel ?measure
            case rel => exact ⟨_, _, _, _, _, _, _, _, _, _, _, _, _, _, _, _, _, _, _, _, _, _, _, _, _, ⟨k + 1, m0, _, by omega, by go_num, (HB2.out.setCell (p := ⟨B, 4, none⟩) (Nat.le_refl _) _).drew, by
              have h := heap_setCell_same wr B 4 _ _ (.int .i64 (wrap64 (m4 + 1))) HR.out
              rw [HT1.out, HT2.out, HT3.out, if_neg (by decide), if_neg (by decide), if_neg (by decide), Int.add_zero, Int.add_zero, Int.add_zero]; exact h⟩, rfl⟩
            case measure => simp [intOf]; omega
      · have i1 : ¬ (k : Int) < (N : Int) := by omega
        have hkN : k = N := by omega
        have HTK := hidA (show es.take k = es by rw [hkN]; exact List.take_of_length_le (by rw [HN.out]; exact Nat.le_refl _))
        rw [HTK.out] at HR
        have HX := hidA (HBL.out.trans ((by rw [HWB.out]; exact HB2.out : Below W.heap.size W wr).mono HBL.out.size))
        have HS := hidA (show (if (0 : Int) = 0 then #[.int .i64 (cntE 1 es : Nat), .int .i64 (cntE 2 es : Nat), .int .i64 (cntE 3 es : Nat), .nilIface] else #[.int .i64 0, .int .i64 0, .int .i64 0, auV 0]) = (#[.int .i64 (cntE 1 es : Nat), .int .i64 (cntE 2 es : Nat), .int .i64 (cntE 3 es : Nat), auV 0] : Array Value) from rfl)
        have HBW : Hid (Below W.heap.size W wr) := by rw [HWB.out]; exact HB2.out
        clear hkn hkN
        repeat (first | (show Code.wp _ (Code.seq (Code.region 11 _ _) _) _ _ _; refine ac_t11 es t 0 _ _ _ _ _ _ _ _ _ _ _ Q _ (by kernel_rfl) HN.out (HV.out.below HBW.out) (HE.out.below HBW.out) HC.out HR.out HS.out HX.out _ _ _ _ _ _ _ _ _ _ _ _ _ _ _ _ _ _ _ _ _ _ _ _ _ _ _ _ _ _ _ _ _ _ _ _ _ _ _ _ _ _ _ _ _ _ _ _ _ _ _ _ _ _ _ _ _ _ _ _ _ _ _ _ _ _ _ _ _ _ _ _ _ _ _ _ _ _ _ _ _ _ _ _ _ _ _ _ _ _ _ _ _ _ _ _ _ _ _ _ _ _ _ _ _ _ _ _ _ _ _ _ _ _ _ _ _ _ _ _ _ _ _ _ _ _ _ _ _ _ _ _ _ _ _ _ _ _ _ _ _ _ _ _ _ _ _ _ _ _ _ _ _ _ _ _ _ _ _ _ _ _ _ _ _ _ _ _ _ _ _ _ _ _ _ _ _ _ _ _ _ _ _ _ _ _ _ _ _ _ _ _ _ _ _ _ _ _ _ _ _ _ _ _ _ _ _ _ _ _ _ _ _ _ _ _ _ _ _ _ _ _ _ _ ?_) | go_step)
        exact HQ.out
  · have HZ := hidA hz
    have hzb : (c == 0) = false := by simpa using hz
    have HS := hidA (show (if c = 0 then #[.int .i64 (cntE 1 es : Nat), .int .i64 (cntE 2 es : Nat), .int .i64 (cntE 3 es : Nat), .nilIface] else #[.int .i64 0, .int .i64 0, .int .i64 0, auV c]) = (#[.int .i64 0, .int .i64 0, .int .i64 0, auV c] : Array Value) from if_neg hz)
    go_upto_region 7 with fail
    generalize W.alloc (.cells #[.int .i64 0, .int .i64 0, .int .i64 0, .int .i64 0, .int .i64 0] 50) = W1 at n1 b1 ⊢
    have HR1 := hidA n1
    have HBW : Hid (Below W.heap.size W W1) := by rw [HWB.out]; exact b1
    have HX := hidA (HBL.out.trans (HBW.out.mono HBL.out.size))
    clear n1 b1 hz hB
    go_upto_region 8 with fail
    go_loopw [11] (fun i wr => i = .int .i64 0 ∧ wr = W1) (fun i _ => 0)
    case atStart => exact ⟨by go_num, rfl⟩
    case round =>
      obtain ⟨rfl, rfl⟩ := hrel
      by_cases h0 : N = 0
      · subst h0
        repeat (first | (show Code.wp _ (Code.seq (Code.region 11 _ _) _) _ _ _; refine ac_t11 es t c 0 0 0 0 0 _ _ _ _ _ _ Q _ (by kernel_rfl) HN.out (HV.out.below HBW.out) (HE.out.below HBW.out) HC.out HR1.out HS.out HX.out _ _ _ _ _ _ _ _ _ _ _ _ _ _ _ _ _ _ _ _ _ _ _ _ _ _ _ _ _ _ _ _ _ _ _ _ _ _ _ _ _ _ _ _ _ _ _ _ _ _ _ _ _ _ _ _ _ _ _ _ _ _ _ _ _ _ _ _ _ _ _ _ _ _ _ _ _ _ _ _ _ _ _ _ _ _ _ _ _ _ _ _ _ _ _ _ _ _ _ _ _ _ _ _ _ _ _ _ _ _ _ _ _ _ _ _ _ _ _ _ _ _ _ _ _ _ _ _ _ _ _ _ _ _ _ _ _ _ _ _ _ _ _ _ _ _ _ _ _ _ _ _ _ _ _ _ _ _ _ _ _ _ _ _ _ _ _ _ _ _ _ _ _ _ _ _ _ _ _ _ _ _ _ _ _ _ _ _ _ _ _ _ _ _ _ _ _ _ _ _ _ _ _ _ _ _ _ _ _ _ _ _ _ _ _ _ _ _ _ _ _ _ _ _ ?_) | go_step)
        exact HQ.out
      · have h0' : (0 : Int) < (N : Int) := by omega
        have h0'' : 0 < N := by omega
        repeat (first | (show Code.wp _ (Code.seq (Code.region 11 _ _) _) _ _ _; refine ac_t11 es t c 0 0 0 0 0 _ _ _ _ _ _ Q _ (by kernel_rfl) HN.out (HV.out.below HBW.out) (HE.out.below HBW.out) HC.out HR1.out HS.out HX.out _ _ _ _ _ _ _ _ _ _ _ _ _ _ _ _ _ _ _ _ _ _ _ _ _ _ _ _ _ _ _ _ _ _ _ _ _ _ _ _ _ _ _ _ _ _ _ _ _ _ _ _ _ _ _ _ _ _ _ _ _ _ _ _ _ _ _ _ _ _ _ _ _ _ _ _ _ _ _ _ _ _ _ _ _ _ _ _ _ _ _ _ _ _ _ _ _ _ _ _ _ _ _ _ _ _ _ _ _ _ _ _ _ _ _ _ _ _ _ _ _ _ _ _ _ _ _ _ _ _ _ _ _ _ _ _ _ _ _ _ _ _ _ _ _ _ _ _ _ _ _ _ _ _ _ _ _ _ _ _ _ _ _ _ _ _ _ _ _ _ _ _ _ _ _ _ _ _ _ _ _ _ _ _ _ _ _ _ _ _ _ _ _ _ _ _ _ _ _ _ _ _ _ _ _ _ _ _ _ _ _ _ _ _ _ _ _ _ _ _ _ _ _ _ ?_) | go_step)
        exact HQ.out
end Go.Proofs.YtfgaalhaeadhmaaDoor
