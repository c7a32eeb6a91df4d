/- The law TrackEnds of package portlaw4 returns true, for all numbers, where the table of lives and errors.errorType hold what the rows lay; the walk of its text. -/
import Derived.Test.YtiigoeecklelpaaDoorMgV
import Derived.Test.YtiigoeecklelpaaDoorMgT
import Derived.Test.YtiigoeecklelpaaDoorEqFl
import Derived.Test.YtiigoeecklelpaaDoorTold
import Derived.Deep.DeepMust
import Derived.Deep.DeepCutAuto
import Derived.Lib.SlBytesConst
import Derived.Lib.SmallJoins
namespace Go.Proofs.YtiigoeecklelpaaDoor
open Go.RowKit
set_option linter.unusedVariables false

theorem bytes_none (w : World) : Bytes w (.slice none 0 0) [] := .inl ⟨rfl, _, _, rfl, fun _ => rfl⟩
/-- Flows in blocks of their own. -/
def Fls (w W : World) (l : List (Nat × Fl)) : Prop := Below w.heap.size w W ∧ ∀ p ∈ l, FlAt W p.1 p.2
theorem Fls.step {w W W' : World} {l : List (Nat × Fl)} (h : Fls w W l) (hb : Below W.heap.size W W') : Fls w W' l :=
  ⟨h.1.trans (hb.mono h.1.size), fun p hp => (h.2 p hp).below (h.2 p hp).lt hb⟩
theorem Fls.add {w W : World} {l : List (Nat × Fl)} {B : Nat} {f : Fl} (h : Fls w W l) (hf : FlAt W B f) : Fls w W ((B, f) :: l) :=
  ⟨h.1, fun p hp => by
    rcases List.mem_cons.1 hp with rfl | hp
    · exact hf
    · exact h.2 p hp⟩
theorem en_cells {W : World} {B : Nat} {a b st unt stp h0 h1 w1 : Int} {d0 d1 : Bool} (h : FlAt W B (enF a b st unt stp h0 h1 w1 d0 d1)) :
    W.cell? ⟨B, 0, none⟩ = some (.int .i64 1) ∧ W.cell? ⟨B, 1, none⟩ = some (.int .i64 1) ∧ W.cell? ⟨B, 2, none⟩ = some (.int .i64 a) ∧ W.cell? ⟨B, 3, none⟩ = some (.int .i64 2) ∧ W.cell? ⟨B, 4, none⟩ = some (.int .i64 b) ∧ W.cell? ⟨B, 5, none⟩ = some (.int .i64 st) ∧ W.cell? ⟨B, 6, none⟩ = some (.int .i64 unt) ∧ W.cell? ⟨B, 7, none⟩ = some (.int .i64 stp) ∧ W.cell? ⟨B, 8, none⟩ = some (.int .i64 h0) ∧ W.cell? ⟨B, 9, none⟩ = some (.int .i64 h1) ∧ W.cell? ⟨B, 10, none⟩ = some (.int .i64 100) ∧ W.cell? ⟨B, 11, none⟩ = some (.int .i64 w1) ∧ W.cell? ⟨B, 12, none⟩ = some (.bool d0) ∧ W.cell? ⟨B, 13, none⟩ = some (.bool d1) ∧ W.cell? ⟨B, 14, none⟩ = some (.int .i64 0) := h.cells
theorem en_new (W : World) (a b st unt stp h0 h1 w1 : Int) (d0 d1 : Bool) : FlAt (W.alloc (.cells #[.int .i64 1, .int .i64 1, .int .i64 a, .int .i64 2, .int .i64 b, .int .i64 st, .int .i64 unt, .int .i64 stp, .int .i64 h0, .int .i64 h1, .int .i64 100, .int .i64 w1, .bool d0, .bool d1, .int .i64 0] 30)) W.heap.size (enF a b st unt stp h0 h1 w1 d0 d1) := FlAt.new W (enF a b st unt stp h0 h1 w1 d0 d1)
theorem step_en {f g : Fl} {s : Sg} {bv : Value} {side now : Int} (h : stpE f s side now = 0 ∧ stpF f s side now = g) (w : World) (hb : Bytes w bv s.body) (hL : Lives w) :
    Calls Tryd.prog 13 #[flV f, segV s bv, .int .i64 side, .int .i64 now] w fun e w' => e = .returned (.tuple #[flV g, .nilIface]) ∧ Below w.heap.size w w' := by
  have h1 := step_any f s bv side now w hb hL
  rw [h.1, h.2, errV_ok] at h1
  exact h1
theorem bytes_1 (w : World) : Bytes (w.alloc (.cells #[.int .u8 120] 5 (1, 2))) (.slice (some ⟨w.heap.size, 0, none⟩) 1 1) [120] := by
  have h := World.cell?_alloc_mark w #[.int .u8 120] 5 (1, 2)
  refine .inr ⟨w.heap.size, 0, 1, 1, rfl, Nat.le_refl _, by unfold maxLen; omega, by omega, rfl, fun i hi => ?_, by intro x hx; simp at hx; omega⟩
  have : i = 0 := by simp at hi; omega
  subst this
  exact h 0
theorem bytes_3 (w : World) : Bytes (w.alloc (.cells #[.int .u8 97, .int .u8 98, .int .u8 99] 5 (3, 4))) (.slice (some ⟨w.heap.size, 0, none⟩) 3 3) [97, 98, 99] := by
  have h := World.cell?_alloc_mark w #[.int .u8 97, .int .u8 98, .int .u8 99] 5 (3, 4)
  refine .inr ⟨w.heap.size, 0, 3, 3, rfl, Nat.le_refl _, by unfold maxLen; omega, by omega, rfl, fun i hi => ?_, by intro x hx; simp at hx; omega⟩
  have : i = 0 ∨ i = 1 ∨ i = 2 := by simp at hi; omega
  rcases this with rfl | rfl | rfl
  · exact h 0
  · exact h 1
  · exact h 2

/-- What is left of a code from a region on. -/
def tailOf (n : Nat) : Code → Option Code
  | .seq a b => match tailOf n a with
    | some c => some (.seq c b)
    | none => tailOf n b
  | .region m ops d => match Nat.beq m n with
    | true => some (.region m ops d)
    | false => none
  | _ => none
noncomputable def enTail (n : Nat) : Code := (tailOf n (Tryd.f6.body.getD .skip)).getD .skip
set_option maxRecDepth 100000 in
set_option maxHeartbeats 32000000 in
theorem en_t15 (Q : Ending → World → Prop) (a b y now p q p3 p4 q1 : Int) (w W4 : World) (C : Code) (hC : C = enTail 15) (hn : 0 ≤ now ∧ now ≤ 900000) (hpr : 0 ≤ p ∧ p ≤ 4294967295) (hqr : 0 ≤ q ∧ q ≤ 4294967295) (h3r : 0 ≤ p3 ∧ p3 ≤ 4294967295) (h4r : 0 ≤ p4 ∧ p4 ≤ 4294967295) (hp3 : (p + 3) % 4294967296 = p3) (hp4 : (p + 4) % 4294967296 = p4)
    (HQ : Hid (∀ w', Below w.heap.size w w' → Q (.returned (.bool true)) w')) (HER : Hid (∀ (W : World), Below w.heap.size w W → ErrLaid W))
    (BG BH BI : Nat) (h4 : Fls w W4 [(BI, (enF a b 3 (now + 64) 5 p4 q 100 true false)), (BH, (enF a b 2 (now + 303) 4 p3 q 100 false false)), (BG, (enF a b 2 (now + 302) 3 p q 100 false false))])
    (c5 : Hid (∀ (W : World) (hB : Below w.heap.size w W), Calls Tryd.prog 13 #[flV (enF a b 3 (now + 64) 5 p4 q 100 true false), segV (enS b a q p4 100 9 []) (.slice none 0 0), .int .i64 1, .int .i64 (now + 5)] W fun e w' => e = .returned (.tuple #[flV (enF a b 4 (now + 15) 6 p4 q1 100 true true), .nilIface]) ∧ Below W.heap.size W w'))
    (c6 : Hid (∀ (W : World) (bv : Value) (hb : Bytes W bv [120]) (hB : Below w.heap.size w W), Calls Tryd.prog 13 #[flV (enF a b 4 (now + 15) 6 p4 q1 100 true true), segV (enS a b p4 0 1 0 [120]) bv, .int .i64 0, .int .i64 (now + 6)] W fun e w' => e = .returned (.tuple #[flV zeroF, .iface 55 (.int .i64 6)]) ∧ Below W.heap.size W w'))
    (v2 v5 v6 v7 v8 v9 v10 v11 v12 v13 v14 v15 v24 v25 v26 v27 v28 v29 v30 v31 v32 v33 v34 v35 v36 v37 v38 v39 v40 v41 v42 v43 v44 v45 v46 v47 v48 v49 v50 v51 v52 v53 v54 v55 v56 v57 v58 v59 v60 v61 v62 v63 v64 v65 v66 v67 v68 v69 v70 v71 v72 v73 v74 v75 v76 v77 v78 v79 v80 v81 v82 v83 v84 v85 v86 v87 v88 v89 v90 v91 v92 v93 v94 v95 v96 v97 v98 v99 v100 v101 v102 v103 v104 v105 v106 v107 v108 v109 v110 v111 v112 v113 v114 v115 v116 v117 v118 v119 v120 v121 v122 v123 v124 v125 v126 v127 v128 v129 v130 v131 v132 v133 v134 v135 v136 v137 v138 v139 v140 v141 v142 v143 v144 v145 v146 v147 v148 v149 v150 v151 v152 v153 v154 v155 v156 v157 v158 v159 v160 v161 v162 v163 v164 v165 v166 v167 v168 v169 v170 v171 v172 v173 v174 v175 v176 v177 v178 v179 v180 v181 v182 v183 v184 v185 v186 v187 v188 v189 v190 v191 v192 v193 v194 v195 v196 v197 v198 v199 v200 v201 v202 v203 v204 v205 v206 v207 v208 v209 v210 v211 : Value) :
    Code.wp Tryd.prog C (bodyPost Tryd.prog Tryd.f6 Q) { tmps := #[.int .i64 a, .int .i64 b, v2, .int .i64 y, .int .i64 now, v5, v6, v7, v8, v9, v10, v11, v12, v13, v14, v15, .int .i64 p, .int .i64 q, .pointer (some ⟨BG, 0, none⟩), .nilIface, .pointer (some ⟨BH, 0, none⟩), .nilIface, .pointer (some ⟨BI, 0, none⟩), .nilIface, v24, v25, v26, v27, v28, v29, v30, v31, v32, v33, v34, v35, v36, v37, v38, v39, v40, v41, v42, v43, v44, v45, v46, v47, v48, v49, v50, v51, v52, v53, v54, v55, v56, v57, v58, v59, v60, v61, v62, v63, v64, v65, v66, v67, v68, v69, v70, v71, v72, v73, v74, v75, v76, v77, v78, v79, v80, v81, v82, v83, v84, v85, v86, v87, v88, v89, v90, v91, v92, v93, v94, v95, v96, v97, v98, v99, v100, v101, v102, v103, v104, v105, v106, v107, v108, v109, v110, v111, v112, v113, v114, v115, v116, v117, v118, v119, v120, v121, v122, v123, v124, v125, v126, v127, v128, v129, v130, v131, v132, v133, v134, v135, v136, v137, v138, v139, v140, v141, v142, v143, v144, v145, v146, v147, v148, v149, v150, v151, v152, v153, v154, v155, v156, v157, v158, v159, v160, v161, v162, v163, v164, v165, v166, v167, v168, v169, v170, v171, v172, v173, v174, v175, v176, v177, v178, v179, v180, v181, v182, v183, v184, v185, v186, v187, v188, v189, v190, v191, v192, v193, v194, v195, v196, v197, v198, v199, v200, v201, v202, v203, v204, v205, v206, v207, v208, v209, v210, v211], defers := [] } W4 := by
  subst hC
  conv =>
    arg 2
    unfold enTail
    unfold Tryd.f6
    simp only [Option.getD_some, tailOf]
  have kc := fun (w : World) (C : Array Value) (n c : Nat) => Lib.run_convert_bytes_const (P := Tryd.prog) w 24 5 C n c Tryd.underlying24 Tryd.underlying5
  obtain ⟨d0, d1, d2, d3, d4, d5, d6, d7, d8, d9, d10, d11, d12, d13, d14⟩ := en_cells (h4.2 (BI, (enF a b 3 (now + 64) 5 p4 q 100 true false)) (by simp))
  have hc := c5.out W4 h4.1
  rw [show flV (enF a b 3 (now + 64) 5 p4 q 100 true false) = .agg #[.int .i64 1, .int .i64 1, .int .i64 a, .int .i64 2, .int .i64 b, .int .i64 3, .int .i64 (now + 64), .int .i64 5, .int .i64 p4, .int .i64 q, .int .i64 100, .int .i64 100, .bool true, .bool false, .int .i64 0] from rfl, show flV (enF a b 4 (now + 15) 6 p4 q1 100 true true) = .agg #[.int .i64 1, .int .i64 1, .int .i64 a, .int .i64 2, .int .i64 b, .int .i64 4, .int .i64 (now + 15), .int .i64 6, .int .i64 p4, .int .i64 q1, .int .i64 100, .int .i64 100, .bool true, .bool true, .int .i64 0] from rfl] at hc
  unfold segV enS at hc
  simp only at hc
  go_upto_region 16 with (go_at_call 13; go_must (refine hc.mono ?_; rintro e X ⟨rfl, bX⟩))
  have hh := h4.step bX
  have h5 := ((hh).step ((Below.refl _ _).alloc (Nat.le_refl _) (.cells #[.int .i64 1, .int .i64 1, .int .i64 a, .int .i64 2, .int .i64 b, .int .i64 4, .int .i64 (now + 15), .int .i64 6, .int .i64 p4, .int .i64 q1, .int .i64 100, .int .i64 100, .bool true, .bool true, .int .i64 0] 30))).add (en_new X a b (4) (now + 15) (6) (p4) (q1) (100) (true) (true))
  obtain ⟨W5, hW5⟩ : ∃ Z9, X.alloc (.cells #[.int .i64 1, .int .i64 1, .int .i64 a, .int .i64 2, .int .i64 b, .int .i64 4, .int .i64 (now + 15), .int .i64 6, .int .i64 p4, .int .i64 q1, .int .i64 100, .int .i64 100, .bool true, .bool true, .int .i64 0] 30) = Z9 := ⟨_, rfl⟩
  obtain ⟨BJ, hB5⟩ : ∃ Z9, X.heap.size = Z9 := ⟨_, rfl⟩
  rw [hW5, hB5] at h5
  rw [hW5, hB5]
  clear hW5 hB5 bX hc hh d0 d1 d2 d3 d4 d5 d6 d7 d8 d9 d10 d11 d12 d13 d14 h4
  go_upto_region 18 with fail
  obtain ⟨d0, d1, d2, d3, d4, d5, d6, d7, d8, d9, d10, d11, d12, d13, d14⟩ := en_cells (h5.2 (BJ, (enF a b 4 (now + 15) 6 p4 q1 100 true true)) (by simp))
  have hB1 := bytes_1 W5
  have hA1 := h5.step ((Below.refl _ _).alloc (Nat.le_refl _) (.cells #[.int .u8 120] 5 (1, 2)))
  have hc := c6.out _ _ hB1 hA1.1
  rw [show flV (enF a b 4 (now + 15) 6 p4 q1 100 true true) = .agg #[.int .i64 1, .int .i64 1, .int .i64 a, .int .i64 2, .int .i64 b, .int .i64 4, .int .i64 (now + 15), .int .i64 6, .int .i64 p4, .int .i64 q1, .int .i64 100, .int .i64 100, .bool true, .bool true, .int .i64 0] from rfl, show flV zeroF = .agg #[.int .i64 0, .int .i64 0, .int .i64 0, .int .i64 0, .int .i64 0, .int .i64 0, .int .i64 0, .int .i64 0, .int .i64 0, .int .i64 0, .int .i64 0, .int .i64 0, .bool false, .bool false, .int .i64 0] from rfl] at hc
  unfold segV enS at hc
  simp only at hc
  go_upto_region 19 with (go_at_call 13; go_must (refine hc.mono ?_; rintro e X ⟨rfl, bX⟩))
  have h11 := (hA1.step bX).step ((Below.refl _ _).alloc (Nat.le_refl _) (.cells #[.int .i64 0, .int .i64 0, .int .i64 0, .int .i64 0, .int .i64 0, .int .i64 0, .int .i64 0, .int .i64 0, .int .i64 0, .int .i64 0, .int .i64 0, .int .i64 0, .bool false, .bool false, .int .i64 0] 30))
  obtain ⟨W11, hW11⟩ : ∃ Y, X.alloc (.cells #[.int .i64 0, .int .i64 0, .int .i64 0, .int .i64 0, .int .i64 0, .int .i64 0, .int .i64 0, .int .i64 0, .int .i64 0, .int .i64 0, .int .i64 0, .int .i64 0, .bool false, .bool false, .int .i64 0] 30) = Y := ⟨_, rfl⟩
  rw [hW11] at h11 ⊢
  clear hW11 bX hc hA1 hB1 h5 d0 d1 d2 d3 d4 d5 d6 d7 d8 d9 d10 d11 d12 d13 d14
  have hEr := error_val (v := .iface 55 (.int .i64 6)) (k := 6) (.inr rfl) 6 W11 (HER.out _ h11.1)
  rw [show ((6 : Int) == 6) = true from rfl] at hEr
  go_upto_region 20 with (go_at_call 9; go_must (refine hEr.mono ?_; rintro e Y ⟨rfl, bY⟩))
  have h12 := h11.step bY
  clear hEr bY h11
  obtain ⟨g0, g1, g2, g3, g4, g5, g6, g7, g8, g9, g10, g11, g12, g13, g14⟩ := en_cells (h12.2 (BG, (enF a b 2 (now + 302) 3 p q 100 false false)) (by simp))
  obtain ⟨d0, d1, d2, d3, d4, d5, d6, d7, d8, d9, d10, d11, d12, d13, d14⟩ := en_cells (h12.2 (BH, (enF a b 2 (now + 303) 4 p3 q 100 false false)) (by simp))
  obtain ⟨f0, f1, f2, f3, f4, f5, f6, f7, f8, f9, f10, f11, f12, f13, f14⟩ := en_cells (h12.2 (BI, (enF a b 3 (now + 64) 5 p4 q 100 true false)) (by simp))
  obtain ⟨j0, j1, j2, j3, j4, j5, j6, j7, j8, j9, j10, j11, j12, j13, j14⟩ := en_cells (h12.2 (BJ, (enF a b 4 (now + 15) 6 p4 q1 100 true true)) (by simp))
  have HF := hidE (HQ.out _ h12.1)
  go_wp2_with fail
  exact HF.out
set_option maxRecDepth 100000 in
set_option maxHeartbeats 32000000 in
theorem en_t12 (Q : Ending → World → Prop) (a b y now p q p3 p4 q1 : Int) (w W4 : World) (C : Code) (hC : C = enTail 12) (hn : 0 ≤ now ∧ now ≤ 900000) (hpr : 0 ≤ p ∧ p ≤ 4294967295) (hqr : 0 ≤ q ∧ q ≤ 4294967295) (h3r : 0 ≤ p3 ∧ p3 ≤ 4294967295) (h4r : 0 ≤ p4 ∧ p4 ≤ 4294967295) (hp3 : (p + 3) % 4294967296 = p3) (hp4 : (p + 4) % 4294967296 = p4)
    (HQ : Hid (∀ w', Below w.heap.size w w' → Q (.returned (.bool true)) w')) (HER : Hid (∀ (W : World), Below w.heap.size w W → ErrLaid W))
    (BR : Nat) (h4 : Fls w W4 [(BR, (enF a b 1 (now + 31) 2 p 0 0 false false))])
    (c2 : Hid (∀ (W : World) (hB : Below w.heap.size w W), Calls Tryd.prog 13 #[flV (enF a b 1 (now + 31) 2 p 0 0 false false), segV (enS b a y p 100 10 []) (.slice none 0 0), .int .i64 1, .int .i64 (now + 2)] W fun e w' => e = .returned (.tuple #[flV (enF a b 2 (now + 302) 3 p q 100 false false), .nilIface]) ∧ Below W.heap.size W w'))
    (c3 : Hid (∀ (W : World) (bv : Value) (hb : Bytes W bv [97, 98, 99]) (hB : Below w.heap.size w W), Calls Tryd.prog 13 #[flV (enF a b 2 (now + 302) 3 p q 100 false false), segV (enS a b p q 100 8 [97, 98, 99]) bv, .int .i64 0, .int .i64 (now + 3)] W fun e w' => e = .returned (.tuple #[flV (enF a b 2 (now + 303) 4 p3 q 100 false false), .nilIface]) ∧ Below W.heap.size W w'))
    (c4 : Hid (∀ (W : World) (hB : Below w.heap.size w W), Calls Tryd.prog 13 #[flV (enF a b 2 (now + 303) 4 p3 q 100 false false), segV (enS a b p3 q 100 9 []) (.slice none 0 0), .int .i64 0, .int .i64 (now + 4)] W fun e w' => e = .returned (.tuple #[flV (enF a b 3 (now + 64) 5 p4 q 100 true false), .nilIface]) ∧ Below W.heap.size W w'))
    (c5 : Hid (∀ (W : World) (hB : Below w.heap.size w W), Calls Tryd.prog 13 #[flV (enF a b 3 (now + 64) 5 p4 q 100 true false), segV (enS b a q p4 100 9 []) (.slice none 0 0), .int .i64 1, .int .i64 (now + 5)] W fun e w' => e = .returned (.tuple #[flV (enF a b 4 (now + 15) 6 p4 q1 100 true true), .nilIface]) ∧ Below W.heap.size W w'))
    (c6 : Hid (∀ (W : World) (bv : Value) (hb : Bytes W bv [120]) (hB : Below w.heap.size w W), Calls Tryd.prog 13 #[flV (enF a b 4 (now + 15) 6 p4 q1 100 true true), segV (enS a b p4 0 1 0 [120]) bv, .int .i64 0, .int .i64 (now + 6)] W fun e w' => e = .returned (.tuple #[flV zeroF, .iface 55 (.int .i64 6)]) ∧ Below W.heap.size W w'))
    (v2 v5 v6 v7 v8 v9 v10 v11 v12 v13 v15 v18 v19 v20 v21 v22 v23 v24 v25 v26 v27 v28 v29 v30 v31 v32 v33 v34 v35 v36 v37 v38 v39 v40 v41 v42 v43 v44 v45 v46 v47 v48 v49 v50 v51 v52 v53 v54 v55 v56 v57 v58 v59 v60 v61 v62 v63 v64 v65 v66 v67 v68 v69 v70 v71 v72 v73 v74 v75 v76 v77 v78 v79 v80 v81 v82 v83 v84 v85 v86 v87 v88 v89 v90 v91 v92 v93 v94 v95 v96 v97 v98 v99 v100 v101 v102 v103 v104 v105 v106 v107 v108 v109 v110 v111 v112 v113 v114 v115 v116 v117 v118 v119 v120 v121 v122 v123 v124 v125 v126 v127 v128 v129 v130 v131 v132 v133 v134 v135 v136 v137 v138 v139 v140 v141 v142 v143 v144 v145 v146 v147 v148 v149 v150 v151 v152 v153 v154 v155 v156 v157 v158 v159 v160 v161 v162 v163 v164 v165 v166 v167 v168 v169 v170 v171 v172 v173 v174 v175 v176 v177 v178 v179 v180 v181 v182 v183 v184 v185 v186 v187 v188 v189 v190 v191 v192 v193 v194 v195 v196 v197 v198 v199 v200 v201 v202 v203 v204 v205 v206 v207 v208 v209 v210 v211 : Value) :
    Code.wp Tryd.prog C (bodyPost Tryd.prog Tryd.f6 Q) { tmps := #[.int .i64 a, .int .i64 b, v2, .int .i64 y, .int .i64 now, v5, v6, v7, v8, v9, v10, v11, v12, v13, .pointer (some ⟨BR, 0, none⟩), v15, .int .i64 p, .int .i64 q, v18, v19, v20, v21, v22, v23, v24, v25, v26, v27, v28, v29, v30, v31, v32, v33, v34, v35, v36, v37, v38, v39, v40, v41, v42, v43, v44, v45, v46, v47, v48, v49, v50, v51, v52, v53, v54, v55, v56, v57, v58, v59, v60, v61, v62, v63, v64, v65, v66, v67, v68, v69, v70, v71, v72, v73, v74, v75, v76, v77, v78, v79, v80, v81, v82, v83, v84, v85, v86, v87, v88, v89, v90, v91, v92, v93, v94, v95, v96, v97, v98, v99, v100, v101, v102, v103, v104, v105, v106, v107, v108, v109, v110, v111, v112, v113, v114, v115, v116, v117, v118, v119, v120, v121, v122, v123, v124, v125, v126, v127, v128, v129, v130, v131, v132, v133, v134, v135, v136, v137, v138, v139, v140, v141, v142, v143, v144, v145, v146, v147, v148, v149, v150, v151, v152, v153, v154, v155, v156, v157, v158, v159, v160, v161, v162, v163, v164, v165, v166, v167, v168, v169, v170, v171, v172, v173, v174, v175, v176, v177, v178, v179, v180, v181, v182, v183, v184, v185, v186, v187, v188, v189, v190, v191, v192, v193, v194, v195, v196, v197, v198, v199, v200, v201, v202, v203, v204, v205, v206, v207, v208, v209, v210, v211], defers := [] } W4 := by
  subst hC
  conv =>
    arg 2
    unfold enTail
    unfold Tryd.f6
    simp only [Option.getD_some, tailOf]
  have kc := fun (w : World) (C : Array Value) (n c : Nat) => Lib.run_convert_bytes_const (P := Tryd.prog) w 24 5 C n c Tryd.underlying24 Tryd.underlying5
  obtain ⟨d0, d1, d2, d3, d4, d5, d6, d7, d8, d9, d10, d11, d12, d13, d14⟩ := en_cells (h4.2 (BR, (enF a b 1 (now + 31) 2 p 0 0 false false)) (by simp))
  have hc := c2.out W4 h4.1
  rw [show flV (enF a b 1 (now + 31) 2 p 0 0 false false) = .agg #[.int .i64 1, .int .i64 1, .int .i64 a, .int .i64 2, .int .i64 b, .int .i64 1, .int .i64 (now + 31), .int .i64 2, .int .i64 p, .int .i64 0, .int .i64 100, .int .i64 0, .bool false, .bool false, .int .i64 0] from rfl, show flV (enF a b 2 (now + 302) 3 p q 100 false false) = .agg #[.int .i64 1, .int .i64 1, .int .i64 a, .int .i64 2, .int .i64 b, .int .i64 2, .int .i64 (now + 302), .int .i64 3, .int .i64 p, .int .i64 q, .int .i64 100, .int .i64 100, .bool false, .bool false, .int .i64 0] from rfl] at hc
  unfold segV enS at hc
  simp only at hc
  go_upto_region 13 with (go_at_call 13; go_must (refine hc.mono ?_; rintro e X ⟨rfl, bX⟩))
  have hh := h4.step bX
  have h5 := ((hh).step ((Below.refl _ _).alloc (Nat.le_refl _) (.cells #[.int .i64 1, .int .i64 1, .int .i64 a, .int .i64 2, .int .i64 b, .int .i64 2, .int .i64 (now + 302), .int .i64 3, .int .i64 p, .int .i64 q, .int .i64 100, .int .i64 100, .bool false, .bool false, .int .i64 0] 30))).add (en_new X a b (2) (now + 302) (3) (p) (q) (100) (false) (false))
  obtain ⟨W5, hW5⟩ : ∃ Z9, X.alloc (.cells #[.int .i64 1, .int .i64 1, .int .i64 a, .int .i64 2, .int .i64 b, .int .i64 2, .int .i64 (now + 302), .int .i64 3, .int .i64 p, .int .i64 q, .int .i64 100, .int .i64 100, .bool false, .bool false, .int .i64 0] 30) = Z9 := ⟨_, rfl⟩
  obtain ⟨BG, hB5⟩ : ∃ Z9, X.heap.size = Z9 := ⟨_, rfl⟩
  rw [hW5, hB5] at h5
  rw [hW5, hB5]
  clear hW5 hB5 bX hc hh d0 d1 d2 d3 d4 d5 d6 d7 d8 d9 d10 d11 d12 d13 d14 h4
  obtain ⟨d0, d1, d2, d3, d4, d5, d6, d7, d8, d9, d10, d11, d12, d13, d14⟩ := en_cells (h5.2 (BG, (enF a b 2 (now + 302) 3 p q 100 false false)) (by simp))
  have hB3 := bytes_3 W5
  have hA3 := h5.step ((Below.refl _ _).alloc (Nat.le_refl _) (.cells #[.int .u8 97, .int .u8 98, .int .u8 99] 5 (3, 4)))
  have hc := c3.out _ _ hB3 hA3.1
  rw [show flV (enF a b 2 (now + 302) 3 p q 100 false false) = .agg #[.int .i64 1, .int .i64 1, .int .i64 a, .int .i64 2, .int .i64 b, .int .i64 2, .int .i64 (now + 302), .int .i64 3, .int .i64 p, .int .i64 q, .int .i64 100, .int .i64 100, .bool false, .bool false, .int .i64 0] from rfl, show flV (enF a b 2 (now + 303) 4 p3 q 100 false false) = .agg #[.int .i64 1, .int .i64 1, .int .i64 a, .int .i64 2, .int .i64 b, .int .i64 2, .int .i64 (now + 303), .int .i64 4, .int .i64 p3, .int .i64 q, .int .i64 100, .int .i64 100, .bool false, .bool false, .int .i64 0] from rfl] at hc
  unfold segV enS at hc
  simp only at hc
  go_upto_region 14 with (go_at_call 13; go_must (refine hc.mono ?_; rintro e X ⟨rfl, bX⟩))
  have hh := hA3.step bX
  have h6 := ((hh).step ((Below.refl _ _).alloc (Nat.le_refl _) (.cells #[.int .i64 1, .int .i64 1, .int .i64 a, .int .i64 2, .int .i64 b, .int .i64 2, .int .i64 (now + 303), .int .i64 4, .int .i64 p3, .int .i64 q, .int .i64 100, .int .i64 100, .bool false, .bool false, .int .i64 0] 30))).add (en_new X a b (2) (now + 303) (4) (p3) (q) (100) (false) (false))
  obtain ⟨W6, hW6⟩ : ∃ Z9, X.alloc (.cells #[.int .i64 1, .int .i64 1, .int .i64 a, .int .i64 2, .int .i64 b, .int .i64 2, .int .i64 (now + 303), .int .i64 4, .int .i64 p3, .int .i64 q, .int .i64 100, .int .i64 100, .bool false, .bool false, .int .i64 0] 30) = Z9 := ⟨_, rfl⟩
  obtain ⟨BH, hB6⟩ : ∃ Z9, X.heap.size = Z9 := ⟨_, rfl⟩
  rw [hW6, hB6] at h6
  rw [hW6, hB6]
  clear hW6 hB6 bX hc hh d0 d1 d2 d3 d4 d5 d6 d7 d8 d9 d10 d11 d12 d13 d14 h5 hB3 hA3
  go_upto_region 14 with fail
  go_cut [22, 23] (fun u v wr => v = .nilIface ∧ ∃ BI, u = .pointer (some ⟨BI, 0, none⟩) ∧ Hid (Fls w wr [(BI, (enF a b 3 (now + 64) 5 p4 q 100 true false)), (BH, (enF a b 2 (now + 303) 4 p3 q 100 false false)), (BG, (enF a b 2 (now + 302) 3 p q 100 false false))]))
  case first =>
    obtain ⟨d0, d1, d2, d3, d4, d5, d6, d7, d8, d9, d10, d11, d12, d13, d14⟩ := en_cells (h6.2 (BH, (enF a b 2 (now + 303) 4 p3 q 100 false false)) (by simp))
    have hc := c4.out W6 h6.1
    rw [show flV (enF a b 2 (now + 303) 4 p3 q 100 false false) = .agg #[.int .i64 1, .int .i64 1, .int .i64 a, .int .i64 2, .int .i64 b, .int .i64 2, .int .i64 (now + 303), .int .i64 4, .int .i64 p3, .int .i64 q, .int .i64 100, .int .i64 100, .bool false, .bool false, .int .i64 0] from rfl, show flV (enF a b 3 (now + 64) 5 p4 q 100 true false) = .agg #[.int .i64 1, .int .i64 1, .int .i64 a, .int .i64 2, .int .i64 b, .int .i64 3, .int .i64 (now + 64), .int .i64 5, .int .i64 p4, .int .i64 q, .int .i64 100, .int .i64 100, .bool true, .bool false, .int .i64 0] from rfl] at hc
    unfold segV enS at hc
    simp only at hc
    go_wp2_with (go_at_call 13; go_must (refine hc.mono ?_; rintro e X ⟨rfl, bX⟩))
    have hh := h6.step bX
    have h7 := ((hh).step ((Below.refl _ _).alloc (Nat.le_refl _) (.cells #[.int .i64 1, .int .i64 1, .int .i64 a, .int .i64 2, .int .i64 b, .int .i64 3, .int .i64 (now + 64), .int .i64 5, .int .i64 p4, .int .i64 q, .int .i64 100, .int .i64 100, .bool true, .bool false, .int .i64 0] 30))).add (en_new X a b (3) (now + 64) (5) (p4) (q) (100) (true) (false))
    obtain ⟨W7, hW7⟩ : ∃ Z9, X.alloc (.cells #[.int .i64 1, .int .i64 1, .int .i64 a, .int .i64 2, .int .i64 b, .int .i64 3, .int .i64 (now + 64), .int .i64 5, .int .i64 p4, .int .i64 q, .int .i64 100, .int .i64 100, .bool true, .bool false, .int .i64 0] 30) = Z9 := ⟨_, rfl⟩
    obtain ⟨BI, hB7⟩ : ∃ Z9, X.heap.size = Z9 := ⟨_, rfl⟩
    rw [hW7, hB7] at h7
    rw [hW7, hB7]
    clear hW7 hB7 bX hc hh d0 d1 d2 d3 d4 d5 d6 d7 d8 d9 d10 d11 d12 d13 d14 h6
    have HF := hidE (show Fls w W7 [(BI, (enF a b 3 (now + 64) 5 p4 q 100 true false)), (BH, (enF a b 2 (now + 303) 4 p3 q 100 false false)), (BG, (enF a b 2 (now + 302) 3 p q 100 false false))] from ⟨h7.1, fun z hz => h7.2 z (by simp at hz ⊢; rcases hz with h | h | h <;> simp [h])⟩)
    go_meet
    case rel => exact ⟨rfl, _, rfl, HF⟩
  case rest =>
  obtain ⟨rfl, BI, rfl, HF⟩ := hcut
  go_step
  exact en_t15 Q a b y now p q p3 p4 q1 w wc _ (by kernel_rfl) hn hpr hqr h3r h4r hp3 hp4 HQ HER BG BH BI HF.out c5 c6 _ _ _ _ _ _ _ _ _ _ _ _ _ _ _ _ _ _ _ _ _ _ _ _ _ _ _ _ _ _ _ _ _ _ _ _ _ _ _ _ _ _ _ _ _ _ _ _ _ _ _ _ _ _ _ _ _ _ _ _ _ _ _ _ _ _ _ _ _ _ _ _ _ _ _ _ _ _ _ _ _ _ _ _ _ _ _ _ _ _ _ _ _ _ _ _ _ _ _ _ _ _ _ _ _ _ _ _ _ _ _ _ _ _ _ _ _ _ _ _ _ _ _ _ _ _ _ _ _ _ _ _ _ _ _ _ _ _ _ _ _ _ _ _ _ _ _ _ _ _ _ _ _ _ _ _ _ _ _ _ _ _ _ _ _ _ _ _ _ _ _ _ _ _ _ _ _ _ _ _ _ _ _ _ _ _ _ _ _ _ _ _ _ _ _ _ _ _ _ _
set_option maxRecDepth 100000 in
set_option maxHeartbeats 32000000 in
theorem ends_any (a b x y now : Int) (w : World) (hE : ErrLaid w) (hL : Lives w) :
    Calls Tryd.prog 6 #[.int .i64 a, .int .i64 b, .int .i64 x, .int .i64 y, .int .i64 now] w fun e w' => e = .returned (.bool true) ∧ Below w.heap.size w w' := by
  obtain ⟨Q, hQ⟩ : ∃ Q : Ending → World → Prop, Q = fun e w' => e = .returned (.bool true) ∧ Below w.heap.size w w' := ⟨_, rfl⟩
  have HQ : Hid (∀ w', Below w.heap.size w w' → Q (.returned (.bool true)) w') := by rw [hQ]; exact fun _ h => ⟨rfl, h⟩
  rw [← hQ]
  have HL := hidE (fun W (hb : Below w.heap.size w W) => hL.below hb)
  have HER := hidE (fun W (hb : Below w.heap.size w W) => hE.below hb)
  clear hQ hL hE
  go_enter Tryd.func6, Tryd.ntmps6
  go_upto_region 2 with fail
  have b2 : Below w.heap.size w (w.alloc (.cells #[.int .i64 1, .int .i64 1, .int .i64 a, .int .i64 2, .int .i64 b] 23)) := (Below.refl _ _).alloc (Nat.le_refl _) _
  have k2 : KyAt (w.alloc (.cells #[.int .i64 1, .int .i64 1, .int .i64 a, .int .i64 2, .int .i64 b] 23)) w.heap.size (enK a b) := KyAt.new w (enK a b)
  obtain ⟨W2, hW2⟩ : ∃ W2, w.alloc (.cells #[.int .i64 1, .int .i64 1, .int .i64 a, .int .i64 2, .int .i64 b] 23) = W2 := ⟨_, rfl⟩
  rw [hW2] at b2 k2 ⊢
  have kc : W2.cell? ⟨w.heap.size, 0, none⟩ = some (.int .i64 1) ∧ W2.cell? ⟨w.heap.size, 1, none⟩ = some (.int .i64 1) ∧ W2.cell? ⟨w.heap.size, 2, none⟩ = some (.int .i64 a) ∧ W2.cell? ⟨w.heap.size, 3, none⟩ = some (.int .i64 2) ∧ W2.cell? ⟨w.heap.size, 4, none⟩ = some (.int .i64 b) := k2.cells
  obtain ⟨k0, k1, k2', k3, k4⟩ := kc
  have hbg := begin_any (enK a b) (enS a b x 0 100 2 []) (.slice none 0 0) 0 now W2 (bytes_none W2) (HL.out _ b2)
  clear hW2 k2
  by_cases hz : begE (enK a b) (enS a b x 0 100 2 []) 0 now = 0
  case neg =>
    rw [errV_no hz] at hbg
    generalize begE (enK a b) (enS a b x 0 100 2 []) 0 now = z at hbg
    generalize begF (enK a b) (enS a b x 0 100 2 []) 0 now = f at hbg
    unfold flV keyV segV enK enS at hbg
    clear hz
    go_upto_region 3 with (go_at_call 8; go_must (refine hbg.mono ?_; rintro e W3 ⟨rfl, b3⟩))
    have bz := b2.trans (b3.mono b2.size)
    have HF := hidE (HQ.out _ (bz.alloc bz.size (Obj.cells (#[.int .i64 f.key.kind, .int .i64 f.key.src, .int .i64 f.key.frm, .int .i64 f.key.dst, .int .i64 f.key.too, .int .i64 f.st, .int .i64 f.unt, .int .i64 f.stp, .int .i64 f.h0, .int .i64 f.h1, .int .i64 f.w0, .int .i64 f.w1, .bool f.d0, .bool f.d1, .int .i64 f.num] : Array Value) 30)))
    clear hbg
    go_wp2_with fail
    exact HF.out
  obtain ⟨ha, hb, hx, hn, hf⟩ := en_beg hz
  rw [hz, hf, errV_ok] at hbg
  obtain ⟨p, hp⟩ : ∃ p, (x + 1) % 4294967296 = p := ⟨_, rfl⟩
  rw [hp] at hbg
  rw [show flV (enF a b 1 (now + 30) 1 p 0 0 false false) = .agg #[.int .i64 1, .int .i64 1, .int .i64 a, .int .i64 2, .int .i64 b, .int .i64 1, .int .i64 (now + 30), .int .i64 1, .int .i64 p, .int .i64 0, .int .i64 100, .int .i64 0, .bool false, .bool false, .int .i64 0] from rfl] at hbg
  unfold keyV segV enK enS at hbg
  clear hz hf
  go_upto_region 3 with (go_at_call 8; go_must (refine hbg.mono ?_; rintro e W3 ⟨rfl, b3⟩))
  have b3' := b2.trans (b3.mono b2.size)
  have h4 : Fls w (W3.alloc (.cells #[.int .i64 1, .int .i64 1, .int .i64 a, .int .i64 2, .int .i64 b, .int .i64 1, .int .i64 (now + 30), .int .i64 1, .int .i64 p, .int .i64 0, .int .i64 100, .int .i64 0, .bool false, .bool false, .int .i64 0] 30)) [(W3.heap.size, (enF a b 1 (now + 30) 1 p 0 0 false false))] := ⟨b3'.alloc b3'.size _, fun q hq => by rw [List.mem_singleton.1 hq]; exact en_new W3 _ _ _ _ _ _ _ _ _ _⟩
  obtain ⟨W4, hW4⟩ : ∃ W4, W3.alloc (.cells #[.int .i64 1, .int .i64 1, .int .i64 a, .int .i64 2, .int .i64 b, .int .i64 1, .int .i64 (now + 30), .int .i64 1, .int .i64 p, .int .i64 0, .int .i64 100, .int .i64 0, .bool false, .bool false, .int .i64 0] 30) = W4 := ⟨_, rfl⟩
  obtain ⟨BF, hBF⟩ : ∃ BF, W3.heap.size = BF := ⟨_, rfl⟩
  rw [hW4, hBF] at h4
  rw [hW4, hBF]
  clear hW4 hBF b2 b3 b3' hbg k0 k1 k2' k3 k4
  go_upto_region 5 with fail
  by_cases hn9 : now ≤ 900000
  case neg =>
    have HF := hidE (HQ.out _ h4.1)
    go_wp2_with fail
    exact HF.out
  by_cases hy0 : 0 ≤ y
  case neg =>
    have HF := hidE (HQ.out _ h4.1)
    go_wp2_with fail
    exact HF.out
  by_cases hy1 : y ≤ 4294967295
  case neg =>
    have HF := hidE (HQ.out _ h4.1)
    go_wp2_with fail
    exact HF.out
  have hn' : 0 ≤ now ∧ now ≤ 900000 := ⟨hn.1, hn9⟩
  have hpr : 0 ≤ p ∧ p ≤ 4294967295 := by omega
  obtain ⟨q, hq⟩ : ∃ q, (y + 1) % 4294967296 = q := ⟨_, rfl⟩
  have hqr : 0 ≤ q ∧ q ≤ 4294967295 := by omega
  obtain ⟨p3, hp3⟩ : ∃ p3, (p + 3) % 4294967296 = p3 := ⟨_, rfl⟩
  obtain ⟨p4, hp4⟩ : ∃ p4, (p + 4) % 4294967296 = p4 := ⟨_, rfl⟩
  obtain ⟨q1, hq1⟩ : ∃ q1, (q + 1) % 4294967296 = q1 := ⟨_, rfl⟩
  have h3r : 0 ≤ p3 ∧ p3 ≤ 4294967295 := by omega
  have h4r : 0 ≤ p4 ∧ p4 ≤ 4294967295 := by omega
  have e1 := en_1 (b := b) ha hb hn' hx
  rw [hp] at e1
  have e2 := en_2 (p := p) (y := y) ha hb hn' ⟨hy0, hy1⟩ hpr e1.2.2
  rw [hq] at e2
  have e3 := en_3 ha hb hn' hpr hqr e2.2.2
  rw [hp3] at e3
  have e4 := en_4 (p := p) ha hb hn' hpr hqr (by rw [hp3]; exact e3.2.2)
  rw [hp3, hp4] at e4
  have e5 := en_5 (p := p) ha hb hn' hpr hqr (by rw [hp4]; exact e4.2.2)
  rw [hp4, hq1] at e5
  have e6 := en_6 (p := p) ha hb hn' hpr (by rw [hp4]; exact e5.2.2)
  rw [hp4] at e6
  have c1 := hidE (fun W (hB : Below w.heap.size w W) => step_en ⟨e1.1, e1.2.1⟩ W (bytes_none W) (HL.out W hB))
  have c2 := hidE (fun W (hB : Below w.heap.size w W) => step_en ⟨e2.1, e2.2.1⟩ W (bytes_none W) (HL.out W hB))
  have c3 := hidE (fun W bv (hb : Bytes W bv [97, 98, 99]) (hB : Below w.heap.size w W) => step_en (bv := bv) ⟨e3.1, e3.2.1⟩ W hb (HL.out W hB))
  have c4 := hidE (fun W (hB : Below w.heap.size w W) => step_en ⟨e4.1, e4.2.1⟩ W (bytes_none W) (HL.out W hB))
  have c5 := hidE (fun W (hB : Below w.heap.size w W) => step_en ⟨e5.1, e5.2.1⟩ W (bytes_none W) (HL.out W hB))
  have c6 := hidE (fun W bv (hb : Bytes W bv [120]) (hB : Below w.heap.size w W) => step_any (enF a b 4 (now + 15) 6 p4 q1 100 true true) (enS a b p4 0 1 0 [120]) bv 0 (now + 6) W hb (HL.out W hB))
  rw [e6, stpF_no e6 (by decide), errV_no (by decide)] at c6
  clear e1 e2 e3 e4 e5 e6

  obtain ⟨d0, d1, d2, d3, d4, d5, d6, d7, d8, d9, d10, d11, d12, d13, d14⟩ := en_cells (h4.2 (BF, (enF a b 1 (now + 30) 1 p 0 0 false false)) (by simp))
  have hc := c1.out W4 h4.1
  rw [show flV (enF a b 1 (now + 30) 1 p 0 0 false false) = .agg #[.int .i64 1, .int .i64 1, .int .i64 a, .int .i64 2, .int .i64 b, .int .i64 1, .int .i64 (now + 30), .int .i64 1, .int .i64 p, .int .i64 0, .int .i64 100, .int .i64 0, .bool false, .bool false, .int .i64 0] from rfl, show flV (enF a b 1 (now + 31) 2 p 0 0 false false) = .agg #[.int .i64 1, .int .i64 1, .int .i64 a, .int .i64 2, .int .i64 b, .int .i64 1, .int .i64 (now + 31), .int .i64 2, .int .i64 p, .int .i64 0, .int .i64 100, .int .i64 0, .bool false, .bool false, .int .i64 0] from rfl] at hc
  unfold segV enS at hc
  simp only at hc
  go_upto_region 8 with (go_at_call 13; go_must (refine hc.mono ?_; rintro e X ⟨rfl, bX⟩))
  have hh := h4.step bX
  have h5 := ((hh).step ((Below.refl _ _).alloc (Nat.le_refl _) (.cells #[.int .i64 1, .int .i64 1, .int .i64 a, .int .i64 2, .int .i64 b, .int .i64 1, .int .i64 (now + 31), .int .i64 2, .int .i64 p, .int .i64 0, .int .i64 100, .int .i64 0, .bool false, .bool false, .int .i64 0] 30))).add (en_new X a b (1) (now + 31) (2) (p) (0) (0) (false) (false))
  obtain ⟨W5, hW5⟩ : ∃ Z9, X.alloc (.cells #[.int .i64 1, .int .i64 1, .int .i64 a, .int .i64 2, .int .i64 b, .int .i64 1, .int .i64 (now + 31), .int .i64 2, .int .i64 p, .int .i64 0, .int .i64 100, .int .i64 0, .bool false, .bool false, .int .i64 0] 30) = Z9 := ⟨_, rfl⟩
  obtain ⟨BR, hB5⟩ : ∃ Z9, X.heap.size = Z9 := ⟨_, rfl⟩
  rw [hW5, hB5] at h5
  rw [hW5, hB5]
  clear hW5 hB5 bX hc hh d0 d1 d2 d3 d4 d5 d6 d7 d8 d9 d10 d11 d12 d13 d14 h4
  obtain ⟨d0, d1, d2, d3, d4, d5, d6, d7, d8, d9, d10, d11, d12, d13, d14⟩ := en_cells (h5.2 (BF, (enF a b 1 (now + 30) 1 p 0 0 false false)) (by simp))
  obtain ⟨f0, f1, f2, f3, f4, f5, f6, f7, f8, f9, f10, f11, f12, f13, f14⟩ := en_cells (h5.2 (BR, (enF a b 1 (now + 31) 2 p 0 0 false false)) (by simp))
  have hn1 := Tryd.ar2Neq p 0 p 0
  rw [show (!(p == p && (0 : Int) == 0)) = false by simp] at hn1
  have hg1 := Tryd.ar2Guard
  go_upto_region 11 with fail
  clear hn1 hg1 d0 d1 d2 d3 d4 d5 d6 d7 d8 d9 d10 d11 d12 d13 d14 f0 f1 f2 f3 f4 f5 f6 f7 f8 f9 f10 f11 f12 f13 f14
  have h6 : Fls w W5 [(BR, (enF a b 1 (now + 31) 2 p 0 0 false false))] := ⟨h5.1, fun z hz => h5.2 z (by simp at hz ⊢; simp [hz])⟩
  clear h5
  have HW := hidE h6
  go_cut [16, 17] (fun u v wr => u = .int .i64 p ∧ v = .int .i64 q ∧ Hid (Fls w wr [(BR, (enF a b 1 (now + 31) 2 p 0 0 false false))]))
  case first =>
    go_wp2_with fail
    go_meet
    case rel => exact ⟨by first | rw [hp] | rfl, by first | rw [hq] | rfl, HW⟩
  case rest =>
  obtain ⟨rfl, rfl, HF⟩ := hcut
  go_step
  exact en_t12 Q a b y now p q p3 p4 q1 w wc _ (by kernel_rfl) hn' hpr hqr h3r h4r hp3 hp4 HQ HER BR HF.out c2 c3 c4 c5 c6 _ _ _ _ _ _ _ _ _ _ _ _ _ _ _ _ _ _ _ _ _ _ _ _ _ _ _ _ _ _ _ _ _ _ _ _ _ _ _ _ _ _ _ _ _ _ _ _ _ _ _ _ _ _ _ _ _ _ _ _ _ _ _ _ _ _ _ _ _ _ _ _ _ _ _ _ _ _ _ _ _ _ _ _ _ _ _ _ _ _ _ _ _ _ _ _ _ _ _ _ _ _ _ _ _ _ _ _ _ _ _ _ _ _ _ _ _ _ _ _ _ _ _ _ _ _ _ _ _ _ _ _ _ _ _ _ _ _ _ _ _ _ _ _ _ _ _ _ _ _ _ _ _ _ _ _ _ _ _ _ _ _ _ _ _ _ _ _ _ _ _ _ _ _ _ _ _ _ _ _ _ _ _ _ _ _ _ _ _ _ _ _ _ _ _ _ _ _ _ _ _ _ _ _ _
theorem ends_walk (a b x y now : Int) (w : World) {p0 p1 p2 p3 p4 : Prop} (_ : p0) (_ : p1) (_ : p2) (_ : p3) (_ : p4) (hE : ErrLaid w) (hL : Lives w) :
    Calls Tryd.prog 6 #[.int .i64 a, .int .i64 b, .int .i64 x, .int .i64 y, .int .i64 now] w fun e w' => e = .returned (.bool true) ∧ Below w.heap.size w w' := ends_any a b x y now w hE hL
end Go.Proofs.YtiigoeecklelpaaDoor
