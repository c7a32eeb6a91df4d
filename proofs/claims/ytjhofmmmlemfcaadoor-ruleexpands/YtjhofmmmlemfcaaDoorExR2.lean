/- What the reference's Expand does (package portref1) with a line: its loop over a pile of lines. -/
import Derived.Test.YtjhofmmmlemfcaaDoorExQ
import Derived.Test.YtjhofmmmlemfcaaDoorCut
import Derived.Test.YtjhofmmmlemfcaaDoorOrdE
import Derived.Test.YtjhofmmmlemfcaaDoorExR1
import Derived.Deep.LoopGhost
import Derived.Deep.DeepMust
namespace Go.Proofs.YtjhofmmmlemfcaaDoor
open Go.RowKit
set_option linter.unusedVariables false
set_option maxRecDepth 10000

/-- What is left of a code from a region on. -/
def exTailOf (n : Nat) : Code → Option Code
  | .seq a b => match exTailOf n a with
    | some c => some (.seq c b)
    | none => exTailOf n b
  | .region m ops d => match Nat.beq m n with
    | true => some (.region m ops d)
    | false => none
  | _ => none
noncomputable def exTail (n : Nat) : Code := (exTailOf n (Tryd.f7.body.getD .skip)).getD .skip
/-- The block of a number. -/
def exBlkOf (n : Nat) : Code → Option Code
  | .seq a b => match exBlkOf n a with
    | some c => some c
    | none => exBlkOf n b
  | .loop a => exBlkOf n a
  | .block m a => match Nat.beq m n with
    | true => some (.block m a)
    | false => exBlkOf n a
  | .cond _ a b => match exBlkOf n a with
    | some c => some c
    | none => exBlkOf n b
  | _ => none
noncomputable def exBlk (n : Nat) : Code := (exBlkOf n (Tryd.f7.body.getD .skip)).getD .skip
/-- 'append' of a row of texts onto a row of the call's own. -/
theorem wpList_append_strs {w : World} {ops : Array Oper} {rest : List Oper} {o : Oper} {a : Act} {Q : Exit → Act → World → Prop} (hgd : o.guard = none) (s x : Operand)
    (ho : o.op = .call { callee := .builtin .append, args := #[s, x], argTypes := #[22, 22] })
    (base : Nat) (v : Value) (ss : List ByteArray) (hs : a.eval s = v) (hown : OwnS w base v ss) (ns : List (List UInt8)) (ad : Addr) (m c : Nat) (hx : a.eval x = .slice (some ad) m c) (hm : ns.length = m)
    (hc : ∀ j (hj : j < ns.length), w.cell? (ad.add j) = some (.string (mkB ns[j])))
    (hlen : ss.length + m ≤ 4398046511104) (hbase : base ≤ w.heap.size)
    (h : ∀ v' w', OwnS w' base v' (ss ++ ns.map mkB) → w.grownBy w' v.ownBlock → wpList Tryd.prog ops Q rest (a.put o.dst v') w') :
    wpList Tryd.prog ops Q (o :: rest) a w := by
  obtain ⟨i0, hi, hz0, hz1, hz2⟩ := info_parts Tryd.infoStr
  refine wpList_append_own _ hgd s x 22 ho base 9 i0 (.string ⟨#[]⟩) 1 16 Tryd.underlying22 hi hz0 hz1 hz2 rfl (by decide) v ss.length (ss.map Value.string) hs hown ad m c ((ns.map mkB).map Value.string) hx (by simp; omega) ?_ ?_ (by unfold maxLen; omega) (by omega) hbase ?_
  · intro j u hj
    obtain ⟨hlt, rfl⟩ := List.getElem?_eq_some_iff.1 hj
    have hlt' : j < ns.length := by simpa using hlt
    rw [hc j hlt']
    simp
  · intro u hu
    obtain ⟨y, _, rfl⟩ := List.mem_map.1 hu
    rfl
  · intro v' w' h1 h2 _
    refine h v' w' ?_ h2
    unfold OwnS
    rw [List.length_append, List.map_append, List.length_map, hm]; exact h1
/-- A row of texts in a block. -/
def RowL (w : World) (g : Nat) (ls : List (List UInt8)) : Prop := g < w.heap.size ∧ ∀ j (hj : j < ls.length), w.cell? ⟨g, j, none⟩ = some (.string (mkB ls[j]))
theorem RowL.below {w w' : World} {g : Nat} {ls : List (List UInt8)} (h : RowL w g ls) (hb : Below w.heap.size w w') : RowL w' g ls := ⟨Nat.lt_of_lt_of_le h.1 hb.size, fun j hj => (hb.cell (p := ⟨g, j, none⟩) h.1).trans (h.2 j hj)⟩
theorem hidO {p : Prop} (h : p) : Hid p := h
theorem split_ne {x : List UInt8} {m : Nat} (h : m < (splitC 123 x).1.length) : x.getD m 0 ≠ 123 := by
  have key : ∀ (l : List UInt8) (m : Nat), m < (splitC 123 l).1.length → l.getD m 0 ≠ 123 := by
    intro l
    induction l with
    | nil => intro m h; simp [splitC] at h
    | cons c r ih =>
      intro m h
      unfold splitC at h
      by_cases hc : c = 123
      · rw [if_pos hc] at h; simp at h
      · rw [if_neg hc] at h
        cases m with
        | zero => simpa using hc
        | succ m => simpa using ih m (by simpa using h)
  exact key x m h
/-- What holds while the pile is worked off. -/
structure Pil (W w2 : World) (os x0 : List UInt8) (q : Nat) (al : List (List UInt8)) (g2 c2 : Nat) (o2 : List UInt8) (n : Nat) : Prop where
  row : RowL w2 g2 al
  cap : al.length ≤ c2
  bel : Below W.heap.size W w2
  me : mes (al.drop q) = n
  eq : os ++ flE (expL x0) = o2 ++ flE ((al.drop q).flatMap expL)
  ol : o2.length ≤ 2001
  pr : ∀ x ∈ al, pairB false x = true ∧ x.length ≤ 2000
  st : stk 2001 (al.drop q)
  ln : al.length ≤ 2001
set_option maxRecDepth 100000 in
set_option maxHeartbeats 32000000 in
theorem re_l6 (os x0 : List UInt8) (g1 : Nat) (W : World) (Q : Ending → World → Prop) (K : Act → World → Prop) (E : Exit → Act → World → Prop) (C : Code) (hC : C = exBlk 10)
    (hr : RowL W g1 [x0]) (hp : pairB false x0 = true) (hx : x0.length ≤ 2000) (ho : os.length ≤ 2001) (hEP : ∀ ch (x : Act) (d : Option Tmp) (v : Value) (w : World), E (.panic ch) (x.put d v) w → E (.panic ch) x w) (hE : ∀ a w, bodyPost Tryd.prog Tryd.f7 Q .ret a w → E .ret a w) (hQ : 2001 < (os ++ flE (expL x0)).length → ∀ w9, Below W.heap.size W w9 → Q (.returned (.tuple #[.string ⟨#[]⟩, .int .i64 4])) w9)
    (v0 v1 v2 v3 v4 v5 v6 v7 v8 v9 v10 v11 v12 v13 v14 v15 v16 v17 v19 v20 v23 v24 v25 v26 v27 v28 v29 v30 v31 v32 v33 v34 v35 v36 v37 v38 v39 v40 v41 v42 v43 v44 v45 v46 v47 v48 v49 v50 v51 v52 v53 v54 v55 v56 v57 v58 v59 v60 v61 v62 v63 v64 v65 v66 v67 v68 v69 v70 v71 v72 v73 v74 v75 v76 v77 v78 v79 v80 v81 v82 v83 v84 v85 v86 v87 v88 v89 v90 v91 v92 v93 v94 v95 v96 v97 v98 v99 v100 v101 v102 v103 v104 v105 v106 v107 v108 v109 v110 v111 v112 v113 v114 v115 v116 v117 v118 v119 v120 v121 v122 v123 v124 v125 v126 v127 v128 v129 v130 v131 v132 v133 v134 v135 v136 v137 v138 v139 v140 v141 v142 v143 v144 v145 v146 v147 v148 v149 v150 v151 v152 v153 v154 v155 v156 v157 v158 v159 v160 v161 v162 v163 v164 v165 v166 v167 v168 v169 v170 v171 v172 v173 v174 v175 v176 v177 v178 v179 v180 v181 v182 v183 v184 v185 v186 v187 v188 v189 v190 v191 v192 v193 v194 v195 v196 v197 v198 v199 v200 v201 v202 v203 v204 v205 v206 v207 v208 v209 v210 v211 v212 v213 v214 v215 v216 v217 v218 v219 v220 v221 v222 v223 v224 v225 v226 v227 v228 v229 v230 v231 v232 v233 v234 v235 v236 v237 v238 v239 v240 v241 v242 v243 v244 v245 v246 v247 v248 v249 v250 v251 v252 v253 v254 v255 v256 v257 v258 v259 v260 v261 v262 v263 v264 v265 v266 v267 v268 v269 v270 v271 v272 v273 : Value)
    (hK : ∀ (W9 : World) (u2 u3 u18 u21 u22 u23 u24 u25 u26 u27 u28 u188 u189 u190 u191 u192 u193 u194 u195 u196 u197 u198 u199 u200 u201 u202 u203 u204 u205 u206 u207 u208 u209 u210 u211 u212 u213 u214 u215 u216 u217 u218 u219 u220 u221 u222 u223 u224 u225 u226 u227 u228 u229 u230 u231 u232 u233 u234 u235 u236 u237 u238 u239 u240 u241 u242 u243 u244 u245 u246 u247 u248 u249 u250 u251 u252 u253 u254 u255 u256 u257 u258 u259 u260 u261 u262 : Value), (∃ t18, u18 = .string (mkB t18) ∧ t18 = os ++ flE (expL x0) ∧ t18.length ≤ 2001) ∧ Below W.heap.size W W9 → K { tmps := #[v0, v1, u2, u3, v4, v5, v6, v7, v8, v9, v10, v11, v12, v13, v14, v15, v16, v17, u18, v19, v20, u21, u22, u23, u24, u25, u26, u27, u28, v29, v30, v31, v32, v33, v34, v35, v36, v37, v38, v39, v40, v41, v42, v43, v44, v45, v46, v47, v48, v49, v50, v51, v52, v53, v54, v55, v56, v57, v58, v59, v60, v61, v62, v63, v64, v65, v66, v67, v68, v69, v70, v71, v72, v73, v74, v75, v76, v77, v78, v79, v80, v81, v82, v83, v84, v85, v86, v87, v88, v89, v90, v91, v92, v93, v94, v95, v96, v97, v98, v99, v100, v101, v102, v103, v104, v105, v106, v107, v108, v109, v110, v111, v112, v113, v114, v115, v116, v117, v118, v119, v120, v121, v122, v123, v124, v125, v126, v127, v128, v129, v130, v131, v132, v133, v134, v135, v136, v137, v138, v139, v140, v141, v142, v143, v144, v145, v146, v147, v148, v149, v150, v151, v152, v153, v154, v155, v156, v157, v158, v159, v160, v161, v162, v163, v164, v165, v166, v167, v168, v169, v170, v171, v172, v173, v174, v175, v176, v177, v178, v179, v180, v181, v182, v183, v184, v185, v186, v187, u188, u189, u190, u191, u192, u193, u194, u195, u196, u197, u198, u199, u200, u201, u202, u203, u204, u205, u206, u207, u208, u209, u210, u211, u212, u213, u214, u215, u216, u217, u218, u219, u220, u221, u222, u223, u224, u225, u226, u227, u228, u229, u230, u231, u232, u233, u234, u235, u236, u237, u238, u239, u240, u241, u242, u243, u244, u245, u246, u247, u248, u249, u250, u251, u252, u253, u254, u255, u256, u257, u258, u259, u260, u261, u262, v263, v264, v265, v266, v267, v268, v269, v270, v271, v272, v273], defers := [] } W9) :
    Code.wp Tryd.prog C (Exit.then K E) { tmps := #[v0, v1, v2, v3, v4, v5, v6, v7, v8, v9, v10, v11, v12, v13, v14, v15, v16, v17, .string (mkB os), v19, v20, .slice (some ⟨g1, 0, none⟩) 1 1, .int .i64 0, v23, v24, v25, v26, v27, v28, v29, v30, v31, v32, v33, v34, v35, v36, v37, v38, v39, v40, v41, v42, v43, v44, v45, v46, v47, v48, v49, v50, v51, v52, v53, v54, v55, v56, v57, v58, v59, v60, v61, v62, v63, v64, v65, v66, v67, v68, v69, v70, v71, v72, v73, v74, v75, v76, v77, v78, v79, v80, v81, v82, v83, v84, v85, v86, v87, v88, v89, v90, v91, v92, v93, v94, v95, v96, v97, v98, v99, v100, v101, v102, v103, v104, v105, v106, v107, v108, v109, v110, v111, v112, v113, v114, v115, v116, v117, v118, v119, v120, v121, v122, v123, v124, v125, v126, v127, v128, v129, v130, v131, v132, v133, v134, v135, v136, v137, v138, v139, v140, v141, v142, v143, v144, v145, v146, v147, v148, v149, v150, v151, v152, v153, v154, v155, v156, v157, v158, v159, v160, v161, v162, v163, v164, v165, v166, v167, v168, v169, v170, v171, v172, v173, v174, v175, v176, v177, v178, v179, v180, v181, v182, v183, v184, v185, v186, v187, v188, v189, v190, v191, v192, v193, v194, v195, v196, v197, v198, v199, v200, v201, v202, v203, v204, v205, v206, v207, v208, v209, v210, v211, v212, v213, v214, v215, v216, v217, v218, v219, v220, v221, v222, v223, v224, v225, v226, v227, v228, v229, v230, v231, v232, v233, v234, v235, v236, v237, v238, v239, v240, v241, v242, v243, v244, v245, v246, v247, v248, v249, v250, v251, v252, v253, v254, v255, v256, v257, v258, v259, v260, v261, v262, v263, v264, v265, v266, v267, v268, v269, v270, v271, v272, v273], defers := [] } W := by
  subst hC
  conv =>
    arg 2
    unfold exBlk
    unfold Tryd.f7
    simp only [Option.getD_some, exBlkOf]
  conv =>
    arg 4
    zeta
  try simp (maxSteps := 10000000) only at hK
  have HK := hidO hK
  clear hK
  have HQ := hidO hQ
  have HE := hidO hE
  have HEP := hidO hEP
  have hst : stk 2001 [x0] := ⟨by have := bars_le x0; simp; omega, trivial⟩
  have P0 : Pil W W os x0 0 [x0] g1 1 os (mes [x0]) := ⟨hr, by simp, Below.refl _ _, rfl, by simp [List.flatMap_cons], ho, fun x hx' => by rw [List.mem_singleton] at hx'; subst hx'; exact ⟨hp, hx⟩, hst, by simp⟩
  have HP0 := hidO P0
  clear hQ hE hEP hst P0 hr hp hx ho
  go_upto_region 48 with fail
  go_loopg [18, 21, 22, 23, 24, 25, 26, 27, 28] (mes [x0]) (fun n o all kk _ _ _ _ _ _ w2 => ∃ (q : Nat) (al : List (List UInt8)) (g2 c2 NA : Nat) (o2 : List UInt8), q ≤ NA ∧ Hid (al.length = NA) ∧ all = .slice (some ⟨g2, 0, none⟩) NA c2 ∧ kk = .int .i64 (q : Int) ∧ o = .string (mkB o2) ∧ Hid (Pil W w2 os x0 q al g2 c2 o2 n))
  case atStart => exact ⟨0, [x0], g1, 1, 1, os, by omega, rfl, rfl, rfl, rfl, HP0.out⟩
  case round =>
    clear HP0
    obtain ⟨q, al, g2, c2, NA, o2, hq, HNA, rfl, rfl, rfl, HP⟩ := hrel
    have hNA2 : NA ≤ 2001 := by have := HP.out.ln; have := HNA.out; omega
    by_cases hlt : q < NA
    · have hlt' : (q : Int) < (NA : Int) := by omega
      have hq0 : (0 : Int) ≤ (q : Int) := by omega
      have hql : q < al.length := by rw [HNA.out]; exact hlt
      have c0 := HP.out.row.2 q hql
      have hdr : al.drop q = al[q] :: al.drop (q + 1) := List.drop_eq_getElem_cons hql
      obtain ⟨hxp, hxl⟩ := HP.out.pr _ (List.getElem_mem hql)
      have HDR := hidO hdr
      generalize al[q] = x at c0 hxp hxl HDR
      have hpx : (splitC 123 x).1.length ≤ x.length := (splitC_len 123 x).1
      have HXP := hidO hxp
      have sx := sizeI x
      have HG : Hid (∀ m (hm : m < (mkB x).size), (mkB x)[m] = x.getD m 0) := mkB_get x
      obtain ⟨ps, hps⟩ : ∃ ps, (splitC 123 x).1.length = ps := ⟨_, rfl⟩
      rw [hps] at hpx
      have HPS := hidO hps
      clear hdr hxp hps
      go_upto_region 51 with fail
      go_loopw [24] (fun a w3 => ∃ m : Nat, m ≤ ps ∧ a = .int .i64 (m : Int) ∧ w3 = wr) (fun a _ => ((ps : Int) - intOf a).toNat)
      case atStart => exact ⟨0, by omega, rfl, rfl⟩
      case round =>
        obtain ⟨m, hm, rfl, hw3⟩ := hrel
        subst hw3
        by_cases hmp : m < ps
        · as_aux_lemma =>
          have hmz : m < (mkB x).size := by rw [mkB_size]; omega
          have hmz' : (m : Int) < ((mkB x).size : Int) := by omega
          have hm0 : (0 : Int) ≤ (m : Int) := by omega
          have hne : (((mkB x)[m].toNat : Int) != 123) = true := by
            rw [HG.out m hmz, bne_iff_ne]
            intro e
            exact split_ne (by rw [HPS.out]; exact hmp) (UInt8.toNat_inj.1 (by show _ = (123 : UInt8).toNat; have : (123 : UInt8).toNat = 123 := rfl; omega))
          have hps1 : ps ≤ 2000 := by omega
          go_wp2
          go_roundw
          case rel => exact ⟨m + 1, by omega, by go_num, by first | rfl | trivial⟩
          case measure => simp [intOf]; omega
        · have hmps : m = ps := by omega
          subst hmps
          rcases hmm : (splitC 123 x).2.2 with _ | _
          · as_aux_lemma =>
            have hall := splitC_allX hmm
            have hpl : m = x.length := by rw [← HPS.out, hall]
            have heq : ((m : Int) == ((mkB x).size : Int)) = true := by rw [sx, hpl, beq_iff_eq]
            have hnlt : ¬ (m : Int) < ((mkB x).size : Int) := by rw [sx]; omega
            have hex := expL_none hmm
            have HO : Hid (os ++ flE (expL x0) = (o2 ++ x ++ [10]) ++ flE ((al.drop (q + 1)).flatMap expL)) := by
              rw [Hid, HP.out.eq, HDR.out, List.flatMap_cons, hex, flE_append, flE_one]; simp
            obtain ⟨o3, ho3⟩ : ∃ o3, o2 ++ (x ++ [10]) = o3 := ⟨_, rfl⟩
            have hl3 : o3.length = o2.length + (x.length + 1) := by rw [← ho3]; simp
            have HM : Hid (mes (al.drop (q + 1)) < gk) := by
              have := HP.out.me
              rw [HDR.out, mes, cst_none hmm] at this
              show _ < _; omega
            have hol := HP.out.ol
            have he1 := hidO (mkB_append o2 x)
            have he2 := hidO (mkB_append (o2 ++ x) [10])
            rw [show mkB [10] = (⟨#[10]⟩ : ByteArray) from rfl, List.append_assoc, ho3] at he2
            rw [show o2 ++ x ++ [10] = o3 by rw [List.append_assoc]; exact ho3] at HO
            have HL3 := hidO hl3
            have hs1 : (mkB o2).size + (mkB x).size ≤ 1048576 ∧ (mkB o2).size ≤ 1048576 ∧ (mkB x).size ≤ 1048576 ∧ (mkB (o2 ++ x)).size + 1 ≤ 1048576 ∧ (mkB (o2 ++ x)).size ≤ 1048576 := by
              rw [mkB_size, mkB_size, mkB_size]; simp; omega
            obtain ⟨hs1, hs2, hs3, hs4, hs5⟩ := hs1
            have hpl1 := HP.out.pr
            have hdd : ∀ y ∈ al.drop (q + 1), y ∈ al := fun y hy => List.mem_of_mem_drop hy
            have hst := HP.out.st
            rw [HDR.out] at hst
            have HST := hidO hst.2
            clear hall hpl hex hmm HG hpl1 hdd hst ho3 hl3
            go_upto_region 55 with fail
            rw [he1.out, he2.out]
            have sl := sizeI o3
            by_cases hbig : 2001 < o3.length
            · have hn : ((mkB o3).size : Int) > 2001 := by rw [sl]; omega
              have hq := HQ.out (by rw [HO.out, List.length_append]; omega) _ HP.out.bel
              have HQQ := hidO hq
              clear hbig hq sl HP HO HM
              go_wp2
              refine HE.out _ _ ?_
              exact bodyPost_ret (v := .tuple #[.string ⟨#[]⟩, .int .i64 4]) (by simp [results, Tryd.results7, go_sem]) rfl HQQ.out
            · have hn : ¬ ((mkB o3).size : Int) > 2001 := by rw [sl]; omega
              have HP2 : Hid (Pil W wr os x0 (q + 1) al g2 c2 o3 (mes (al.drop (q + 1)))) := ⟨HP.out.row, HP.out.cap, HP.out.bel, rfl, HO.out, by omega, HP.out.pr, HST.out, HP.out.ln⟩
              clear hbig sl HP HO
              go_wp2
              go_roundg (mes (al.drop (q + 1)))
              case measure => exact HM.out
              case rel => exact ⟨q + 1, al, g2, c2, NA, o3, by omega, HNA.out, rfl, by go_num, rfl, HP2.out⟩
          · have hB := brc_of HXP.out hmm
            obtain ⟨a, ha⟩ : ∃ a, (splitC 123 x).1 = a := ⟨_, rfl⟩
            obtain ⟨inn, hin⟩ : ∃ b, (splitC 125 (splitC 123 x).2.1).1 = b := ⟨_, rfl⟩
            obtain ⟨r2, hr2⟩ : ∃ b, (splitC 125 (splitC 123 x).2.1).2.1 = b := ⟨_, rfl⟩
            rw [ha, hin, hr2] at hB
            have hma : a.length = m := by rw [← ha]; exact HPS.out
            have hxl2 : x.length = m + (inn.length + (r2.length + 1) + 1) := by
              have := congrArg List.length hB.eq
              simp only [List.length_append, List.length_cons] at this
              omega
            have HBR := hidO hB
            have hgm : x.getD m 0 = 123 := by rw [hB.eq, ← hma]; simp [List.getD]
            have hge : x.getD (m + 1 + inn.length) 0 = 125 := by
              rw [hB.eq, ← hma, show a ++ 123 :: (inn ++ 125 :: r2) = (a ++ 123 :: inn) ++ 125 :: r2 by simp]
              have e : (a ++ 123 :: inn).length = a.length + 1 + inn.length := by simp; omega
              rw [← e]
              simp [List.getD]
            have hgi : ∀ p, m < p → p < m + 1 + inn.length → x.getD p 0 ≠ 125 := fun p h1 h2 => by
              rw [hB.eq]
              obtain ⟨k, rfl⟩ : ∃ k, p = a.length + (k + 1) := ⟨p - a.length - 1, by omega⟩
              have hk : k < inn.length := by omega
              have e : (a ++ 123 :: (inn ++ 125 :: r2)).getD (a.length + (k + 1)) 0 = inn[k] := by
                simp [List.getD, List.getElem?_append_right, List.getElem?_append_left, hk]
              rw [e]
              exact (hB.hi _ (List.getElem_mem hk)).2
            have hmz : m < (mkB x).size := by rw [mkB_size]; omega
            have hmz' : (m : Int) < ((mkB x).size : Int) := by omega
            have hm0 : (0 : Int) ≤ (m : Int) := by omega
            have hne : (((mkB x)[m].toNat : Int) != 123) = false := by rw [HG.out m hmz, hgm]; rfl
            have heq : ((m : Int) == (x.length : Int)) = false := by rw [beq_eq_false_iff_ne]; omega
            have HGE := hidO (And.intro hge (And.intro hgi hgm))
            have HXL := hidO hxl2
            have hxe : m + 1 + inn.length < x.length := by omega
            have hol2 : o2.length ≤ 2001 := HP.out.ol
            have HMA := hidO hma
            clear ha hin hr2 hmm hgm hge hgi hB hxl2 hma
            go_upto_region 59 with fail
            clear hne heq
            go_loopw [25] (fun b w3 => ∃ p : Nat, m ≤ p ∧ p ≤ m + 1 + inn.length ∧ b = .int .i64 (p : Int) ∧ w3 = wr) (fun b _ => ((x.length : Int) - intOf b).toNat)
            case atStart => exact ⟨m, by omega, by omega, rfl, rfl⟩
            case round =>
              obtain ⟨p, hp1, hp2, rfl, hw3⟩ := hrel
              subst hw3
              have hpz : p < (mkB x).size := by rw [mkB_size]; omega
              have hpz' : (p : Int) < ((mkB x).size : Int) := by omega
              have hp0 : (0 : Int) ≤ (p : Int) := by omega
              by_cases hpe : p < m + 1 + inn.length
              · as_aux_lemma =>
                have hne : (((mkB x)[p].toNat : Int) != 125) = true := by
                  rw [HG.out p hpz, bne_iff_ne]
                  intro e
                  have e2 : x.getD p 0 = 125 := UInt8.toNat_inj.1 (by show _ = (125 : UInt8).toNat; have : (125 : UInt8).toNat = 125 := rfl; omega)
                  by_cases h : p = m
                  · rw [h, HGE.out.2.2] at e2; exact absurd e2 (by decide)
                  · exact HGE.out.2.1 p (by omega) hpe e2
                have hx2 : x.length ≤ 2000 := hxl
                go_wp2
                go_roundw
                case rel => exact ⟨p + 1, by omega, by omega, by go_num, by first | rfl | trivial⟩
                case measure => simp [intOf]; omega
              · have hpe2 : p = m + 1 + inn.length := by omega
                have hne : (((mkB x)[p].toNat : Int) != 125) = false := by rw [HG.out p hpz, hpe2, HGE.out.1]; rfl
                have hsl : (mkB x).extract (m + 1) p = mkB inn := by
                  rw [sub_ext, hpe2, show m + 1 + inn.length - (m + 1) = inn.length by omega, ← HMA.out]
                  congr 1
                  conv => lhs; rw [HBR.out.eq]
                  rw [show a.length + 1 = (a ++ [123]).length by simp, show a ++ 123 :: (inn ++ 125 :: r2) = (a ++ [123]) ++ (inn ++ 125 :: r2) by simp, List.drop_left, List.take_left]
                have hcu := fun w => cut_any (mkB inn) 124 w (by rw [mkB_size]; omega)
                rw [mkB_toList, show ((124 : UInt8).toNat : Int) = 124 from rfl, ← hsl] at hcu
                have hmp1 : (m : Int) + 1 ≤ (p : Int) := by omega
                have hpp : (p : Int) ≤ ((mkB x).size : Int) := by omega
                have HSL := hidO hsl
                have HPE := hidO hpe2
                clear hpe hpe2 HGE hsl
                go_upto_region 63 with (go_at_call 9; go_must (refine (hcu _).mono ?_; rintro e w4 ⟨av, rfl, own4, b4⟩))
                obtain ⟨ws, hws⟩ : ∃ ws, cutL 124 inn = ws := ⟨_, rfl⟩
                rw [hws] at own4
                have HWS := hidO hws
                have hwn := cut_cnt 124 inn
                rw [hws] at hwn
                obtain ⟨ba, ca, hav, hrw⟩ := own4.rowT
                obtain ⟨NW, hNW⟩ : ∃ n, ws.length = n := ⟨_, rfl⟩
                rw [hNW] at hav hwn
                subst hav
                have HRW := hidO hrw
                have HNW := hidO hNW
                have hNW2 : NW ≤ 2001 := by have := HXL.out; omega
                have hxa : (mkB x).extract 0 m = mkB a := by
                  rw [sub_ext, List.drop_zero, Nat.sub_zero, HBR.out.eq, ← HMA.out, List.take_left]
                have hxr : (mkB x).extract (p + 1) (mkB x).size = mkB r2 := by
                  rw [drop_extX, HPE.out]
                  congr 1
                  have e : m + 1 + inn.length + 1 = (a ++ 123 :: (inn ++ [125])).length := by have := HMA.out; simp; omega
                  rw [e, HBR.out.eq, show a ++ 123 :: (inn ++ 125 :: r2) = (a ++ 123 :: (inn ++ [125])) ++ r2 by simp, List.drop_left]
                have HXA := hidO (And.intro hxa hxr)
                have HB4 := hidO b4
                have hp1s : (p : Int) + 1 ≤ ((mkB x).size : Int) := by omega
                have hms : (m : Int) ≤ ((mkB x).size : Int) := by omega
                have hla : (mkB a).size ≤ 2000 ∧ (mkB r2).size ≤ 2000 := by have h1 := HXL.out; have h2 := HMA.out; rw [mkB_size, mkB_size]; omega
                obtain ⟨hla, hlr⟩ := hla
                have hpz2 : p < 2000 := by omega
                have hwr : IntKind.i64.wrap ((p : Int) + 1) = (p : Int) + 1 := by rw [IntKind.wrap_i64]; omega
                have hpx1 : (p : Int) + 1 ≤ (x.length : Int) := by omega
                have hpx0 : (0 : Int) ≤ (p : Int) + 1 := by omega
                have HXB := hidO (show (mkB x).extract (p + 1) x.length = mkB r2 by rw [← mkB_size x]; exact hxr)
                clear hws own4 b4 hNW hxa hxr hcu hrw HG
                go_upto_region 64 with fail
                go_loopw [27, 28] (fun nv j w5 => ∃ k : Nat, k ≤ NW ∧ j = .int .i64 (k : Int) ∧ Hid (OwnS w5 w4.heap.size nv (((ws.take k).map fun b => a ++ b ++ r2).map mkB)) ∧ Hid (Below w4.heap.size w4 w5)) (fun _ j _ => ((NW : Int) - intOf j).toNat)
                case atStart => exact ⟨0, by omega, rfl, OwnS.nil _ _, Below.refl _ _⟩
                case round =>
                  obtain ⟨k, hk, rfl, HOW, HB5⟩ := hrel
                  by_cases hkl : k < NW
                  · as_aux_lemma =>
                    have hkl' : (k : Int) < (NW : Int) := by omega
                    have hk0 : (0 : Int) ≤ (k : Int) := by omega
                    have hkw : k < ws.length := by rw [HNW.out]; exact hkl
                    obtain ⟨ga, hga, hgl, hca⟩ := HRW.out (by rw [HNW.out]; omega)
                    subst hga
                    have hbm : ws[k] ∈ ws := List.getElem_mem hkw
                    have cb := (HB5.out.cell (p := ⟨ga, k, none⟩) hgl).trans (hca k hkw)
                    have hbl := cut_len 124 inn ws[k] (by rw [HWS.out]; exact hbm)
                    have HTK : Hid (((ws.take (k + 1)).map fun b => a ++ b ++ r2).map mkB = ((ws.take k).map fun b => a ++ b ++ r2).map mkB ++ [mkB (a ++ ws[k] ++ r2)]) := by
                      rw [Hid, List.take_succ_eq_append_getElem hkw, List.map_append, List.map_append]; rfl
                    generalize ws[k] = b at cb hbl HTK
                    have HOL : Hid ((((ws.take k).map fun b => a ++ b ++ r2).map mkB).length ≤ 4398046511104 ∧ w4.heap.size ≤ wr.heap.size) := by
                      refine ⟨?_, HB5.out.size⟩
                      simp; omega
                    have hsb : (mkB b).size ≤ 2000 := by have := HXL.out; rw [mkB_size]; omega
                    have hab : (mkB a ++ mkB b) = mkB (a ++ b) := mkB_append a b
                    have hab2 : (mkB (a ++ b)).size ≤ 4000 := by rw [← hab, ByteArray.size_append]; omega
                    obtain ⟨ty, hty⟩ : ∃ ty, a ++ b ++ r2 = ty := ⟨_, rfl⟩
                    have habr : mkB (a ++ b) ++ mkB r2 = mkB ty := by rw [← hty]; exact mkB_append _ _
                    rw [hty] at HTK
                    have hsm1 : ¬ 9223372036854775807 < (mkB a).size + (mkB b).size := by omega
                    have hsm2 : ¬ 9223372036854775807 < (mkB (a ++ b)).size + (mkB r2).size := by omega
                    have HAB := hidO (And.intro hab habr)
                    obtain ⟨an, cn, hnv⟩ := HOW.out.len'
                    have hnv' := hidO hnv
                    generalize hLn : (((ws.take k).map fun b => a ++ b ++ r2).map mkB).length = Ln at hnv
                    subst hnv
                    have HLn := hidO hLn
                    clear hca hbm hkw hab habr hnv' hLn hty
                    go_upto_region 66 with fail
                    have hSS : (fun X : World => X.cell? ⟨ga, k, none⟩ = some (.string (mkB b)) ∧ wr.heap.size ≤ X.heap.size) wr.drew := ⟨cb, Nat.le_refl _⟩
                    have HOD : Hid (OwnS wr.drew w4.heap.size (.slice an Ln cn) (((ws.take k).map fun b => a ++ b ++ r2).map mkB)) := HOW.out.below (_root_.Go.below_drewN (Below.refl _ _) 1)
                    have HBD : Hid (Below w4.heap.size w4 wr.drew) := _root_.Go.below_drewN HB5.out 1
                    refine wp_region_E (fun X : World => X.cell? ⟨ga, k, none⟩ = some (.string (mkB b)) ∧ wr.heap.size ≤ X.heap.size) 16 17 #[false, false, false, false, false, false, false, false, false, false, false, false, false, false, false, false, false] (by kernel_rfl) rfl rfl ?_
                    obtain ⟨X0, hX0⟩ : ∃ X, wr.drew = X := ⟨_, rfl⟩
                    rw [hX0] at hSS HOD HBD ⊢
                    clear hX0 cb
                    refine E_free 0 (v := ?_) #[true, false, false, false, false, false, false, false, false, false, false, false, false, false, false, false, false] rfl (by kernel_rfl) (by kernel_rfl) (by kernel_rfl) (by kernel_rfl) (fun _ _ _ h => HEP.out _ _ _ _ _ h) (Or.inl ⟨by rfl, ?_⟩) (.inr hSS) (by kernel_rfl) ?_
                    rotate_left
                    · intro W9 _
                      go_simp
                      try with_reducible rfl
                    simp only [List.getElem_toArray, List.getElem_cons_zero, Act.put, List.setIfInBounds_toArray, List.set_cons_zero, List.set_cons_succ]
                    refine E_free 1 (v := ?_) #[true, true, false, false, false, false, false, false, false, false, false, false, false, false, false, false, false] rfl (by kernel_rfl) (by kernel_rfl) (by kernel_rfl) (by kernel_rfl) (fun _ _ _ h => HEP.out _ _ _ _ _ h) (Or.inl ⟨by rfl, ?_⟩) (.inr hSS) (by kernel_rfl) ?_
                    rotate_left
                    · intro W9 _
                      go_simp
                      try with_reducible rfl
                    simp only [List.getElem_toArray, List.getElem_cons_succ, List.getElem_cons_zero, Act.put, List.setIfInBounds_toArray, List.set_cons_zero, List.set_cons_succ]
                    refine E_free 2 (v := ?_) #[true, true, true, false, false, false, false, false, false, false, false, false, false, false, false, false, false] rfl (by kernel_rfl) (by kernel_rfl) (by kernel_rfl) (by kernel_rfl) (fun _ _ _ h => HEP.out _ _ _ _ _ h) (Or.inl ⟨by rfl, ?_⟩) (.inr hSS) (by kernel_rfl) ?_
                    rotate_left
                    · intro W9 _
                      go_simp
                      try with_reducible rfl
                    simp only [List.getElem_toArray, List.getElem_cons_succ, List.getElem_cons_zero, Act.put, List.setIfInBounds_toArray, List.set_cons_zero, List.set_cons_succ]
                    refine E_free 3 (v := ?_) #[true, true, true, true, false, false, false, false, false, false, false, false, false, false, false, false, false] rfl (by kernel_rfl) (by kernel_rfl) (by kernel_rfl) (by kernel_rfl) (fun _ _ _ h => HEP.out _ _ _ _ _ h) (Or.inl ⟨by rfl, ?_⟩) (.inr hSS) (by kernel_rfl) ?_
                    rotate_left
                    · intro W9 _
                      go_simp
                      try with_reducible rfl
                    simp only [List.getElem_toArray, List.getElem_cons_succ, List.getElem_cons_zero, Act.put, List.setIfInBounds_toArray, List.set_cons_zero, List.set_cons_succ]
                    rw [HXA.out.1]
                    refine E_free 4 (v := ?_) #[true, true, true, true, true, false, false, false, false, false, false, false, false, false, false, false, false] rfl (by kernel_rfl) (by kernel_rfl) (by kernel_rfl) (by kernel_rfl) (fun _ _ _ h => HEP.out _ _ _ _ _ h) (Or.inl ⟨by rfl, ?_⟩) (.inr hSS) (by kernel_rfl) ?_
                    rotate_left
                    · intro W9 _
                      go_simp
                      try with_reducible rfl
                    simp only [List.getElem_toArray, List.getElem_cons_succ, List.getElem_cons_zero, Act.put, List.setIfInBounds_toArray, List.set_cons_zero, List.set_cons_succ]
                    refine E_free 5 (v := ?_) #[true, true, true, true, true, true, false, false, false, false, false, false, false, false, false, false, false] rfl (by kernel_rfl) (by kernel_rfl) (by kernel_rfl) (by kernel_rfl) (fun _ _ _ h => HEP.out _ _ _ _ _ h) (Or.inl ⟨by rfl, ?_⟩) (.inr hSS) (by kernel_rfl) ?_
                    rotate_left
                    · intro W9 _
                      go_simp
                      try with_reducible rfl
                    simp only [List.getElem_toArray, List.getElem_cons_succ, List.getElem_cons_zero, Act.put, List.setIfInBounds_toArray, List.set_cons_zero, List.set_cons_succ]
                    refine E_free 6 (v := ?_) #[true, true, true, true, true, true, true, false, false, false, false, false, false, false, false, false, false] rfl (by kernel_rfl) (by kernel_rfl) (by kernel_rfl) (by kernel_rfl) (fun _ _ _ h => HEP.out _ _ _ _ _ h) (Or.inl ⟨by rfl, ?_⟩) (.inr hSS) (by kernel_rfl) ?_
                    rotate_left
                    · intro W9 _
                      go_simp
                      try with_reducible rfl
                    simp only [List.getElem_toArray, List.getElem_cons_succ, List.getElem_cons_zero, Act.put, List.setIfInBounds_toArray, List.set_cons_zero, List.set_cons_succ]
                    refine E_take 7 (v := ?_) #[true, true, true, true, true, true, true, true, false, false, false, false, false, false, false, false, false] rfl (by kernel_rfl) (by kernel_rfl) (by kernel_rfl) (by kernel_rfl) (by kernel_rfl) (by kernel_rfl) (fun _ _ _ h => HEP.out _ _ _ _ _ h) (Or.inl ⟨by rfl, ?_⟩) hSS (by kernel_rfl) ?_
                    rotate_left
                    · intro W9 hSw
                      have d0 := hSw.1
                      go_simp
                      try with_reducible rfl
                    simp only [List.getElem_toArray, List.getElem_cons_succ, List.getElem_cons_zero, Act.put, List.setIfInBounds_toArray, List.set_cons_zero, List.set_cons_succ]
                    refine E_free 8 (v := ?_) #[true, true, true, true, true, true, true, true, true, false, false, false, false, false, false, false, false] rfl (by kernel_rfl) (by kernel_rfl) (by kernel_rfl) (by kernel_rfl) (fun _ _ _ h => HEP.out _ _ _ _ _ h) (Or.inl ⟨by rfl, ?_⟩) (.inr hSS) (by kernel_rfl) ?_
                    rotate_left
                    · intro W9 _
                      go_simp
                      try with_reducible rfl
                    simp only [List.getElem_toArray, List.getElem_cons_succ, List.getElem_cons_zero, Act.put, List.setIfInBounds_toArray, List.set_cons_zero, List.set_cons_succ]
                    rw [HAB.out.1]
                    refine E_free 9 (v := ?_) #[true, true, true, true, true, true, true, true, true, true, false, false, false, false, false, false, false] rfl (by kernel_rfl) (by kernel_rfl) (by kernel_rfl) (by kernel_rfl) (fun _ _ _ h => HEP.out _ _ _ _ _ h) (Or.inl ⟨by rfl, ?_⟩) (.inr hSS) (by kernel_rfl) ?_
                    rotate_left
                    · intro W9 _
                      go_simp
                      try with_reducible rfl
                    simp only [List.getElem_toArray, List.getElem_cons_succ, List.getElem_cons_zero, Act.put, List.setIfInBounds_toArray, List.set_cons_zero, List.set_cons_succ]
                    refine E_free 10 (v := ?_) #[true, true, true, true, true, true, true, true, true, true, true, false, false, false, false, false, false] rfl (by kernel_rfl) (by kernel_rfl) (by kernel_rfl) (by kernel_rfl) (fun _ _ _ h => HEP.out _ _ _ _ _ h) (Or.inl ⟨by rfl, ?_⟩) (.inr hSS) (by kernel_rfl) ?_
                    rotate_left
                    · intro W9 _
                      go_simp
                      try with_reducible rfl
                    simp only [List.getElem_toArray, List.getElem_cons_succ, List.getElem_cons_zero, Act.put, List.setIfInBounds_toArray, List.set_cons_zero, List.set_cons_succ]
                    refine E_free 11 (v := ?_) #[true, true, true, true, true, true, true, true, true, true, true, true, false, false, false, false, false] rfl (by kernel_rfl) (by kernel_rfl) (by kernel_rfl) (by kernel_rfl) (fun _ _ _ h => HEP.out _ _ _ _ _ h) (Or.inl ⟨by rfl, ?_⟩) (.inr hSS) (by kernel_rfl) ?_
                    rotate_left
                    · intro W9 _
                      go_simp
                      try with_reducible rfl
                    simp only [List.getElem_toArray, List.getElem_cons_succ, List.getElem_cons_zero, Act.put, List.setIfInBounds_toArray, List.set_cons_zero, List.set_cons_succ]
                    refine E_free 12 (v := ?_) #[true, true, true, true, true, true, true, true, true, true, true, true, true, false, false, false, false] rfl (by kernel_rfl) (by kernel_rfl) (by kernel_rfl) (by kernel_rfl) (fun _ _ _ h => HEP.out _ _ _ _ _ h) (Or.inl ⟨by rfl, ?_⟩) (.inr hSS) (by kernel_rfl) ?_
                    rotate_left
                    · intro W9 _
                      go_simp
                      try with_reducible rfl
                    simp only [List.getElem_toArray, List.getElem_cons_succ, List.getElem_cons_zero, Act.put, List.setIfInBounds_toArray, List.set_cons_zero, List.set_cons_succ]
                    first | rw [HXA.out.2] | rw [HXB.out]
                    refine E_free 13 (v := ?_) #[true, true, true, true, true, true, true, true, true, true, true, true, true, true, false, false, false] rfl (by kernel_rfl) (by kernel_rfl) (by kernel_rfl) (by kernel_rfl) (fun _ _ _ h => HEP.out _ _ _ _ _ h) (Or.inl ⟨by rfl, ?_⟩) (.inr hSS) (by kernel_rfl) ?_
                    rotate_left
                    · intro W9 _
                      go_simp
                      try with_reducible rfl
                    simp only [List.getElem_toArray, List.getElem_cons_succ, List.getElem_cons_zero, Act.put, List.setIfInBounds_toArray, List.set_cons_zero, List.set_cons_succ]
                    rw [HAB.out.2]
                    refine E_oneG 14 #[true, true, true, true, true, true, true, true, true, true, true, true, true, true, true, false, false] rfl rfl (by kernel_rfl) (by kernel_rfl) (fun K hK => ?_)
                    go_wp2_with fail
                    obtain ⟨X1, hX1⟩ : ∃ X, X0.alloc (.cells #[.string (mkB ty)] 9) = X := ⟨_, rfl⟩
                    have hal : Below X0.heap.size X0 X1 := by rw [← hX1]; exact (Below.refl _ _).alloc (Nat.le_refl _) _
                    have hce : X1.heap[X0.heap.size]? = some (.cells #[.string (mkB ty)] 9 (0, 0)) := by rw [← hX1]; exact heap_alloc_new X0 _
                    have hS1 : X1.cell? ⟨ga, k, none⟩ = some (.string (mkB b)) ∧ wr.heap.size ≤ X1.heap.size := ⟨(hal.cell (p := ⟨ga, k, none⟩) (by have h1 := hSS.2; have h2 := HOL.out.2; show ga < _; omega)).trans hSS.1, Nat.le_trans hSS.2 hal.size⟩
                    have HO1 : Hid (OwnS X1 w4.heap.size (.slice an Ln cn) (((ws.take k).map fun b => a ++ b ++ r2).map mkB)) := HOD.out.below hal
                    have HB1 : Hid (Below w4.heap.size w4 X1) := HBD.out.trans (hal.mono (by have h1 := hSS.2; have h2 := HOL.out.2; omega))
                    have HCE := hidO hce
                    obtain ⟨G0, hG0⟩ : ∃ G, X0.heap.size = G := ⟨_, rfl⟩
                    rw [hG0] at HCE ⊢
                    rw [hX1]
                    refine hK.out _ _ (.inr hS1) ?_
                    clear hK K hX1 hal hce hSS hG0
                    refine E_oneG 15 #[true, true, true, true, true, true, true, true, true, true, true, true, true, true, true, true, false] rfl rfl (by kernel_rfl) (by kernel_rfl) (fun K hK => ?_)
                    refine wp_append_str (.tmp 240) (.tmp 254) rfl w4.heap.size (.slice an Ln cn) _ rfl HO1.out (mkB ty) G0 rfl HCE.out HOL.out.1 HB1.out.size ?_
                    intro v2 X2 own gr loc
                    rw [← HTK.out] at own
                    have HO2 := hidO own
                    have HB2 : Hid (Below w4.heap.size w4 X2) := HB1.out.trans (grown_below gr HB1.out.size (fun k hk => (HO1.out.lt k hk).1))
                    have hS2 : X2.cell? ⟨ga, k, none⟩ = some (.string (mkB b)) ∧ wr.heap.size ≤ X2.heap.size := by
                      refine ⟨?_, Nat.le_trans hS1.2 gr.size⟩
                      rw [World.cell?_of_block (w := X1) (gr.block ga (by have h1 := hS1.2; have h2 := HOL.out.2; omega) (fun e => by have := (HO1.out.lt ga e.symm).1; omega))]
                      exact hS1.1
                    refine hK.out _ _ (.inr hS2) ?_
                    clear hK K own gr loc hS1
                    simp only [List.getElem_toArray, List.getElem_cons_succ, List.getElem_cons_zero, Act.put, List.setIfInBounds_toArray, List.set_cons_zero, List.set_cons_succ]
                    refine E_oneG 16 #[true, true, true, true, true, true, true, true, true, true, true, true, true, true, true, true, true] rfl rfl (by kernel_rfl) (by kernel_rfl) (fun K hK => ?_)
                    go_wp2_with fail
                    refine hK.out _ _ (.inl (by kernel_rfl)) ?_
                    clear hK K
                    refine E_done (by kernel_rfl) ?_ _
                    go_wp2
                    go_roundw
                    case rel => exact ⟨k + 1, by omega, by go_num, HO2.out, HB2.out⟩
                    case measure => simp [intOf]; omega
                  · as_aux_lemma =>
                    have hkl' : ¬ (k : Int) < (NW : Int) := by omega
                    have how := HOW.out
                    rw [List.take_of_length_le (by rw [HNW.out]; omega)] at how
                    have hdl : (al.drop (q + 1)).length = NA - (q + 1) := by rw [List.length_drop, HNA.out]
                    have hst := HP.out.st
                    rw [HDR.out] at hst
                    have hpb := HBR.out.pb
                    rw [HWS.out] at hpb
                    have hwne : ws ≠ [] := by rw [← HWS.out]; exact cut_ne 124 inn
                    obtain ⟨y0, wr0, hy0⟩ : ∃ y r, ws = y :: r := by
                      cases ws with
                      | nil => exact absurd rfl hwne
                      | cons y r => exact ⟨y, r, rfl⟩
                    have hwb : ws.length ≤ bars x + 1 := by have := (hpb y0 (by rw [hy0]; simp)).2.2; omega
                    have HST2 : Hid (stk 2001 (ws.map (fun b => a ++ b ++ r2) ++ al.drop (q + 1))) := stk_app (b := bars x + 1 - ws.length) hst.2 ws (fun b hb => by have := (hpb b hb).2.2; omega) (by have := hst.1; omega)
                    have HLN2 : Hid ((ws.map (fun b => a ++ b ++ r2) ++ al.drop (q + 1)).length ≤ 2001) := by
                      have h1 := HST2.out
                      rw [hy0, List.map_cons, List.cons_append] at h1 ⊢
                      have := h1.1
                      show List.length (_ :: _) ≤ _
                      rw [List.length_cons]; omega
                    have HPR2 : Hid (∀ y ∈ ws.map (fun b => a ++ b ++ r2) ++ al.drop (q + 1), pairB false y = true ∧ y.length ≤ 2000) := fun y hy => by
                      rcases List.mem_append.1 hy with hy | hy
                      · obtain ⟨b, hb, rfl⟩ := List.mem_map.1 hy
                        obtain ⟨h1, h2, _⟩ := hpb b hb
                        exact ⟨h1, by omega⟩
                      · exact HP.out.pr y (List.mem_of_mem_drop hy)
                    have HEQ2 : Hid (os ++ flE (expL x0) = o2 ++ flE ((ws.map (fun b => a ++ b ++ r2) ++ al.drop (q + 1)).flatMap expL)) := by
                      rw [Hid, HP.out.eq, HDR.out, List.flatMap_cons, List.flatMap_append, HBR.out.ex, HWS.out]
                      congr 3
                      rw [List.flatMap_map]
                    have HME2 : Hid (mes (ws.map (fun b => a ++ b ++ r2) ++ al.drop (q + 1)) < gk) := by
                      have h1 := HP.out.me
                      have h2 := HBR.out.cs
                      rw [HWS.out] at h2
                      rw [HDR.out, mes, h2] at h1
                      show _ < _
                      rw [mes_append]; omega
                    have hrow := HP.out.row
                    have hcap := HP.out.cap
                    rw [HNA.out] at hcap
                    have hbz := HB5.out.size
                    have hlw : (((ws.map fun b => a ++ b ++ r2)).map mkB).length + (NA - (q + 1)) ≤ 4398046511104 := by have := HNW.out; simp; omega
                    have HFB : Hid (∀ w9, wr.grownBy w9 u27.ownBlock → Below W.heap.size W w9) := fun w9 gr => by
                      have h3 := (HB4.out.trans (HB5.out.mono HB4.out.size)).trans (grown_below gr (by have := HB4.out.size; omega) (fun k hk => by have := (how.lt k hk).1; have := HB4.out.size; omega))
                      exact HP.out.bel.trans (h3.mono HP.out.bel.size)
                    have HCL : Hid (∀ j (hj : j < (al.drop (q + 1)).length), wr.cell? ⟨g2, q + 1 + j, none⟩ = some (.string (mkB (al.drop (q + 1))[j]))) := fun j hj => by
                      have hj2 : q + 1 + j < al.length := by rw [List.length_drop] at hj; omega
                      have h3 := HB4.out.trans (HB5.out.mono HB4.out.size)
                      rw [h3.cell (p := ⟨g2, q + 1 + j, none⟩) hrow.1, hrow.2 _ hj2, List.getElem_drop]
                    obtain ⟨an, cn, hnv⟩ := how.len'
                    obtain ⟨Ln, hLn⟩ : ∃ n, (((ws.map fun b => a ++ b ++ r2)).map mkB).length = n := ⟨_, rfl⟩
                    rw [hLn] at hnv hlw
                    subst hnv
                    have HOW2 := hidO how
                    have HDL := hidO hdl
                    have HLn := hidO hLn
                    have hq1 : (q : Int) + 1 ≤ (NA : Int) := by omega
                    have hqc : (NA : Int) ≤ (c2 : Int) := by omega
                    have hwrq : IntKind.i64.wrap ((q : Int) + 1) = (q : Int) + 1 := by rw [IntKind.wrap_i64]; omega
                    have hne9 : ws.map (fun b => a ++ b ++ r2) ++ al.drop (q + 1) ≠ [] := by rw [hy0]; simp
                    have HNE9 := hidO hne9
                    clear how hdl hst hpb hwne hy0 hwb hrow hLn hne9 HP HDR HBR
                    obtain ⟨nx, hnx⟩ : ∃ nx, ws.map (fun b => a ++ b ++ r2) ++ al.drop (q + 1) = nx := ⟨_, rfl⟩
                    have HNXM : Hid (((ws.map fun b => a ++ b ++ r2)).map mkB ++ (al.drop (q + 1)).map mkB = nx.map mkB) := by rw [Hid, ← hnx, List.map_append]
                    rw [hnx] at HST2 HLN2 HPR2 HEQ2 HME2 HNE9
                    clear hnx
                    have HFIN : Hid (∀ v9 w9, OwnS w9 w4.heap.size v9 (nx.map mkB) → wr.grownBy w9 (Value.slice an Ln cn).ownBlock → ∃ g9 c9 N9, nx.length = N9 ∧ v9 = .slice (some ⟨g9, 0, none⟩) N9 c9 ∧ Pil W w9 os x0 0 nx g9 c9 o2 (mes nx)) := fun v9 w9 own gr => by
                      obtain ⟨g9, c9, hv9, _, hg9, hc9, _⟩ := own.shape (by rw [List.length_map]; exact List.length_pos_iff.2 HNE9.out)
                      obtain ⟨a', c', hv', hrw⟩ := own.rowT
                      rw [List.length_map] at hv9 hc9
                      rw [hv9] at hv'
                      injection hv' with e1 _ e2
                      subst e1 e2
                      obtain ⟨g', e, hgl, hcc⟩ := hrw (List.length_pos_iff.2 HNE9.out)
                      cases e
                      exact ⟨g9, c9, _, rfl, hv9, ⟨⟨hgl, hcc⟩, hc9, HFB.out w9 gr, rfl, HEQ2.out, by assumption, HPR2.out, HST2.out, HLN2.out⟩⟩
                    have HBZ := hidO hbz
                    clear hbz
                    have HLW : Hid ((((ws.map fun b => a ++ b ++ r2)).map mkB).length + (NA - (q + 1)) ≤ 4398046511104) := by rw [Hid, HLn.out]; exact hlw
                    clear hlw
                    by_cases hcq : c2 = q + 1
                    · have hcq' : (c2 : Int) = (q : Int) + 1 := by omega
                      have hc9 : ∀ j (hj : j < (al.drop (q + 1)).length), wr.cell? ((⟨g2, 0, none⟩ : Addr).add j) = some (.string (mkB (al.drop (q + 1))[j])) := fun j hj => by
                        have := HDL.out; omega
                      go_wp2_with (at_builtin; go_must (refine wpList_append_strs rfl (.tmp 256) (.tmp 260) rfl w4.heap.size (.slice an Ln cn) _ rfl HOW2.out (al.drop (q + 1)) ⟨g2, 0, none⟩ (NA - (q + 1)) 0 rfl HDL.out hc9 HLW.out HBZ.out ?_; intro v9 w9 own gr; rw [HNXM.out] at own; obtain ⟨g9, c9, N9, hN9, hv9, hp9⟩ := HFIN.out v9 w9 own gr; subst hv9; have HP9 := hidO (And.intro hN9 hp9); clear own gr hN9 hp9))
                      go_roundg (mes nx)
                      case measure => exact HME2.out
                      case rel => exact ⟨0, nx, g9, c9, N9, o2, by omega, HP9.out.1, rfl, by first | rfl | go_num, rfl, HP9.out.2⟩
                    · have hcq' : ¬ (c2 : Int) = (q : Int) + 1 := by omega
                      have hc9 : ∀ j (hj : j < (al.drop (q + 1)).length), wr.cell? ((⟨g2, q + 1, none⟩ : Addr).add j) = some (.string (mkB (al.drop (q + 1))[j])) := fun j hj => by
                        have e : (⟨g2, q + 1, none⟩ : Addr).add j = ⟨g2, q + 1 + j, none⟩ := by by_cases hj : j = 0 <;> simp [Addr.add, hj]
                        rw [e]; exact HCL.out j hj
                      go_wp2_with (at_builtin; go_must (refine wpList_append_strs rfl (.tmp 256) (.tmp 260) rfl w4.heap.size (.slice an Ln cn) _ rfl HOW2.out (al.drop (q + 1)) ⟨g2, q + 1, none⟩ (NA - (q + 1)) (c2 - (q + 1)) rfl HDL.out hc9 HLW.out HBZ.out ?_; intro v9 w9 own gr; rw [HNXM.out] at own; obtain ⟨g9, c9, N9, hN9, hv9, hp9⟩ := HFIN.out v9 w9 own gr; subst hv9; have HP9 := hidO (And.intro hN9 hp9); clear own gr hN9 hp9))
                      go_roundg (mes nx)
                      case measure => exact HME2.out
                      case rel => exact ⟨0, nx, g9, c9, N9, o2, by omega, HP9.out.1, rfl, by first | rfl | go_num, rfl, HP9.out.2⟩
    · as_aux_lemma =>
      have hlt' : ¬ (q : Int) < (NA : Int) := by omega
      have hd : al.drop q = [] := List.drop_of_length_le (by rw [HNA.out]; omega)
      have e := HP.out.eq
      rw [hd] at e
      have e2 : o2 = os ++ flE (expL x0) := by rw [e]; simp [flE]
      have HFIN := hidO (And.intro e2 (And.intro HP.out.ol HP.out.bel))
      clear hd e e2 HP
      go_wp2
      exact HK.out _ _ _ _ _ _ _ _ _ _ _ _ _ _ _ _ _ _ _ _ _ _ _ _ _ _ _ _ _ _ _ _ _ _ _ _ _ _ _ _ _ _ _ _ _ _ _ _ _ _ _ _ _ _ _ _ _ _ _ _ _ _ _ _ _ _ _ _ _ _ _ _ _ _ _ _ _ _ _ _ _ _ _ _ _ _ _ ⟨⟨o2, rfl, HFIN.out.1, HFIN.out.2.1⟩, HFIN.out.2.2⟩
end Go.Proofs.YtjhofmmmlemfcaaDoor
