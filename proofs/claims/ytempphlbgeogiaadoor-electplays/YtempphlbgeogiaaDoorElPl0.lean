/- ElectPlays: the program's arbiter and voter beside the reference's; the row of numbers that a round reads. -/
import Derived.Test.YtempphlbgeogiaaDoorElArb
import Derived.Test.YtempphlbgeogiaaDoorElVo2
import Derived.Test.YtempphlbgeogiaaDoorElRfV
import Derived.Test.YtempphlbgeogiaaDoorTold
import Derived.Test.YtempphlbgeogiaaDoorOpenIi
import Derived.Test.YtempphlbgeogiaaDoorQuietX
import Derived.Deep.LoopGhost
import Derived.Deep.CutBlock
import Derived.Deep.CutRange
namespace Go.Proofs.YtempphlbgeogiaaDoor
open Go.RowKit
set_option linter.unusedVariables false

theorem hidP {p : Prop} (h : p) : Hid p := h
theorem elV_val (z : Int) : ErrVal (elV z) z := by
  unfold elV ErrVal
  split
  · rename_i e; exact .inl ⟨rfl, e⟩
  · exact .inr rfl
theorem el_same (a : Int) (w : World) (hg : ErrLaid w) : Calls Tryd.prog 6 #[elV a, .int .i64 a] w fun e w' => e = .returned (.bool true) ∧ Below w.heap.size w w' := by
  refine (error_val (elV_val a) a w hg).mono ?_
  rintro e w' ⟨h1, h2⟩
  exact ⟨by rw [h1]; simp, h2⟩
def VrAt (w : World) (b : Nat) (s0 s1 s2 : Int) : Prop := w.heap[b]? = some (.cells #[.int .i64 s0, .int .i64 s1, .int .i64 s2] 38 (0, 0))
theorem VrAt.lt {w : World} {b : Nat} {x y z : Int} (h : VrAt w b x y z) : b < w.heap.size := (Array.getElem?_eq_some_iff.1 h).1
theorem VrAt.turn {F : Nat → Prop} {w w' : World} {b : Nat} {x y z : Int} (h : VrAt w b x y z) (t : Turn F w w') (hF : ¬ F b) : VrAt w' b x y z := (t.block _ h.lt hF).trans h
theorem vr_cells {w : World} {b : Nat} {x y z : Value} {T : TypeId} (h : w.heap[b]? = some (.cells #[x, y, z] T (0, 0))) : (w.cell? ⟨b, 0, none⟩ = some x ∧ w.cell? ⟨b, 1, none⟩ = some y ∧ w.cell? ⟨b, 2, none⟩ = some z) ∧ w.frozen? ⟨b, 0, none⟩ = false ∧ w.frozen? ⟨b, 1, none⟩ = false ∧ w.frozen? ⟨b, 2, none⟩ = false :=
  ⟨⟨by rw [cell_of_row w b _ _ _ _ h]; rfl, by rw [cell_of_row w b _ _ _ _ h]; rfl, by rw [cell_of_row w b _ _ _ _ h]; rfl⟩, frozen_of_row w b 0 _ _ h, frozen_of_row w b 1 _ _ h, frozen_of_row w b 2 _ _ h⟩
/-- Where the blocks lie. -/
structure ElO (w : World) (A X M R : Nat) : Prop where
  o1 : w.heap.size ≤ A
  o2 : A < X
  o3 : X < M
  o4 : M < R
/-- The program's arbiter and voter beside the reference's. -/
structure ElT (w : World) (A X M R : Nat) (a : Ar) (v : Vt) (m : Ra) (r : Rv) (W : World) : Prop where
  ka : ArAt W A a
  kx : VtAt W X v
  km : RaAt W M m
  kr : RvAt W R r
  bel : Below w.heap.size w W
structure ElN (a : Ar) (v : Vt) (m : Ra) (r : Rv) : Prop where
  oa : ArOk a
  ov : VtOk v
  orr : RvOk r
  sa : SameA a m
  sv : SameV v r
def ElS (w : World) (A X M R : Nat) (W : World) : Prop := ∃ a v m r, ElT w A X M R a v m r W ∧ ElN a v m r
section
variable {w W W' : World} {A X M R : Nat} {a a' : Ar} {v v' : Vt} {m m' : Ra} {r r' : Rv}
theorem ElT.turn {F : Nat → Prop} (h : ElT w A X M R a v m r W) (o : ElO w A X M R) (t : Turn F W W') (hF : ∀ k, F k → R < k) : ElT w A X M R a v m r W' := by
  have o1 := o.o1
  have o2 := o.o2
  have o3 := o.o3
  have o4 := o.o4
  exact ⟨h.ka.turn t (fun h => by have := hF _ h; omega), h.kx.turn t (fun h => by have := hF _ h; omega), h.km.turn t (fun h => by have := hF _ h; omega), h.kr.turn t (fun h => by have := hF _ h; omega), t.below h.bel h.bel.size (fun i hi => by have := hF _ hi; omega)⟩
theorem ElT.below (h : ElT w A X M R a v m r W) (o : ElO w A X M R) (b : Below W.heap.size W W') : ElT w A X M R a v m r W' := h.turn o (Turn.of_below b NoF) (fun k hk => hk.elim)
theorem ElT.setA (h : ElT w A X M R a v m r W) (o : ElO w A X M R) (k : ArAt W' A a') (t : Turn (fun i => i = A) W W') : ElT w A X M R a' v m r W' := by
  have o1 := o.o1
  have o2 := o.o2
  have o3 := o.o3
  have o4 := o.o4
  exact ⟨k, h.kx.turn t (by omega), h.km.turn t (by omega), h.kr.turn t (by omega), t.below h.bel h.bel.size (fun i hi => by omega)⟩
theorem ElT.setX (h : ElT w A X M R a v m r W) (o : ElO w A X M R) (k : VtAt W' X v') (t : Turn (fun i => i = X) W W') : ElT w A X M R a v' m r W' := by
  have o1 := o.o1
  have o2 := o.o2
  have o3 := o.o3
  have o4 := o.o4
  exact ⟨h.ka.turn t (by omega), k, h.km.turn t (by omega), h.kr.turn t (by omega), t.below h.bel h.bel.size (fun i hi => by omega)⟩
theorem ElT.setM (h : ElT w A X M R a v m r W) (o : ElO w A X M R) (k : RaAt W' M m') (t : Turn (fun i => i = M) W W') : ElT w A X M R a v m' r W' := by
  have o1 := o.o1
  have o2 := o.o2
  have o3 := o.o3
  have o4 := o.o4
  exact ⟨h.ka.turn t (by omega), h.kx.turn t (by omega), k, h.kr.turn t (by omega), t.below h.bel h.bel.size (fun i hi => by omega)⟩
theorem ElT.setR (h : ElT w A X M R a v m r W) (o : ElO w A X M R) (k : RvAt W' R r') (t : Turn (fun i => i = R) W W') : ElT w A X M R a v m r' W' := by
  have o1 := o.o1
  have o2 := o.o2
  have o3 := o.o3
  have o4 := o.o4
  exact ⟨h.ka.turn t (by omega), h.kx.turn t (by omega), h.km.turn t (by omega), k, t.below h.bel h.bel.size (fun i hi => by omega)⟩
end
/-- Asked by both. -/
theorem pl_ask {a : Ar} {m : Ra} (s : SameA a m) (ok : ArOk a) (node now : Int) (A M : Nat) : ∃ z e m', (∀ W, RaAt W M m → Calls Tryd.prog 9 #[.pointer (some ⟨M, 0, none⟩), .int .i64 node, .int .i64 now] W fun x w' => x = .returned (.tuple #[.int .i64 z, .int .i64 e]) ∧ RaAt w' M m' ∧ Turn (fun i => i = M) W w') ∧
    (∀ W, ArAt W A a → Calls Tryd.prog 10 #[.pointer (some ⟨A, 0, none⟩), .int .i64 node, .int .i64 now] W fun x w' => x = .returned (.tuple #[.int .i64 z, elV e]) ∧ ArAt w' A (askA a node now) ∧ Turn (fun i => i = A) W w') ∧ ArOk (askA a node now) ∧ SameA (askA a node now) m' := by
  by_cases he : askE a node now = 0
  · obtain ⟨h1, h2⟩ := s.ask he
    have hr : rAskE m node now = 0 := (s.askE node now).trans he
    have hm : rMay m node now = 0 := by
      unfold rAskE at hr
      split at hr
      · assumption
      · contradiction
    have hc : ¬ (m.has = true ∧ m.hol ≠ node ∧ now < m.unt) := fun hc => by
      unfold rAskE at hr
      rw [if_pos hm, if_pos hc] at hr
      cases hr
    refine ⟨now + m.lease, 0, rAskA m node now, fun W hW => rAsk_ok M m node now W hW hm hc (by rw [← s.l]; have := ok.l1; omega) (by rw [← s.l]; exact ok.l2), fun W hW => ?_, ok.ask _ _, h1⟩
    have := ask_any A a node now W hW ok
    rw [he, h2] at this
    exact this
  · obtain ⟨h1, h2⟩ := s.askNo he
    have hr := s.askE node now
    refine ⟨0, askE a node now, m, fun W hW => ?_, fun W hW => ?_, ok.ask _ _, h1⟩
    · have := rAsk_no M m node now W hW (by rw [hr]; exact he)
      rw [hr] at this
      refine this.mono ?_
      rintro x w' ⟨rfl, rfl⟩
      exact ⟨rfl, hW, Turn.refl _ _⟩
    · have := ask_any A a node now W hW ok
      rw [h2] at this
      exact this
/-- Freed by both. -/
theorem pl_free {a : Ar} {m : Ra} (s : SameA a m) (ok : ArOk a) (node now : Int) (A M : Nat) : ∃ e m', (∀ W, RaAt W M m → Calls Tryd.prog 12 #[.pointer (some ⟨M, 0, none⟩), .int .i64 node, .int .i64 now] W fun x w' => x = .returned (.int .i64 e) ∧ RaAt w' M m' ∧ Turn (fun i => i = M) W w') ∧
    (∀ W, ArAt W A a → Calls Tryd.prog 11 #[.pointer (some ⟨A, 0, none⟩), .int .i64 node, .int .i64 now] W fun x w' => x = .returned (elV e) ∧ ArAt w' A (freeA a node now) ∧ Turn (fun i => i = A) W w') ∧ ArOk (freeA a node now) ∧ SameA (freeA a node now) m' := by
  have hr := s.may node now
  by_cases he : arE a node now = 0
  · refine ⟨0, rFreeA m node now, fun W hW => rFree_ok M m node now W hW (hr.trans he), fun W hW => ?_, ok.free _ _, s.free he⟩
    have := free_any A a node now W hW
    rw [he] at this
    exact this
  · refine ⟨arE a node now, m, fun W hW => ?_, fun W hW => free_any A a node now W hW, ok.free _ _, s.freeNo he⟩
    have := rFree_no M m node now W hW (by rw [hr]; exact he)
    rw [hr] at this
    refine this.mono ?_
    rintro x w' ⟨rfl, rfl⟩
    exact ⟨rfl, hW, Turn.refl _ _⟩

/-! ### voters -/
theorem SameV.mas {v : Vt} {r : Rv} (s : SameV v r) (now : Int) : rMasB r now = masB v now := by unfold rMasB masB; rw [s.q, s.u]
theorem SameV.over {v : Vt} {r : Rv} (s : SameV v r) (h : r.heard = true) : decide (r.oth < r.prio ∨ (r.oth = r.prio ∧ r.node = 0)) = overB v v.oth := by
  unfold overB
  rw [(s.t h).1, s.p, s.d]
  exact decide_eq_decide.2 ⟨fun h => h.elim .inl (fun h => .inr ⟨h.1.symm, h.2⟩), fun h => h.elim .inl (fun h => .inr ⟨h.1.symm, h.2⟩)⟩
theorem SameV.wan {v : Vt} {r : Rv} (s : SameV v r) {now : Int} (hn : v.now ≤ now) : rWanB r now = wanB v now := by
  unfold rWanB wanB
  rw [s.mas]
  cases hh : r.heard
  · have := s.f hh
    rw [decide_eq_true (by omega : v.cnt ≤ now)]
    simp
  · rw [s.over hh, (s.t hh).2]
    have e : decide (30 ≤ now - r.att) = decide (r.att + 30 ≤ now) := decide_eq_decide.2 (by omega)
    rw [e]
    simp
theorem SameV.at {v : Vt} {r : Rv} (s : SameV v r) {now : Int} (hn : v.now ≤ now) : SameV { v with now := now } { r with now := now } := ⟨rfl, s.d, s.p, s.q, s.u, s.t, fun h => Int.le_trans (s.f h) hn⟩
theorem SameV.hear {v : Vt} {r : Rv} (s : SameV v r) (now p : Int) : SameV { v with now := now, oth := p, cnt := now + 30 } { r with now := now, heard := true, oth := p, att := now } := ⟨rfl, s.d, s.p, s.q, s.u, fun _ => ⟨rfl, rfl⟩, fun h => by cases h⟩
theorem SameV.gran {v : Vt} {r : Rv} (s : SameV v r) {now : Int} (hn : v.now ≤ now) (u : Int) : SameV { v with now := now, unt := u } { r with now := now, unt := u } := ⟨rfl, s.d, s.p, s.q, rfl, s.t, fun h => Int.le_trans (s.f h) hn⟩
theorem SameV.dem {v : Vt} {r : Rv} (s : SameV v r) (p : Int) : SameV { v with prio := p } { r with prio := p } := ⟨s.n, s.d, rfl, s.q, s.u, s.t, s.f⟩
theorem RvOk.at {r : Rv} (o : RvOk r) (now : Int) : RvOk { r with now := now } := ⟨o.u1, o.u2, o.d1, o.d2, o.a1, o.a2⟩
theorem RvOk.hear {r : Rv} (o : RvOk r) {now : Int} (h0 : 0 ≤ now) (h1 : now ≤ 1000000) (p : Int) : RvOk { r with now := now, heard := true, oth := p, att := now } := ⟨o.u1, o.u2, o.d1, o.d2, by show (-1000000 : Int) ≤ now; omega, h1⟩
theorem RvOk.gran {r : Rv} (o : RvOk r) (now : Int) {u : Int} (h0 : 0 ≤ u) (h1 : u ≤ 2000000) : RvOk { r with now := now, unt := u } := ⟨h0, h1, o.d1, o.d2, o.a1, o.a2⟩
theorem RvOk.dem {r : Rv} (o : RvOk r) (p : Int) : RvOk { r with prio := p } := ⟨o.u1, o.u2, o.d1, o.d2, o.a1, o.a2⟩
theorem rv_hear {w : World} {b : Nat} {r : Rv} (h : RvAt w b r) (now p : Int) : RvAt ((((w.setCell ⟨b, 3, none⟩ (.int .i64 now)).setCell ⟨b, 5, none⟩ (.bool true)).setCell ⟨b, 6, none⟩ (.int .i64 p)).setCell ⟨b, 7, none⟩ (.int .i64 now)) b { r with now := now, heard := true, oth := p, att := now } :=
  heap_setCell_same _ b 7 _ _ _ (heap_setCell_same _ b 6 _ _ _ (heap_setCell_same _ b 5 _ _ _ (heap_setCell_same _ b 3 _ _ _ h)))
theorem rv_gran {w : World} {b : Nat} {r : Rv} (h : RvAt w b r) (now u : Int) : RvAt ((w.setCell ⟨b, 3, none⟩ (.int .i64 now)).setCell ⟨b, 4, none⟩ (.int .i64 u)) b { r with now := now, unt := u } :=
  heap_setCell_same _ b 4 _ _ _ (heap_setCell_same _ b 3 _ _ _ h)
theorem rv_at {w : World} {b : Nat} {r : Rv} (h : RvAt w b r) (now : Int) : RvAt (w.setCell ⟨b, 3, none⟩ (.int .i64 now)) b { r with now := now } := heap_setCell_same _ b 3 _ _ _ h
theorem rv_prio {w : World} {b : Nat} {r : Rv} (h : RvAt w b r) (p : Int) : RvAt (w.setCell ⟨b, 1, none⟩ (.int .i64 p)) b { r with prio := p } := heap_setCell_same _ b 1 _ _ _ h
/-- The block of a number. -/
def blkAt (n : Nat) : Code → Option Code
  | .seq a b => match blkAt n a with
    | some c => some c
    | none => blkAt n b
  | .loop a => blkAt n a
  | .block m a => match Nat.beq m n with
    | true => some (.block m a)
    | false => blkAt n a
  | .cond _ a b => match blkAt n a with
    | some c => some c
    | none => blkAt n b
  | _ => none
noncomputable def plBlk (n : Nat) : Code := (blkAt n (Tryd.f3.body.getD .skip)).getD .skip
theorem hidO {p : Prop} (h : p) : Hid p := h
structure ElV (w : World) (A X M R V : Nat) (W : World) : Prop where
  st : ElS w A X M R W
  vr : ∃ s0 s1 s2, VrAt W V s0 s1 s2
  lv : R < V
theorem ElS.turn {w W W' : World} {A X M R : Nat} {F : Nat → Prop} (h : ElS w A X M R W) (o : ElO w A X M R) (t : Turn F W W') (hF : ∀ k, F k → R < k) : ElS w A X M R W' := by
  obtain ⟨a, v, m, r, h1, h2⟩ := h
  exact ⟨a, v, m, r, h1.turn o t hF, h2⟩
theorem ElS.bel {w W : World} {A X M R : Nat} (h : ElS w A X M R W) : Below w.heap.size w W := by
  obtain ⟨a, v, m, r, h1, h2⟩ := h
  exact h1.bel
theorem ElS.lt {w W : World} {A X M R : Nat} (h : ElS w A X M R W) : R < W.heap.size := by
  obtain ⟨a, v, m, r, h1, h2⟩ := h
  exact h1.kr.lt
theorem ElV.set {w W : World} {A X M R V : Nat} (h : ElV w A X M R V W) (o : ElO w A X M R) (j : Nat) (hj : j < 3) (z : Int) : ElV w A X M R V (W.setCell ⟨V, j, none⟩ (.int .i64 z)) := by
  obtain ⟨h1, ⟨s0, s1, s2, h2⟩, h3⟩ := h
  refine ⟨h1.turn o (Turn.of_only ((Only.refl V W).setCell j (.int .i64 z)) rfl) (fun k hk => by subst hk; exact h3), ?_, h3⟩
  have e := heap_setCell_same W V j _ _ (.int .i64 z) h2
  rcases (by omega : j = 0 ∨ j = 1 ∨ j = 2) with rfl | rfl | rfl
  · exact ⟨z, s1, s2, e⟩
  · exact ⟨s0, z, s2, e⟩
  · exact ⟨s0, s1, z, e⟩
set_option maxRecDepth 100000 in
set_option maxHeartbeats 32000000 in
theorem pl_row (w W0 : World) (A X M R V g of N cv i : Nat) (an : Option Addr) (cn : Nat) (zs : List Int) (K : Act → World → Prop) (E : Exit → Act → World → Prop) (C : Code) (hC : C = plBlk 2)
    (HOO : Hid (ElO w A X M R)) (HSV : Hid (ElV w A X M R V W0)) (HN : Hid (Numz w (.slice an zs.length cn) zs)) (HC0 : Hid (∀ X', Below w.heap.size w X' → X'.cell? ⟨g, of + i, none⟩ = some (.slice an zs.length cn))) (hi1 : (i : Int) < (N : Int)) (hgc : N ≤ cv) (hgm : cv ≤ maxLen)
    (v0 v1 v2 v3 v5 v6 v7 v8 v9 v10 v11 v12 v13 v14 v15 v16 v17 v18 v19 v23 v24 v25 v26 v27 v28 v29 v30 v31 v32 v33 v34 v35 v36 v37 v38 v39 v40 v41 v42 v43 v44 v45 v46 v47 v48 v49 v50 v51 v52 v53 v54 v55 v56 v57 v58 v59 v60 v61 v62 v63 v64 v65 v66 v67 v68 v69 v70 v71 v72 v73 v74 v75 v76 v77 v78 v79 v80 v81 v82 v83 v84 v85 v86 v87 v88 v89 v90 v91 v92 v93 v94 v95 v96 v97 v98 v99 v100 v101 v102 v103 v104 v105 v106 v107 v108 v109 v110 v111 v112 v113 v114 v115 v116 v117 v118 v119 v120 v121 v122 v123 v124 v125 v126 v127 v128 v129 v130 v131 v132 v133 v134 v135 v136 v137 v138 v139 v140 v141 v142 v143 v144 v145 v146 v147 v148 v149 v150 v151 v152 v153 v154 v155 v156 v157 v158 v159 v160 v161 v162 v163 v164 v165 v166 v167 v168 v169 v170 v171 v172 v173 v174 v175 v176 v177 v178 v179 v180 v181 v182 v183 v184 v185 v186 v187 v188 v189 v190 v191 v192 v193 v194 v195 v196 v197 v198 v199 v200 v201 v202 v203 v204 v205 v206 v207 v208 v209 v210 v211 v212 v213 v214 v215 v216 v217 v218 v219 v220 v221 v222 v223 v224 v225 v226 v227 v228 v229 v230 v231 v232 v233 v234 v235 v236 v237 v238 v239 v240 v241 v242 v243 v244 v245 v246 v247 v248 v249 v250 v251 v252 v253 v254 v255 v256 v257 v258 v259 v260 v261 v262 v263 v264 v265 v266 v267 v268 v269 v270 v271 v272 v273 v274 v275 v276 v277 v278 v279 v280 v281 v282 v283 v284 v285 v286 v287 v288 v289 v290 v291 v292 v293 v294 v295 v296 v297 v298 v299 v300 v301 v302 v303 v304 v305 v306 v307 v308 v309 v310 v311 v312 v313 v314 v315 v316 v317 v318 v319 v320 v321 v322 v323 v324 v325 v326 v327 v328 v329 v330 v331 v332 v333 v334 v335 v336 v337 v338 v339 v340 v341 v342 v343 v344 v345 v346 v347 v348 v349 v350 v351 v352 v353 v354 v355 v356 v357 v358 v359 v360 v361 v362 v363 v364 v365 : Value)
    (hK : ∀ (W9 : World) (u22 u116 u117 u118 u119 u120 u121 u122 u123 u124 u125 u126 u127 u128 u129 u130 u131 u132 u133 u134 u135 u136 u137 : Value), ElV w A X M R V W9 → K { tmps := #[v0, v1, v2, v3, .slice (some ⟨g, of, none⟩) N cv, v5, v6, v7, v8, v9, v10, v11, v12, v13, v14, v15, v16, v17, v18, v19, .int .i64 (i : Int), .pointer (some ⟨V, 0, none⟩), u22, v23, v24, v25, v26, v27, v28, v29, v30, v31, v32, v33, v34, v35, v36, v37, v38, v39, v40, v41, v42, v43, v44, v45, v46, v47, v48, v49, v50, v51, v52, v53, v54, v55, v56, v57, v58, v59, v60, v61, v62, v63, v64, v65, v66, v67, v68, v69, v70, v71, v72, v73, v74, v75, v76, v77, v78, v79, v80, v81, v82, v83, v84, v85, v86, v87, v88, v89, v90, v91, v92, v93, v94, v95, v96, v97, v98, v99, v100, v101, v102, v103, v104, v105, v106, v107, v108, v109, v110, v111, v112, v113, v114, v115, u116, u117, u118, u119, u120, u121, u122, u123, u124, u125, u126, u127, u128, u129, u130, u131, u132, u133, u134, u135, u136, u137, v138, v139, v140, v141, v142, v143, v144, v145, v146, v147, v148, v149, v150, v151, v152, v153, v154, v155, v156, v157, v158, v159, v160, v161, v162, v163, v164, v165, v166, v167, v168, v169, v170, v171, v172, v173, v174, v175, v176, v177, v178, v179, v180, v181, v182, v183, v184, v185, v186, v187, v188, v189, v190, v191, v192, v193, v194, v195, v196, v197, v198, v199, v200, v201, v202, v203, v204, v205, v206, v207, v208, v209, v210, v211, v212, v213, v214, v215, v216, v217, v218, v219, v220, v221, v222, v223, v224, v225, v226, v227, v228, v229, v230, v231, v232, v233, v234, v235, v236, v237, v238, v239, v240, v241, v242, v243, v244, v245, v246, v247, v248, v249, v250, v251, v252, v253, v254, v255, v256, v257, v258, v259, v260, v261, v262, v263, v264, v265, v266, v267, v268, v269, v270, v271, v272, v273, v274, v275, v276, v277, v278, v279, v280, v281, v282, v283, v284, v285, v286, v287, v288, v289, v290, v291, v292, v293, v294, v295, v296, v297, v298, v299, v300, v301, v302, v303, v304, v305, v306, v307, v308, v309, v310, v311, v312, v313, v314, v315, v316, v317, v318, v319, v320, v321, v322, v323, v324, v325, v326, v327, v328, v329, v330, v331, v332, v333, v334, v335, v336, v337, v338, v339, v340, v341, v342, v343, v344, v345, v346, v347, v348, v349, v350, v351, v352, v353, v354, v355, v356, v357, v358, v359, v360, v361, v362, v363, v364, v365], defers := [] } W9) :
    Code.wp Tryd.prog C (Exit.then K E) { tmps := #[v0, v1, v2, v3, .slice (some ⟨g, of, none⟩) N cv, v5, v6, v7, v8, v9, v10, v11, v12, v13, v14, v15, v16, v17, v18, v19, .int .i64 (i : Int), .pointer (some ⟨V, 0, none⟩), .int .i64 0, v23, v24, v25, v26, v27, v28, v29, v30, v31, v32, v33, v34, v35, v36, v37, v38, v39, v40, v41, v42, v43, v44, v45, v46, v47, v48, v49, v50, v51, v52, v53, v54, v55, v56, v57, v58, v59, v60, v61, v62, v63, v64, v65, v66, v67, v68, v69, v70, v71, v72, v73, v74, v75, v76, v77, v78, v79, v80, v81, v82, v83, v84, v85, v86, v87, v88, v89, v90, v91, v92, v93, v94, v95, v96, v97, v98, v99, v100, v101, v102, v103, v104, v105, v106, v107, v108, v109, v110, v111, v112, v113, v114, v115, v116, v117, v118, v119, v120, v121, v122, v123, v124, v125, v126, v127, v128, v129, v130, v131, v132, v133, v134, v135, v136, v137, v138, v139, v140, v141, v142, v143, v144, v145, v146, v147, v148, v149, v150, v151, v152, v153, v154, v155, v156, v157, v158, v159, v160, v161, v162, v163, v164, v165, v166, v167, v168, v169, v170, v171, v172, v173, v174, v175, v176, v177, v178, v179, v180, v181, v182, v183, v184, v185, v186, v187, v188, v189, v190, v191, v192, v193, v194, v195, v196, v197, v198, v199, v200, v201, v202, v203, v204, v205, v206, v207, v208, v209, v210, v211, v212, v213, v214, v215, v216, v217, v218, v219, v220, v221, v222, v223, v224, v225, v226, v227, v228, v229, v230, v231, v232, v233, v234, v235, v236, v237, v238, v239, v240, v241, v242, v243, v244, v245, v246, v247, v248, v249, v250, v251, v252, v253, v254, v255, v256, v257, v258, v259, v260, v261, v262, v263, v264, v265, v266, v267, v268, v269, v270, v271, v272, v273, v274, v275, v276, v277, v278, v279, v280, v281, v282, v283, v284, v285, v286, v287, v288, v289, v290, v291, v292, v293, v294, v295, v296, v297, v298, v299, v300, v301, v302, v303, v304, v305, v306, v307, v308, v309, v310, v311, v312, v313, v314, v315, v316, v317, v318, v319, v320, v321, v322, v323, v324, v325, v326, v327, v328, v329, v330, v331, v332, v333, v334, v335, v336, v337, v338, v339, v340, v341, v342, v343, v344, v345, v346, v347, v348, v349, v350, v351, v352, v353, v354, v355, v356, v357, v358, v359, v360, v361, v362, v363, v364, v365], defers := [] } W0 := by
  subst hC
  conv =>
    arg 2
    unfold plBlk
    unfold Tryd.f3
    simp only [Option.getD_some, blkAt]
  conv =>
    arg 4
    zeta
  simp (maxSteps := 10000000) only at hK
  have HK := hidO hK
  clear hK
  go_wp2_with fail
  go_loopw [22] (fun v29 wr => ∃ j : Nat, v29 = .int .i64 (j : Int) ∧ j ≤ 3 ∧ Hid (ElV w A X M R V wr)) (fun v29 _ => (100 - intOf v29).toNat)
  case atStart => exact ⟨0, rfl, by omega, HSV⟩
  case round =>
    clear HSV
    obtain ⟨j, rfl, hj3, HJ⟩ := hrel
    have c0 := HC0.out _ HJ.out.st.bel
    by_cases hj : j < zs.length ∧ j < 3
    · obtain ⟨g2, of2, rfl, hg2, hc2, hm2, hcells⟩ := HN.out.at (by omega)
      have e0 := (HJ.out.st.bel.cell (p := ⟨g2, of2 + j, none⟩) hg2).trans (hcells j hj.1)
      generalize (zs[j]'hj.1) = z at e0
      obtain ⟨s0, s1, s2, hvr⟩ := HJ.out.vr
      obtain ⟨_, f0, f1, f2⟩ := vr_cells hvr
      have hj1 : (j : Int) < (zs.length : Int) := by omega
      have hj2 : (j : Int) < 3 := by omega
      have HX := hidO (HJ.out.set HOO.out j hj.2 z)
      clear hcells hvr
      rcases (by omega : j = 0 ∨ j = 1 ∨ j = 2) with rfl | rfl | rfl
      · clear hj hj3
        try simp only [Nat.add_zero] at e0
        go_wp2_with fail
        go_roundw
        case rel => exact ⟨1, rfl, by omega, HX⟩
        case measure => simp only [intOf]; omega
      · clear hj hj3
        try simp only [Nat.add_zero] at e0
        go_wp2_with fail
        go_roundw
        case rel => exact ⟨2, rfl, by omega, HX⟩
        case measure => simp only [intOf]; omega
      · clear hj hj3
        try simp only [Nat.add_zero] at e0
        go_wp2_with fail
        go_roundw
        case rel => exact ⟨3, rfl, by omega, HX⟩
        case measure => simp only [intOf]; omega
    · rcases (by omega : (¬ (j : Int) < (zs.length : Int)) ∨ ((j : Int) < (zs.length : Int) ∧ ¬ (j : Int) < 3)) with hd | ⟨hd, hd2⟩
      all_goals
        clear hj
        go_wp2_with fail
        exact HK.out _ _ _ _ _ _ _ _ _ _ _ _ _ _ _ _ _ _ _ _ _ _ _ _ HJ.out
end Go.Proofs.YtempphlbgeogiaaDoor
