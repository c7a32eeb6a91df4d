/- The law TrackTalks of package portlaw2 returns true, for every key, segments, sides and times, where the table of lives and errors.errorType hold what the rows lay; the walk of its text. -/
import Derived.Test.YtdhjfjnjdkmhjaaDoorMgN
import Derived.Test.YtdhjfjnjdkmhjaaDoorRefBg
import Derived.Test.YtdhjfjnjdkmhjaaDoorMgT
import Derived.Test.YtdhjfjnjdkmhjaaDoorMgU
import Derived.Test.YtdhjfjnjdkmhjaaDoorMgF
import Derived.Test.YtdhjfjnjdkmhjaaDoorMgE
import Derived.Test.YtdhjfjnjdkmhjaaDoorMgE
import Derived.Deep.DeepMust
import Derived.Deep.RegionHeld3
import Derived.Deep.DeepCutAuto
namespace Go.Proofs.YtdhjfjnjdkmhjaaDoor
open Go.RowKit
set_option linter.unusedVariables false

theorem errV_tk (e : Int) : ErrVal (errV e) e := by
  unfold errV
  split
  · exact .inl ⟨rfl, by assumption⟩
  · exact .inr rfl
/-- A flow, as both have it. -/
structure TkS (w : World) (P G : Nat) (g : Fl) (W : World) : Prop where
  p : FlAt W P g
  q : FlAt W G g
  lo : w.heap.size + 1 < P
  lt : P < G
  bel : Below w.heap.size w W
theorem TkS.step {w W W' : World} {P G : Nat} {g : Fl} (h : TkS w P G g W) (hb : Below W.heap.size W W') : TkS w P G g W' :=
  ⟨h.p.below h.p.lt hb, h.q.below h.q.lt hb, h.lo, h.lt, h.bel.trans (hb.mono h.bel.size)⟩
theorem TkS.drew {w W : World} {P G : Nat} {g : Fl} (h : TkS w P G g W) : TkS w P G g W.drew := ⟨h.p, h.q, h.lo, h.lt, h.bel.drew⟩
theorem TkS.only {w W W' : World} {P G B : Nat} {g : Fl} (h : TkS w P G g W) (hB : G < B) (ho : Only B W W') : TkS w P G g W' :=
  ⟨h.p.only (by have := h.lt; omega) ho, h.q.only (by omega) ho, h.lo, h.lt, ho.below (by have := h.lo; have := h.lt; omega) h.bel⟩
/-- .. and what it becomes with a segment, as one has it. -/
structure TkX (w : World) (P G : Nat) (g x : Fl) (X : Nat) (W : World) : Prop where
  st : TkS w P G g W
  x : FlAt W X x
  lt : G < X
theorem TkX.step {w W W' : World} {P G X : Nat} {g x : Fl} (h : TkX w P G g x X W) (hb : Below W.heap.size W W') : TkX w P G g x X W' :=
  ⟨h.st.step hb, h.x.below h.x.lt hb, h.lt⟩
theorem TkX.drew {w W : World} {P G X : Nat} {g x : Fl} (h : TkX w P G g x X W) : TkX w P G g x X W.drew := ⟨h.st.drew, h.x, h.lt⟩
theorem TkX.only {w W W' : World} {P G X B : Nat} {g x : Fl} (h : TkX w P G g x X W) (hB : X < B) (ho : Only B W W') : TkX w P G g x X W' :=
  ⟨h.st.only (by have := h.lt; omega) ho, h.x.only (by omega) ho, h.lt⟩
theorem TkX.fresh {w W : World} {P G : Nat} {g : Fl} (x : Fl) (h : TkS w P G g W) : TkX w P G g x W.heap.size (W.alloc (.cells #[.int .i64 x.key.kind, .int .i64 x.key.src, .int .i64 x.key.frm, .int .i64 x.key.dst, .int .i64 x.key.too, .int .i64 x.st, .int .i64 x.unt, .int .i64 x.stp, .int .i64 x.h0, .int .i64 x.h1, .int .i64 x.w0, .int .i64 x.w1, .bool x.d0, .bool x.d1, .int .i64 x.num] 30)) :=
  ⟨h.step ((Below.refl _ _).alloc (Nat.le_refl _) _), FlAt.new W x, h.q.lt⟩
theorem TkX.put {w W : World} {P G B : Nat} {g : Fl} (x : Fl) (h : TkS w P G g W) (hB : G < B) (hz : FlAt W B zeroF) : TkX w P G g x B (((((((((((((((W.setCell ⟨B, 0, none⟩ (.int .i64 x.key.kind)).setCell ⟨B, 1, none⟩ (.int .i64 x.key.src)).setCell ⟨B, 2, none⟩ (.int .i64 x.key.frm)).setCell ⟨B, 3, none⟩ (.int .i64 x.key.dst)).setCell ⟨B, 4, none⟩ (.int .i64 x.key.too)).setCell ⟨B, 5, none⟩ (.int .i64 x.st)).setCell ⟨B, 6, none⟩ (.int .i64 x.unt)).setCell ⟨B, 7, none⟩ (.int .i64 x.stp)).setCell ⟨B, 8, none⟩ (.int .i64 x.h0)).setCell ⟨B, 9, none⟩ (.int .i64 x.h1)).setCell ⟨B, 10, none⟩ (.int .i64 x.w0)).setCell ⟨B, 11, none⟩ (.int .i64 x.w1)).setCell ⟨B, 12, none⟩ (.bool x.d0)).setCell ⟨B, 13, none⟩ (.bool x.d1)).setCell ⟨B, 14, none⟩ (.int .i64 x.num)) := by
  obtain ⟨W', e, h1, h2⟩ := hz.store x
  rw [e]
  exact ⟨h.only hB h2, h1, hB⟩
theorem tks_early {w W W3 : World} {P G : Nat} {g : Fl} (h : TkS w P G g W) (b : Below (W.alloc (.cells #[.int .i64 0, .int .i64 0, .int .i64 0, .int .i64 0, .int .i64 0, .int .i64 0, .int .i64 0, .int .i64 0, .int .i64 0, .int .i64 0, .int .i64 0, .int .i64 0, .bool false, .bool false, .int .i64 0] 30)).drew.heap.size (W.alloc (.cells #[.int .i64 0, .int .i64 0, .int .i64 0, .int .i64 0, .int .i64 0, .int .i64 0, .int .i64 0, .int .i64 0, .int .i64 0, .int .i64 0, .int .i64 0, .int .i64 0, .bool false, .bool false, .int .i64 0] 30)).drew W3) : TkS w P G g W3 ∧ FlAt W3 W.heap.size zeroF := by
  have z := FlAt.zero W
  refine ⟨((h.step ((Below.refl _ _).alloc (Nat.le_refl _) _)).drew).step b, FlAt.below z.drew z.drew.lt b⟩
theorem tkx_early {w W W3 : World} {P G X : Nat} {g x : Fl} (h : TkX w P G g x X W) (b : Below (W.alloc (.cells #[.int .i64 0, .int .i64 0, .int .i64 0, .int .i64 0, .int .i64 0, .int .i64 0, .int .i64 0, .int .i64 0, .int .i64 0, .int .i64 0, .int .i64 0, .int .i64 0, .bool false, .bool false, .int .i64 0] 30)).drew.heap.size (W.alloc (.cells #[.int .i64 0, .int .i64 0, .int .i64 0, .int .i64 0, .int .i64 0, .int .i64 0, .int .i64 0, .int .i64 0, .int .i64 0, .int .i64 0, .int .i64 0, .int .i64 0, .bool false, .bool false, .int .i64 0] 30)).drew W3) : TkX w P G g x X W3 ∧ FlAt W3 W.heap.size zeroF := by
  have z := FlAt.zero W
  refine ⟨((h.step ((Below.refl _ _).alloc (Nat.le_refl _) _)).drew).step b, FlAt.below z.drew z.drew.lt b⟩
/-- .. and as the other one has it. -/
structure TkY (w : World) (P G : Nat) (g x : Fl) (X Y : Nat) (W : World) : Prop where
  st : TkX w P G g x X W
  y : FlAt W Y x
  lt : X < Y
theorem TkY.step {w W W' : World} {P G X Y : Nat} {g x : Fl} (h : TkY w P G g x X Y W) (hb : Below W.heap.size W W') : TkY w P G g x X Y W' :=
  ⟨h.st.step hb, h.y.below h.y.lt hb, h.lt⟩
theorem TkY.drew {w W : World} {P G X Y : Nat} {g x : Fl} (h : TkY w P G g x X Y W) : TkY w P G g x X Y W.drew := ⟨h.st.drew, h.y, h.lt⟩
theorem TkY.fresh {w W : World} {P G X : Nat} {g x : Fl} (h : TkX w P G g x X W) : TkY w P G g x X W.heap.size (W.alloc (.cells #[.int .i64 x.key.kind, .int .i64 x.key.src, .int .i64 x.key.frm, .int .i64 x.key.dst, .int .i64 x.key.too, .int .i64 x.st, .int .i64 x.unt, .int .i64 x.stp, .int .i64 x.h0, .int .i64 x.h1, .int .i64 x.w0, .int .i64 x.w1, .bool x.d0, .bool x.d1, .int .i64 x.num] 30)) :=
  ⟨h.step ((Below.refl _ _).alloc (Nat.le_refl _) _), FlAt.new W x, h.x.lt⟩
theorem TkY.put {w W : World} {P G X B : Nat} {g x : Fl} (h : TkX w P G g x X W) (hB : X < B) (hz : FlAt W B zeroF) : TkY w P G g x X B (((((((((((((((W.setCell ⟨B, 0, none⟩ (.int .i64 x.key.kind)).setCell ⟨B, 1, none⟩ (.int .i64 x.key.src)).setCell ⟨B, 2, none⟩ (.int .i64 x.key.frm)).setCell ⟨B, 3, none⟩ (.int .i64 x.key.dst)).setCell ⟨B, 4, none⟩ (.int .i64 x.key.too)).setCell ⟨B, 5, none⟩ (.int .i64 x.st)).setCell ⟨B, 6, none⟩ (.int .i64 x.unt)).setCell ⟨B, 7, none⟩ (.int .i64 x.stp)).setCell ⟨B, 8, none⟩ (.int .i64 x.h0)).setCell ⟨B, 9, none⟩ (.int .i64 x.h1)).setCell ⟨B, 10, none⟩ (.int .i64 x.w0)).setCell ⟨B, 11, none⟩ (.int .i64 x.w1)).setCell ⟨B, 12, none⟩ (.bool x.d0)).setCell ⟨B, 13, none⟩ (.bool x.d1)).setCell ⟨B, 14, none⟩ (.int .i64 x.num)) := by
  obtain ⟨W', e, h1, h2⟩ := hz.store x
  rw [e]
  exact ⟨h.only hB h2, h1, hB⟩
theorem SgCells.cells {w : World} {b o : Nat} {s : Sg} {bv : Value} (h : SgCells w b o s bv) : w.cell? ⟨b, o, none⟩ = some (.int .i64 s.frm) ∧ w.cell? ⟨b, o + 1, none⟩ = some (.int .i64 s.too) ∧ w.cell? ⟨b, o + 2, none⟩ = some (.int .i64 s.seq) ∧ w.cell? ⟨b, o + 3, none⟩ = some (.int .i64 s.ack) ∧
    w.cell? ⟨b, o + 4, none⟩ = some (.int .i64 s.win) ∧ w.cell? ⟨b, o + 5, none⟩ = some (.int .i64 s.flg) ∧ w.cell? ⟨b, o + 6, none⟩ = some bv := h.1
theorem fl_lt_size {W : World} {b : Nat} {p : Fl} (h : FlAt W b p) : b < W.heap.size := h.lt
/-- Row rb holds the segments ss, from ro on, in every world that has what w has. -/
theorem sgs_at {w : World} {v : Value} {ss : List (Sg × Value)} (h : Sgs w v ss) : ∃ a c, v = .slice a ss.length c ∧ ∀ k (hk : k < ss.length), ∃ rb ro, a = some ⟨rb, ro, none⟩ ∧ ss.length ≤ c ∧ c ≤ 9223372036854775807 ∧ rb < w.heap.size ∧ ∀ W, Below w.heap.size w W → SgCells W rb (ro + k * 7) ss[k].1 ss[k].2 := by
  rcases h with ⟨rfl, a, c, rfl⟩ | ⟨b, off, len, cap, rfl, h1, h2, h3, h4⟩
  · exact ⟨a, c, rfl, fun k hk => by simp at hk⟩
  · subst h3
    unfold maxLen at h2
    exact ⟨_, cap, rfl, fun k hk => ⟨b, off, rfl, h1, h2, (h4 k hk).lt, fun W hW => (h4 k hk).below hW⟩⟩
theorem bools_at {w : World} {v : Value} {bs : List Bool} (h : Bools w v bs) : ∃ a c, v = .slice a bs.length c ∧ ∀ k (hk : k < bs.length), ∃ rb ro, a = some ⟨rb, ro, none⟩ ∧ bs.length ≤ c ∧ c ≤ 9223372036854775807 ∧ ∀ W, Below w.heap.size w W → W.cell? ⟨rb, ro + k, none⟩ = some (.bool bs[k]) := by
  rcases h with ⟨rfl, a, c, rfl⟩ | ⟨b, off, len, cap, rfl, h1, h2, h3, h4⟩
  · exact ⟨a, c, rfl, fun k hk => by simp at hk⟩
  · subst h3
    unfold maxLen at h2
    refine ⟨_, cap, rfl, fun k hk => ⟨b, off, rfl, h1, h2, fun W hW => ?_⟩⟩
    have hc := h4 k hk
    have hlt : b < w.heap.size := by
      rcases Nat.lt_or_ge b w.heap.size with h | h
      · exact h
      · simp [World.cell?, Array.getElem?_eq_none h] at hc
    rw [hW.cell (p := ⟨b, off + k, none⟩) hlt]; exact hc
theorem times_at {w : World} {v : Value} {zs : List Int} (h : Nums w v zs) : ∃ a c, v = .slice a zs.length c ∧ ∀ k (hk : k < zs.length), ∃ rb ro, a = some ⟨rb, ro, none⟩ ∧ zs.length ≤ c ∧ c ≤ 9223372036854775807 ∧ ∀ W, Below w.heap.size w W → W.cell? ⟨rb, ro + k, none⟩ = some (.int .i64 zs[k]) := by
  rcases h with ⟨rfl, a, c, rfl⟩ | ⟨b, off, len, cap, rfl, h1, h2, h3, hlt, h4⟩
  · exact ⟨a, c, rfl, fun k hk => by simp at hk⟩
  · subst h3
    unfold maxLen at h2
    refine ⟨_, cap, rfl, fun k hk => ⟨b, off, rfl, h1, h2, fun W hW => ?_⟩⟩
    rw [hW.cell (p := ⟨b, off + k, none⟩) hlt, h4 k hk]
    simp [List.getD, hk]

/-- The region of a number. -/
def regOf (n : Nat) : Code → Option Code
  | .seq a b => match regOf n a with
    | some c => some c
    | none => regOf n b
  | .loop a => regOf n a
  | .block _ a => regOf n a
  | .cond _ a b => match regOf n a with
    | some c => some c
    | none => regOf n b
  | .region m ops d => match Nat.beq m n with
    | true => some (.region m ops d)
    | false => none
  | _ => none
noncomputable def talkReg (n : Nat) : Code := (regOf n (Tryd.f4.body.getD .skip)).getD .skip
set_option maxRecDepth 100000 in
set_option maxHeartbeats 32000000 in
theorem talk15 (w W0 : World) (P G rb ro N cv k : Nat) (g x : Fl) (s : Sg) (a : Option Addr) (l c : Nat) (sd n' z2 : Int) (K : Act → World → Prop) (E : Exit → Act → World → Prop) (C : Code) (hC : C = talkReg 15)
    (hT : TkS w P G g W0) (hkN : k < N) (hcv1 : N ≤ cv) (hcv2 : cv ≤ 9223372036854775807)
    (HSG : Hid (∀ W, Below w.heap.size w W → SgCells W rb (ro + k * 7) s (.slice a l c)))
    (HC : Hid (∀ W, Below w.heap.size w W → Calls Tryd.prog 11 #[.agg #[.int .i64 g.key.kind, .int .i64 g.key.src, .int .i64 g.key.frm, .int .i64 g.key.dst, .int .i64 g.key.too, .int .i64 g.st, .int .i64 g.unt, .int .i64 g.stp, .int .i64 g.h0, .int .i64 g.h1, .int .i64 g.w0, .int .i64 g.w1, .bool g.d0, .bool g.d1, .int .i64 g.num], .agg #[.int .i64 s.frm, .int .i64 s.too, .int .i64 s.seq, .int .i64 s.ack, .int .i64 s.win, .int .i64 s.flg, .slice a l c], .int .i64 sd, .int .i64 n'] W fun e w' => e = .returned (.tuple #[.agg #[.int .i64 x.key.kind, .int .i64 x.key.src, .int .i64 x.key.frm, .int .i64 x.key.dst, .int .i64 x.key.too, .int .i64 x.st, .int .i64 x.unt, .int .i64 x.stp, .int .i64 x.h0, .int .i64 x.h1, .int .i64 x.w0, .int .i64 x.w1, .bool x.d0, .bool x.d1, .int .i64 x.num], .int .i64 z2]) ∧ Below W.heap.size W w'))
    (v0 v1 v3 v4 v5 v6 v7 v8 v9 v10 v12 v13 v14 v15 v19 v20 v21 v22 v23 v24 v25 v26 v27 v28 v29 v30 v31 v32 v33 v34 v35 v36 v37 v38 v39 v40 v41 v42 v43 v44 v45 v46 v47 v48 v49 v50 v51 v52 v53 v54 v55 v56 v57 v58 v59 v60 v61 v62 v63 v64 v65 v66 v67 v68 v69 v70 v71 v72 v73 v74 v75 v76 v77 v78 v79 v80 v81 v82 v83 v84 v85 v86 v87 v88 v89 v90 v91 v92 v93 v94 v95 v96 v97 v98 v99 v100 v101 v102 v103 v104 v105 v106 v107 v108 v109 v110 v111 v112 v113 v114 v115 v116 v117 v118 v119 v120 v121 v122 v123 v124 v125 v126 v127 v128 v129 : Value)
    (hK : ∀ (X9 : Nat) (W9 : World) (u94 u95 u96 u97 u98 u99 u100 u101 u102 u103 u104 : Value), TkX w P G g x X9 W9 → K { tmps := #[v0, v1, .slice (some ⟨rb, ro, none⟩) N cv, v3, v4, v5, v6, v7, v8, v9, v10, .pointer (some ⟨P, 0, none⟩), v12, v13, v14, v15, .int .i64 n', .int .i64 (k : Int), .int .i64 sd, .pointer (some ⟨X9, 0, none⟩), .int .i64 z2, v21, v22, v23, v24, v25, v26, v27, v28, v29, v30, v31, v32, v33, v34, v35, v36, v37, v38, v39, v40, v41, v42, v43, v44, v45, v46, v47, v48, v49, v50, v51, v52, v53, v54, v55, v56, v57, v58, v59, v60, v61, v62, v63, v64, v65, v66, v67, v68, v69, v70, v71, v72, v73, v74, v75, v76, v77, v78, v79, v80, v81, v82, v83, v84, v85, v86, v87, v88, v89, v90, v91, v92, v93, u94, u95, u96, u97, u98, u99, u100, u101, u102, u103, u104, v105, v106, v107, v108, v109, v110, v111, v112, v113, v114, v115, v116, v117, v118, v119, v120, v121, v122, v123, v124, v125, v126, v127, v128, v129], defers := [] } W9) :
    Code.wp Tryd.prog C (Exit.then K E) { tmps := #[v0, v1, .slice (some ⟨rb, ro, none⟩) N cv, v3, v4, v5, v6, v7, v8, v9, v10, .pointer (some ⟨P, 0, none⟩), v12, v13, v14, v15, .int .i64 n', .int .i64 (k : Int), .int .i64 sd, v19, v20, v21, v22, v23, v24, v25, v26, v27, v28, v29, v30, v31, v32, v33, v34, v35, v36, v37, v38, v39, v40, v41, v42, v43, v44, v45, v46, v47, v48, v49, v50, v51, v52, v53, v54, v55, v56, v57, v58, v59, v60, v61, v62, v63, v64, v65, v66, v67, v68, v69, v70, v71, v72, v73, v74, v75, v76, v77, v78, v79, v80, v81, v82, v83, v84, v85, v86, v87, v88, v89, v90, v91, v92, v93, v94, v95, v96, v97, v98, v99, v100, v101, v102, v103, v104, v105, v106, v107, v108, v109, v110, v111, v112, v113, v114, v115, v116, v117, v118, v119, v120, v121, v122, v123, v124, v125, v126, v127, v128, v129], defers := [] } W0 := by
  subst hC
  conv =>
    arg 2
    unfold talkReg
    unfold Tryd.f4
    simp only [Option.getD_some, regOf]
  conv =>
    arg 4
    zeta
  simp only at hK
  have HK := hidE hK
  clear hK
  have j1 : (k : Int) < (N : Int) := by omega
  have j2 : (0 : Int) ≤ (k : Int) := by omega
  have hc0 := HC.out W0.drew hT.drew.bel
  have hc1 := HC.out (W0.alloc (.cells #[.int .i64 0, .int .i64 0, .int .i64 0, .int .i64 0, .int .i64 0, .int .i64 0, .int .i64 0, .int .i64 0, .int .i64 0, .int .i64 0, .int .i64 0, .int .i64 0, .bool false, .bool false, .int .i64 0] 30)).drew (hT.step ((Below.refl _ _).alloc (Nat.le_refl _) (.cells #[.int .i64 0, .int .i64 0, .int .i64 0, .int .i64 0, .int .i64 0, .int .i64 0, .int .i64 0, .int .i64 0, .int .i64 0, .int .i64 0, .int .i64 0, .int .i64 0, .bool false, .bool false, .int .i64 0] 30))).drew.bel
  obtain ⟨e0, e1, e2, e3, e4, e5, e6, e7, e8, e9, e10, e11, e12, e13, e14⟩ := hT.p.cells
  obtain ⟨s0, s1, s2, s3, s4, s5, s6⟩ := (HSG.out W0 hT.bel).cells
  have hS : W0.cell? ⟨P, 0, none⟩ = some (.int .i64 g.key.kind) ∧ W0.cell? ⟨P, 1, none⟩ = some (.int .i64 g.key.src) ∧ W0.cell? ⟨P, 2, none⟩ = some (.int .i64 g.key.frm) ∧ W0.cell? ⟨P, 3, none⟩ = some (.int .i64 g.key.dst) ∧ W0.cell? ⟨P, 4, none⟩ = some (.int .i64 g.key.too) ∧ W0.cell? ⟨P, 5, none⟩ = some (.int .i64 g.st) ∧ W0.cell? ⟨P, 6, none⟩ = some (.int .i64 g.unt) ∧ W0.cell? ⟨P, 7, none⟩ = some (.int .i64 g.stp) ∧ W0.cell? ⟨P, 8, none⟩ = some (.int .i64 g.h0) ∧ W0.cell? ⟨P, 9, none⟩ = some (.int .i64 g.h1) ∧ W0.cell? ⟨P, 10, none⟩ = some (.int .i64 g.w0) ∧ W0.cell? ⟨P, 11, none⟩ = some (.int .i64 g.w1) ∧ W0.cell? ⟨P, 12, none⟩ = some (.bool g.d0) ∧ W0.cell? ⟨P, 13, none⟩ = some (.bool g.d1) ∧ W0.cell? ⟨P, 14, none⟩ = some (.int .i64 g.num) ∧ W0.cell? ⟨rb, ro + k * 7, none⟩ = some (.int .i64 s.frm) ∧ W0.cell? ⟨rb, ro + k * 7 + 1, none⟩ = some (.int .i64 s.too) ∧ W0.cell? ⟨rb, ro + k * 7 + 2, none⟩ = some (.int .i64 s.seq) ∧ W0.cell? ⟨rb, ro + k * 7 + 3, none⟩ = some (.int .i64 s.ack) ∧ W0.cell? ⟨rb, ro + k * 7 + 4, none⟩ = some (.int .i64 s.win) ∧ W0.cell? ⟨rb, ro + k * 7 + 5, none⟩ = some (.int .i64 s.flg) ∧ W0.cell? ⟨rb, ro + k * 7 + 6, none⟩ = some (.slice a l c) := ⟨e0, e1, e2, e3, e4, e5, e6, e7, e8, e9, e10, e11, e12, e13, e14, s0, s1, s2, s3, s4, s5, s6⟩
  have nn1 := World.new_ne W0 _ e0
  have nn2 := World.new_ne W0 _ s0
  clear e0 e1 e2 e3 e4 e5 e6 e7 e8 e9 e10 e11 e12 e13 e14 s0 s1 s2 s3 s4 s5 s6
  go_region_held3 (fun W' => W'.cell? ⟨P, 0, none⟩ = some (.int .i64 g.key.kind) ∧ W'.cell? ⟨P, 1, none⟩ = some (.int .i64 g.key.src) ∧ W'.cell? ⟨P, 2, none⟩ = some (.int .i64 g.key.frm) ∧ W'.cell? ⟨P, 3, none⟩ = some (.int .i64 g.key.dst) ∧ W'.cell? ⟨P, 4, none⟩ = some (.int .i64 g.key.too) ∧ W'.cell? ⟨P, 5, none⟩ = some (.int .i64 g.st) ∧ W'.cell? ⟨P, 6, none⟩ = some (.int .i64 g.unt) ∧ W'.cell? ⟨P, 7, none⟩ = some (.int .i64 g.stp) ∧ W'.cell? ⟨P, 8, none⟩ = some (.int .i64 g.h0) ∧ W'.cell? ⟨P, 9, none⟩ = some (.int .i64 g.h1) ∧ W'.cell? ⟨P, 10, none⟩ = some (.int .i64 g.w0) ∧ W'.cell? ⟨P, 11, none⟩ = some (.int .i64 g.w1) ∧ W'.cell? ⟨P, 12, none⟩ = some (.bool g.d0) ∧ W'.cell? ⟨P, 13, none⟩ = some (.bool g.d1) ∧ W'.cell? ⟨P, 14, none⟩ = some (.int .i64 g.num) ∧ W'.cell? ⟨rb, ro + k * 7, none⟩ = some (.int .i64 s.frm) ∧ W'.cell? ⟨rb, ro + k * 7 + 1, none⟩ = some (.int .i64 s.too) ∧ W'.cell? ⟨rb, ro + k * 7 + 2, none⟩ = some (.int .i64 s.seq) ∧ W'.cell? ⟨rb, ro + k * 7 + 3, none⟩ = some (.int .i64 s.ack) ∧ W'.cell? ⟨rb, ro + k * 7 + 4, none⟩ = some (.int .i64 s.win) ∧ W'.cell? ⟨rb, ro + k * 7 + 5, none⟩ = some (.int .i64 s.flg) ∧ W'.cell? ⟨rb, ro + k * 7 + 6, none⟩ = some (.slice a l c)) (with_reducible first | assumption | go_keep) (first
    | (go_at_call 11; with_reducible refine hc0.mono ?_; rintro e W3 ⟨rfl, b3⟩; have h3 := hT.drew.step b3; have H3 := hidE h3; obtain ⟨e0, e1, e2, e3, e4, e5, e6, e7, e8, e9, e10, e11, e12, e13, e14⟩ := h3.p.cells; obtain ⟨s0, s1, s2, s3, s4, s5, s6⟩ := (HSG.out W3 h3.bel).cells; have hS3 : W3.cell? ⟨P, 0, none⟩ = some (.int .i64 g.key.kind) ∧ W3.cell? ⟨P, 1, none⟩ = some (.int .i64 g.key.src) ∧ W3.cell? ⟨P, 2, none⟩ = some (.int .i64 g.key.frm) ∧ W3.cell? ⟨P, 3, none⟩ = some (.int .i64 g.key.dst) ∧ W3.cell? ⟨P, 4, none⟩ = some (.int .i64 g.key.too) ∧ W3.cell? ⟨P, 5, none⟩ = some (.int .i64 g.st) ∧ W3.cell? ⟨P, 6, none⟩ = some (.int .i64 g.unt) ∧ W3.cell? ⟨P, 7, none⟩ = some (.int .i64 g.stp) ∧ W3.cell? ⟨P, 8, none⟩ = some (.int .i64 g.h0) ∧ W3.cell? ⟨P, 9, none⟩ = some (.int .i64 g.h1) ∧ W3.cell? ⟨P, 10, none⟩ = some (.int .i64 g.w0) ∧ W3.cell? ⟨P, 11, none⟩ = some (.int .i64 g.w1) ∧ W3.cell? ⟨P, 12, none⟩ = some (.bool g.d0) ∧ W3.cell? ⟨P, 13, none⟩ = some (.bool g.d1) ∧ W3.cell? ⟨P, 14, none⟩ = some (.int .i64 g.num) ∧ W3.cell? ⟨rb, ro + k * 7, none⟩ = some (.int .i64 s.frm) ∧ W3.cell? ⟨rb, ro + k * 7 + 1, none⟩ = some (.int .i64 s.too) ∧ W3.cell? ⟨rb, ro + k * 7 + 2, none⟩ = some (.int .i64 s.seq) ∧ W3.cell? ⟨rb, ro + k * 7 + 3, none⟩ = some (.int .i64 s.ack) ∧ W3.cell? ⟨rb, ro + k * 7 + 4, none⟩ = some (.int .i64 s.win) ∧ W3.cell? ⟨rb, ro + k * 7 + 5, none⟩ = some (.int .i64 s.flg) ∧ W3.cell? ⟨rb, ro + k * 7 + 6, none⟩ = some (.slice a l c) := ⟨e0, e1, e2, e3, e4, e5, e6, e7, e8, e9, e10, e11, e12, e13, e14, s0, s1, s2, s3, s4, s5, s6⟩; have n31 := World.new_ne W3 _ e0; have n32 := World.new_ne W3 _ s0; clear e0 e1 e2 e3 e4 e5 e6 e7 e8 e9 e10 e11 e12 e13 e14 s0 s1 s2 s3 s4 s5 s6; clear h3)
    | (go_at_call 11; with_reducible refine hc1.mono ?_; rintro e W3 ⟨rfl, b3⟩; obtain ⟨h3, hz3⟩ := tks_early hT b3; have H3 := hidE h3; have HZ3 := hidE hz3; obtain ⟨e0, e1, e2, e3, e4, e5, e6, e7, e8, e9, e10, e11, e12, e13, e14⟩ := h3.p.cells; obtain ⟨s0, s1, s2, s3, s4, s5, s6⟩ := (HSG.out W3 h3.bel).cells; have hS3 : W3.cell? ⟨P, 0, none⟩ = some (.int .i64 g.key.kind) ∧ W3.cell? ⟨P, 1, none⟩ = some (.int .i64 g.key.src) ∧ W3.cell? ⟨P, 2, none⟩ = some (.int .i64 g.key.frm) ∧ W3.cell? ⟨P, 3, none⟩ = some (.int .i64 g.key.dst) ∧ W3.cell? ⟨P, 4, none⟩ = some (.int .i64 g.key.too) ∧ W3.cell? ⟨P, 5, none⟩ = some (.int .i64 g.st) ∧ W3.cell? ⟨P, 6, none⟩ = some (.int .i64 g.unt) ∧ W3.cell? ⟨P, 7, none⟩ = some (.int .i64 g.stp) ∧ W3.cell? ⟨P, 8, none⟩ = some (.int .i64 g.h0) ∧ W3.cell? ⟨P, 9, none⟩ = some (.int .i64 g.h1) ∧ W3.cell? ⟨P, 10, none⟩ = some (.int .i64 g.w0) ∧ W3.cell? ⟨P, 11, none⟩ = some (.int .i64 g.w1) ∧ W3.cell? ⟨P, 12, none⟩ = some (.bool g.d0) ∧ W3.cell? ⟨P, 13, none⟩ = some (.bool g.d1) ∧ W3.cell? ⟨P, 14, none⟩ = some (.int .i64 g.num) ∧ W3.cell? ⟨rb, ro + k * 7, none⟩ = some (.int .i64 s.frm) ∧ W3.cell? ⟨rb, ro + k * 7 + 1, none⟩ = some (.int .i64 s.too) ∧ W3.cell? ⟨rb, ro + k * 7 + 2, none⟩ = some (.int .i64 s.seq) ∧ W3.cell? ⟨rb, ro + k * 7 + 3, none⟩ = some (.int .i64 s.ack) ∧ W3.cell? ⟨rb, ro + k * 7 + 4, none⟩ = some (.int .i64 s.win) ∧ W3.cell? ⟨rb, ro + k * 7 + 5, none⟩ = some (.int .i64 s.flg) ∧ W3.cell? ⟨rb, ro + k * 7 + 6, none⟩ = some (.slice a l c) := ⟨e0, e1, e2, e3, e4, e5, e6, e7, e8, e9, e10, e11, e12, e13, e14, s0, s1, s2, s3, s4, s5, s6⟩; have n31 := World.new_ne W3 _ e0; have n32 := World.new_ne W3 _ s0; clear e0 e1 e2 e3 e4 e5 e6 e7 e8 e9 e10 e11 e12 e13 e14 s0 s1 s2 s3 s4 s5 s6; obtain ⟨y0, y1, y2, y3, y4, y5, y6, y7, y8, y9, y10, y11, y12, y13, y14⟩ := hz3.frees; obtain ⟨d0, d1, d2, d3, d4, d5, d6, d7, d8, d9, d10, d11, d12, d13, d14⟩ := zero_cells hz3; clear h3 hz3))
  · clear hS hS3 hc0 hc1
    go_wp2_with fail
    exact HK.out _ _ _ _ _ _ _ _ _ _ _ _ _ (TkX.fresh x H3.out)
  · have HKP := hidE (TkX.put x H3.out hT.q.lt HZ3.out)
    clear hS hS3 hc0 hc1 y0 y1 y2 y3 y4 y5 y6 y7 y8 y9 y10 y11 y12 y13 y14 d0 d1 d2 d3 d4 d5 d6 d7 d8 d9 d10 d11 d12 d13 d14
    go_wp2_with fail
    exact HK.out _ _ _ _ _ _ _ _ _ _ _ _ _ HKP.out

set_option maxRecDepth 100000 in
set_option maxHeartbeats 32000000 in
theorem talk16 (w W0 : World) (P G X rb ro N cv k : Nat) (g x : Fl) (s : Sg) (a : Option Addr) (l c : Nat) (sd n' z2 : Int) (v2 : Value) (K : Act → World → Prop) (E : Exit → Act → World → Prop) (C : Code) (hC : C = talkReg 16)
    (hT : TkX w P G g x X W0) (hkN : k < N) (hcv1 : N ≤ cv) (hcv2 : cv ≤ 9223372036854775807)
    (HSG : Hid (∀ W, Below w.heap.size w W → SgCells W rb (ro + k * 7) s (.slice a l c)))
    (HC : Hid (∀ W, Below w.heap.size w W → Calls Tryd.prog 12 #[.agg #[.int .i64 g.key.kind, .int .i64 g.key.src, .int .i64 g.key.frm, .int .i64 g.key.dst, .int .i64 g.key.too, .int .i64 g.st, .int .i64 g.unt, .int .i64 g.stp, .int .i64 g.h0, .int .i64 g.h1, .int .i64 g.w0, .int .i64 g.w1, .bool g.d0, .bool g.d1, .int .i64 g.num], .agg #[.int .i64 s.frm, .int .i64 s.too, .int .i64 s.seq, .int .i64 s.ack, .int .i64 s.win, .int .i64 s.flg, .slice a l c], .int .i64 sd, .int .i64 n'] W fun e w' => e = .returned (.tuple #[.agg #[.int .i64 x.key.kind, .int .i64 x.key.src, .int .i64 x.key.frm, .int .i64 x.key.dst, .int .i64 x.key.too, .int .i64 x.st, .int .i64 x.unt, .int .i64 x.stp, .int .i64 x.h0, .int .i64 x.h1, .int .i64 x.w0, .int .i64 x.w1, .bool x.d0, .bool x.d1, .int .i64 x.num], v2]) ∧ Below W.heap.size W w'))
    (v0 v1 v3 v4 v5 v6 v7 v8 v9 v10 v11 v12 v14 v15 v19 v20 v21 v22 v23 v24 v25 v26 v27 v28 v29 v30 v31 v32 v33 v34 v35 v36 v37 v38 v39 v40 v41 v42 v43 v44 v45 v46 v47 v48 v49 v50 v51 v52 v53 v54 v55 v56 v57 v58 v59 v60 v61 v62 v63 v64 v65 v66 v67 v68 v69 v70 v71 v72 v73 v74 v75 v76 v77 v78 v79 v80 v81 v82 v83 v84 v85 v86 v87 v88 v89 v90 v91 v92 v93 v94 v95 v96 v97 v98 v99 v100 v101 v102 v103 v104 v105 v106 v107 v108 v109 v110 v111 v112 v113 v114 v115 v116 v117 v118 v119 v120 v121 v122 v123 v124 v125 v126 v127 v128 v129 : Value)
    (hK : ∀ (X9 : Nat) (W9 : World) (u105 u106 u107 u108 u109 u110 u111 u112 u113 u114 u115 : Value), TkY w P G g x X X9 W9 → K { tmps := #[v0, v1, .slice (some ⟨rb, ro, none⟩) N cv, v3, v4, v5, v6, v7, v8, v9, v10, v11, v12, .pointer (some ⟨G, 0, none⟩), v14, v15, .int .i64 n', .int .i64 (k : Int), .int .i64 sd, v19, v20, .pointer (some ⟨X9, 0, none⟩), v2, v23, v24, v25, v26, v27, v28, v29, v30, v31, v32, v33, v34, v35, v36, v37, v38, v39, v40, v41, v42, v43, v44, v45, v46, v47, v48, v49, v50, v51, v52, v53, v54, v55, v56, v57, v58, v59, v60, v61, v62, v63, v64, v65, v66, v67, v68, v69, v70, v71, v72, v73, v74, v75, v76, v77, v78, v79, v80, v81, v82, v83, v84, v85, v86, v87, v88, v89, v90, v91, v92, v93, v94, v95, v96, v97, v98, v99, v100, v101, v102, v103, v104, u105, u106, u107, u108, u109, u110, u111, u112, u113, u114, u115, v116, v117, v118, v119, v120, v121, v122, v123, v124, v125, v126, v127, v128, v129], defers := [] } W9) :
    Code.wp Tryd.prog C (Exit.then K E) { tmps := #[v0, v1, .slice (some ⟨rb, ro, none⟩) N cv, v3, v4, v5, v6, v7, v8, v9, v10, v11, v12, .pointer (some ⟨G, 0, none⟩), v14, v15, .int .i64 n', .int .i64 (k : Int), .int .i64 sd, v19, v20, v21, v22, v23, v24, v25, v26, v27, v28, v29, v30, v31, v32, v33, v34, v35, v36, v37, v38, v39, v40, v41, v42, v43, v44, v45, v46, v47, v48, v49, v50, v51, v52, v53, v54, v55, v56, v57, v58, v59, v60, v61, v62, v63, v64, v65, v66, v67, v68, v69, v70, v71, v72, v73, v74, v75, v76, v77, v78, v79, v80, v81, v82, v83, v84, v85, v86, v87, v88, v89, v90, v91, v92, v93, v94, v95, v96, v97, v98, v99, v100, v101, v102, v103, v104, v105, v106, v107, v108, v109, v110, v111, v112, v113, v114, v115, v116, v117, v118, v119, v120, v121, v122, v123, v124, v125, v126, v127, v128, v129], defers := [] } W0 := by
  subst hC
  conv =>
    arg 2
    unfold talkReg
    unfold Tryd.f4
    simp only [Option.getD_some, regOf]
  conv =>
    arg 4
    zeta
  simp only at hK
  have HK := hidE hK
  clear hK
  have j1 : (k : Int) < (N : Int) := by omega
  have j2 : (0 : Int) ≤ (k : Int) := by omega
  have hc0 := HC.out W0.drew hT.drew.st.bel
  have hc1 := HC.out (W0.alloc (.cells #[.int .i64 0, .int .i64 0, .int .i64 0, .int .i64 0, .int .i64 0, .int .i64 0, .int .i64 0, .int .i64 0, .int .i64 0, .int .i64 0, .int .i64 0, .int .i64 0, .bool false, .bool false, .int .i64 0] 30)).drew (hT.step ((Below.refl _ _).alloc (Nat.le_refl _) (.cells #[.int .i64 0, .int .i64 0, .int .i64 0, .int .i64 0, .int .i64 0, .int .i64 0, .int .i64 0, .int .i64 0, .int .i64 0, .int .i64 0, .int .i64 0, .int .i64 0, .bool false, .bool false, .int .i64 0] 30))).drew.st.bel
  obtain ⟨e0, e1, e2, e3, e4, e5, e6, e7, e8, e9, e10, e11, e12, e13, e14⟩ := hT.st.q.cells
  obtain ⟨s0, s1, s2, s3, s4, s5, s6⟩ := (HSG.out W0 hT.st.bel).cells
  have hS : W0.cell? ⟨G, 0, none⟩ = some (.int .i64 g.key.kind) ∧ W0.cell? ⟨G, 1, none⟩ = some (.int .i64 g.key.src) ∧ W0.cell? ⟨G, 2, none⟩ = some (.int .i64 g.key.frm) ∧ W0.cell? ⟨G, 3, none⟩ = some (.int .i64 g.key.dst) ∧ W0.cell? ⟨G, 4, none⟩ = some (.int .i64 g.key.too) ∧ W0.cell? ⟨G, 5, none⟩ = some (.int .i64 g.st) ∧ W0.cell? ⟨G, 6, none⟩ = some (.int .i64 g.unt) ∧ W0.cell? ⟨G, 7, none⟩ = some (.int .i64 g.stp) ∧ W0.cell? ⟨G, 8, none⟩ = some (.int .i64 g.h0) ∧ W0.cell? ⟨G, 9, none⟩ = some (.int .i64 g.h1) ∧ W0.cell? ⟨G, 10, none⟩ = some (.int .i64 g.w0) ∧ W0.cell? ⟨G, 11, none⟩ = some (.int .i64 g.w1) ∧ W0.cell? ⟨G, 12, none⟩ = some (.bool g.d0) ∧ W0.cell? ⟨G, 13, none⟩ = some (.bool g.d1) ∧ W0.cell? ⟨G, 14, none⟩ = some (.int .i64 g.num) ∧ W0.cell? ⟨rb, ro + k * 7, none⟩ = some (.int .i64 s.frm) ∧ W0.cell? ⟨rb, ro + k * 7 + 1, none⟩ = some (.int .i64 s.too) ∧ W0.cell? ⟨rb, ro + k * 7 + 2, none⟩ = some (.int .i64 s.seq) ∧ W0.cell? ⟨rb, ro + k * 7 + 3, none⟩ = some (.int .i64 s.ack) ∧ W0.cell? ⟨rb, ro + k * 7 + 4, none⟩ = some (.int .i64 s.win) ∧ W0.cell? ⟨rb, ro + k * 7 + 5, none⟩ = some (.int .i64 s.flg) ∧ W0.cell? ⟨rb, ro + k * 7 + 6, none⟩ = some (.slice a l c) := ⟨e0, e1, e2, e3, e4, e5, e6, e7, e8, e9, e10, e11, e12, e13, e14, s0, s1, s2, s3, s4, s5, s6⟩
  have nn1 := World.new_ne W0 _ e0
  have nn2 := World.new_ne W0 _ s0
  clear e0 e1 e2 e3 e4 e5 e6 e7 e8 e9 e10 e11 e12 e13 e14 s0 s1 s2 s3 s4 s5 s6
  go_region_held3 (fun W' => W'.cell? ⟨G, 0, none⟩ = some (.int .i64 g.key.kind) ∧ W'.cell? ⟨G, 1, none⟩ = some (.int .i64 g.key.src) ∧ W'.cell? ⟨G, 2, none⟩ = some (.int .i64 g.key.frm) ∧ W'.cell? ⟨G, 3, none⟩ = some (.int .i64 g.key.dst) ∧ W'.cell? ⟨G, 4, none⟩ = some (.int .i64 g.key.too) ∧ W'.cell? ⟨G, 5, none⟩ = some (.int .i64 g.st) ∧ W'.cell? ⟨G, 6, none⟩ = some (.int .i64 g.unt) ∧ W'.cell? ⟨G, 7, none⟩ = some (.int .i64 g.stp) ∧ W'.cell? ⟨G, 8, none⟩ = some (.int .i64 g.h0) ∧ W'.cell? ⟨G, 9, none⟩ = some (.int .i64 g.h1) ∧ W'.cell? ⟨G, 10, none⟩ = some (.int .i64 g.w0) ∧ W'.cell? ⟨G, 11, none⟩ = some (.int .i64 g.w1) ∧ W'.cell? ⟨G, 12, none⟩ = some (.bool g.d0) ∧ W'.cell? ⟨G, 13, none⟩ = some (.bool g.d1) ∧ W'.cell? ⟨G, 14, none⟩ = some (.int .i64 g.num) ∧ W'.cell? ⟨rb, ro + k * 7, none⟩ = some (.int .i64 s.frm) ∧ W'.cell? ⟨rb, ro + k * 7 + 1, none⟩ = some (.int .i64 s.too) ∧ W'.cell? ⟨rb, ro + k * 7 + 2, none⟩ = some (.int .i64 s.seq) ∧ W'.cell? ⟨rb, ro + k * 7 + 3, none⟩ = some (.int .i64 s.ack) ∧ W'.cell? ⟨rb, ro + k * 7 + 4, none⟩ = some (.int .i64 s.win) ∧ W'.cell? ⟨rb, ro + k * 7 + 5, none⟩ = some (.int .i64 s.flg) ∧ W'.cell? ⟨rb, ro + k * 7 + 6, none⟩ = some (.slice a l c)) (with_reducible first | assumption | go_keep) (first
    | (go_at_call 12; with_reducible refine hc0.mono ?_; rintro e W3 ⟨rfl, b3⟩; have h3 := hT.drew.step b3; have H3 := hidE h3; obtain ⟨e0, e1, e2, e3, e4, e5, e6, e7, e8, e9, e10, e11, e12, e13, e14⟩ := h3.st.q.cells; obtain ⟨s0, s1, s2, s3, s4, s5, s6⟩ := (HSG.out W3 h3.st.bel).cells; have hS3 : W3.cell? ⟨G, 0, none⟩ = some (.int .i64 g.key.kind) ∧ W3.cell? ⟨G, 1, none⟩ = some (.int .i64 g.key.src) ∧ W3.cell? ⟨G, 2, none⟩ = some (.int .i64 g.key.frm) ∧ W3.cell? ⟨G, 3, none⟩ = some (.int .i64 g.key.dst) ∧ W3.cell? ⟨G, 4, none⟩ = some (.int .i64 g.key.too) ∧ W3.cell? ⟨G, 5, none⟩ = some (.int .i64 g.st) ∧ W3.cell? ⟨G, 6, none⟩ = some (.int .i64 g.unt) ∧ W3.cell? ⟨G, 7, none⟩ = some (.int .i64 g.stp) ∧ W3.cell? ⟨G, 8, none⟩ = some (.int .i64 g.h0) ∧ W3.cell? ⟨G, 9, none⟩ = some (.int .i64 g.h1) ∧ W3.cell? ⟨G, 10, none⟩ = some (.int .i64 g.w0) ∧ W3.cell? ⟨G, 11, none⟩ = some (.int .i64 g.w1) ∧ W3.cell? ⟨G, 12, none⟩ = some (.bool g.d0) ∧ W3.cell? ⟨G, 13, none⟩ = some (.bool g.d1) ∧ W3.cell? ⟨G, 14, none⟩ = some (.int .i64 g.num) ∧ W3.cell? ⟨rb, ro + k * 7, none⟩ = some (.int .i64 s.frm) ∧ W3.cell? ⟨rb, ro + k * 7 + 1, none⟩ = some (.int .i64 s.too) ∧ W3.cell? ⟨rb, ro + k * 7 + 2, none⟩ = some (.int .i64 s.seq) ∧ W3.cell? ⟨rb, ro + k * 7 + 3, none⟩ = some (.int .i64 s.ack) ∧ W3.cell? ⟨rb, ro + k * 7 + 4, none⟩ = some (.int .i64 s.win) ∧ W3.cell? ⟨rb, ro + k * 7 + 5, none⟩ = some (.int .i64 s.flg) ∧ W3.cell? ⟨rb, ro + k * 7 + 6, none⟩ = some (.slice a l c) := ⟨e0, e1, e2, e3, e4, e5, e6, e7, e8, e9, e10, e11, e12, e13, e14, s0, s1, s2, s3, s4, s5, s6⟩; have n31 := World.new_ne W3 _ e0; have n32 := World.new_ne W3 _ s0; clear e0 e1 e2 e3 e4 e5 e6 e7 e8 e9 e10 e11 e12 e13 e14 s0 s1 s2 s3 s4 s5 s6; clear h3)
    | (go_at_call 12; with_reducible refine hc1.mono ?_; rintro e W3 ⟨rfl, b3⟩; obtain ⟨h3, hz3⟩ := tkx_early hT b3; have H3 := hidE h3; have HZ3 := hidE hz3; obtain ⟨e0, e1, e2, e3, e4, e5, e6, e7, e8, e9, e10, e11, e12, e13, e14⟩ := h3.st.q.cells; obtain ⟨s0, s1, s2, s3, s4, s5, s6⟩ := (HSG.out W3 h3.st.bel).cells; have hS3 : W3.cell? ⟨G, 0, none⟩ = some (.int .i64 g.key.kind) ∧ W3.cell? ⟨G, 1, none⟩ = some (.int .i64 g.key.src) ∧ W3.cell? ⟨G, 2, none⟩ = some (.int .i64 g.key.frm) ∧ W3.cell? ⟨G, 3, none⟩ = some (.int .i64 g.key.dst) ∧ W3.cell? ⟨G, 4, none⟩ = some (.int .i64 g.key.too) ∧ W3.cell? ⟨G, 5, none⟩ = some (.int .i64 g.st) ∧ W3.cell? ⟨G, 6, none⟩ = some (.int .i64 g.unt) ∧ W3.cell? ⟨G, 7, none⟩ = some (.int .i64 g.stp) ∧ W3.cell? ⟨G, 8, none⟩ = some (.int .i64 g.h0) ∧ W3.cell? ⟨G, 9, none⟩ = some (.int .i64 g.h1) ∧ W3.cell? ⟨G, 10, none⟩ = some (.int .i64 g.w0) ∧ W3.cell? ⟨G, 11, none⟩ = some (.int .i64 g.w1) ∧ W3.cell? ⟨G, 12, none⟩ = some (.bool g.d0) ∧ W3.cell? ⟨G, 13, none⟩ = some (.bool g.d1) ∧ W3.cell? ⟨G, 14, none⟩ = some (.int .i64 g.num) ∧ W3.cell? ⟨rb, ro + k * 7, none⟩ = some (.int .i64 s.frm) ∧ W3.cell? ⟨rb, ro + k * 7 + 1, none⟩ = some (.int .i64 s.too) ∧ W3.cell? ⟨rb, ro + k * 7 + 2, none⟩ = some (.int .i64 s.seq) ∧ W3.cell? ⟨rb, ro + k * 7 + 3, none⟩ = some (.int .i64 s.ack) ∧ W3.cell? ⟨rb, ro + k * 7 + 4, none⟩ = some (.int .i64 s.win) ∧ W3.cell? ⟨rb, ro + k * 7 + 5, none⟩ = some (.int .i64 s.flg) ∧ W3.cell? ⟨rb, ro + k * 7 + 6, none⟩ = some (.slice a l c) := ⟨e0, e1, e2, e3, e4, e5, e6, e7, e8, e9, e10, e11, e12, e13, e14, s0, s1, s2, s3, s4, s5, s6⟩; have n31 := World.new_ne W3 _ e0; have n32 := World.new_ne W3 _ s0; clear e0 e1 e2 e3 e4 e5 e6 e7 e8 e9 e10 e11 e12 e13 e14 s0 s1 s2 s3 s4 s5 s6; obtain ⟨y0, y1, y2, y3, y4, y5, y6, y7, y8, y9, y10, y11, y12, y13, y14⟩ := hz3.frees; obtain ⟨d0, d1, d2, d3, d4, d5, d6, d7, d8, d9, d10, d11, d12, d13, d14⟩ := zero_cells hz3; clear h3 hz3))
  · clear hS hS3 hc0 hc1
    go_wp2_with fail
    exact HK.out _ _ _ _ _ _ _ _ _ _ _ _ _ (TkY.fresh H3.out)
  · have HKP := hidE (TkY.put H3.out hT.x.lt HZ3.out)
    clear hS hS3 hc0 hc1 y0 y1 y2 y3 y4 y5 y6 y7 y8 y9 y10 y11 y12 y13 y14 d0 d1 d2 d3 d4 d5 d6 d7 d8 d9 d10 d11 d12 d13 d14
    go_wp2_with fail
    exact HK.out _ _ _ _ _ _ _ _ _ _ _ _ _ HKP.out

/-- What a block of a number holds. -/
def blkOf (n : Nat) : Code → Option Code
  | .seq a b => match blkOf n a with
    | some c => some c
    | none => blkOf n b
  | .loop a => blkOf n a
  | .block m a => match Nat.beq m n with
    | true => some a
    | false => blkOf n a
  | _ => none
noncomputable def talkTail (n : Nat) : Code := (tailOf n ((blkOf 1 (Tryd.f4.body.getD .skip)).getD .skip)).getD .skip
set_option maxRecDepth 100000 in
set_option maxHeartbeats 32000000 in
theorem talk17 (w W2 : World) (P G X Y : Nat) (g x : Fl) (z2 : Int) (ev : Value) (E : Exit → Act → World → Prop) (C : Code) (hC : C = talkTail 17)
    (hY : TkY w P G g x X Y W2) (EV2 : Hid (ErrVal ev z2)) (HE : Hid (∀ (W : World), Below w.heap.size w W → ErrLaid W))
    (v0 v1 v2 v3 v4 v5 v6 v7 v8 v9 v10 v12 v14 v15 v16 v17 v18 v23 v24 v25 v26 v27 v28 v29 v30 v31 v32 v33 v34 v35 v36 v37 v38 v39 v40 v41 v42 v43 v44 v45 v46 v47 v48 v49 v50 v51 v52 v53 v54 v55 v56 v57 v58 v59 v60 v61 v62 v63 v64 v65 v66 v67 v68 v69 v70 v71 v72 v73 v74 v75 v76 v77 v78 v79 v80 v81 v82 v83 v84 v85 v86 v87 v88 v89 v90 v91 v92 v93 v94 v95 v96 v97 v98 v99 v100 v101 v102 v103 v104 v105 v106 v107 v108 v109 v110 v111 v112 v113 v114 v115 v116 v117 v118 v119 v120 v121 v122 v123 v124 v125 v126 v127 v128 v129 : Value)
    (hK : ∀ (g' : Fl) (W9 : World) (u15 u116 u117 u118 u119 u120 u121 u122 u123 u124 u125 u126 u127 u128 u129 : Value), TkS w P G g' W9 → E .normal { tmps := #[v0, v1, v2, v3, v4, v5, v6, v7, v8, v9, v10, .pointer (some ⟨P, 0, none⟩), v12, .pointer (some ⟨G, 0, none⟩), v14, u15, v16, v17, v18, .pointer (some ⟨X, 0, none⟩), .int .i64 z2, .pointer (some ⟨Y, 0, none⟩), ev, v23, v24, v25, v26, v27, v28, v29, v30, v31, v32, v33, v34, v35, v36, v37, v38, v39, v40, v41, v42, v43, v44, v45, v46, v47, v48, v49, v50, v51, v52, v53, v54, v55, v56, v57, v58, v59, v60, v61, v62, v63, v64, v65, v66, v67, v68, v69, v70, v71, v72, v73, v74, v75, v76, v77, v78, v79, v80, v81, v82, v83, v84, v85, v86, v87, v88, v89, v90, v91, v92, v93, v94, v95, v96, v97, v98, v99, v100, v101, v102, v103, v104, v105, v106, v107, v108, v109, v110, v111, v112, v113, v114, v115, u116, u117, u118, u119, u120, u121, u122, u123, u124, u125, u126, u127, u128, u129], defers := [] } W9) :
    Code.wp Tryd.prog C E { tmps := #[v0, v1, v2, v3, v4, v5, v6, v7, v8, v9, v10, .pointer (some ⟨P, 0, none⟩), v12, .pointer (some ⟨G, 0, none⟩), v14, v15, v16, v17, v18, .pointer (some ⟨X, 0, none⟩), .int .i64 z2, .pointer (some ⟨Y, 0, none⟩), ev, v23, v24, v25, v26, v27, v28, v29, v30, v31, v32, v33, v34, v35, v36, v37, v38, v39, v40, v41, v42, v43, v44, v45, v46, v47, v48, v49, v50, v51, v52, v53, v54, v55, v56, v57, v58, v59, v60, v61, v62, v63, v64, v65, v66, v67, v68, v69, v70, v71, v72, v73, v74, v75, v76, v77, v78, v79, v80, v81, v82, v83, v84, v85, v86, v87, v88, v89, v90, v91, v92, v93, v94, v95, v96, v97, v98, v99, v100, v101, v102, v103, v104, v105, v106, v107, v108, v109, v110, v111, v112, v113, v114, v115, v116, v117, v118, v119, v120, v121, v122, v123, v124, v125, v126, v127, v128, v129], defers := [] } W2 := by
  subst hC
  conv =>
    arg 2
    unfold talkTail
    unfold Tryd.f4
    simp only [Option.getD_some, blkOf, tailOf]
  conv =>
    arg 4
    zeta
  simp only at hK
  have HK' := hidE hK
  clear hK
  have hgd := Tryd.flGuard
  have hc := error_val EV2.out z2 W2 (HE.out _ hY.st.st.bel)
  rw [show (z2 == z2) = true by simp] at hc
  go_upto_region 18 with (go_at_call 8; go_must (refine hc.mono ?_; rintro e W3 ⟨rfl, b3⟩))
  have h3 := hY.step b3
  clear hc b3 hY EV2
  obtain ⟨d0, d1, d2, d3, d4, d5, d6, d7, d8, d9, d10, d11, d12, d13, d14⟩ := h3.st.x.cells
  obtain ⟨e0, e1, e2, e3, e4, e5, e6, e7, e8, e9, e10, e11, e12, e13, e14⟩ := h3.y.cells
  have hne := Tryd.flNeq x
  go_upto_region 20 with fail
  clear hne
  have H3 := hidE h3
  clear h3 d0 d1 d2 d3 d4 d5 d6 d7 d8 d9 d10 d11 d12 d13 d14 e0 e1 e2 e3 e4 e5 e6 e7 e8 e9 e10 e11 e12 e13 e14
  by_cases hz2 : z2 = 0
  · subst hz2
    obtain ⟨d0, d1, d2, d3, d4, d5, d6, d7, d8, d9, d10, d11, d12, d13, d14⟩ := H3.out.st.x.cells
    obtain ⟨f0, f1, f2, f3, f4, f5, f6, f7, f8, f9, f10, f11, f12, f13, f14⟩ := H3.out.st.st.p.cells
    obtain ⟨y0, y1, y2, y3, y4, y5, y6, y7, y8, y9, y10, y11, y12, y13, y14⟩ := H3.out.st.st.p.frees
    go_upto_region 22 with fail
    obtain ⟨W4, hW4, p4, o4⟩ := H3.out.st.st.p.store x
    rw [hW4]
    have q4 := H3.out.st.st.q.only (by have := H3.out.st.st.lt; omega) o4
    have yy4 := H3.out.y.only (by have := H3.out.st.st.lt; have := H3.out.st.lt; have := H3.out.lt; omega) o4
    have b4 := o4.below (by have := H3.out.st.st.lo; omega) H3.out.st.st.bel
    have l4 := H3.out.st.st.lo
    have m4 := H3.out.st.st.lt
    clear hW4 o4 d0 d1 d2 d3 d4 d5 d6 d7 d8 d9 d10 d11 d12 d13 d14 f0 f1 f2 f3 f4 f5 f6 f7 f8 f9 f10 f11 f12 f13 f14 y0 y1 y2 y3 y4 y5 y6 y7 y8 y9 y10 y11 y12 y13 y14 H3
    obtain ⟨d0, d1, d2, d3, d4, d5, d6, d7, d8, d9, d10, d11, d12, d13, d14⟩ := yy4.cells
    obtain ⟨f0, f1, f2, f3, f4, f5, f6, f7, f8, f9, f10, f11, f12, f13, f14⟩ := q4.cells
    obtain ⟨y0, y1, y2, y3, y4, y5, y6, y7, y8, y9, y10, y11, y12, y13, y14⟩ := q4.frees
    go_wp2_with fail
    obtain ⟨W5, hW5, q5, o5⟩ := q4.store x
    rw [hW5]
    have HK := hidE (show TkS w P G x W5 from ⟨p4.only (by omega) o5, q5, l4, m4, o5.below (by omega) b4⟩)
    clear hW5 o5 q5 p4 q4 yy4 b4 l4 m4 d0 d1 d2 d3 d4 d5 d6 d7 d8 d9 d10 d11 d12 d13 d14 f0 f1 f2 f3 f4 f5 f6 f7 f8 f9 f10 f11 f12 f13 f14 y0 y1 y2 y3 y4 y5 y6 y7 y8 y9 y10 y11 y12 y13 y14
    exact HK'.out _ _ _ _ _ _ _ _ _ _ _ _ _ _ _ _ _ HK.out
  · have i1 : (z2 == 0) = false := by simpa using hz2
    have HK := hidE H3.out.st.st
    clear H3
    go_wp2_with fail
    exact HK'.out _ _ _ _ _ _ _ _ _ _ _ _ _ _ _ _ _ HK.out

set_option maxRecDepth 100000 in
set_option maxHeartbeats 64000000 in
theorem talks_any (k0 : Ky) (s0 : Sg) (a0 : Option Addr) (l0 c0 : Nat) (av : Option Addr) (N cv : Nat) (ss : List (Sg × Value)) (ab : Option Addr) (B cb : Nat) (bs : List Bool) (az : Option Addr) (Z cz : Nat) (zs : List Int) (w : World)
    (hb : Bytes w (.slice a0 l0 c0) s0.body) (hN : ss.length = N) (hB : bs.length = B) (hZ : zs.length = Z)
    (hss : ∀ k (hk : k < ss.length), ∃ rb ro, av = some ⟨rb, ro, none⟩ ∧ ss.length ≤ cv ∧ cv ≤ 9223372036854775807 ∧ rb < w.heap.size ∧ ∀ W, Below w.heap.size w W → SgCells W rb (ro + k * 7) ss[k].1 ss[k].2)
    (hbs : ∀ k (hk : k < bs.length), ∃ rb ro, ab = some ⟨rb, ro, none⟩ ∧ bs.length ≤ cb ∧ cb ≤ 9223372036854775807 ∧ ∀ W, Below w.heap.size w W → W.cell? ⟨rb, ro + k, none⟩ = some (.bool bs[k]))
    (hzs : ∀ k (hk : k < zs.length), ∃ rb ro, az = some ⟨rb, ro, none⟩ ∧ zs.length ≤ cz ∧ cz ≤ 9223372036854775807 ∧ ∀ W, Below w.heap.size w W → W.cell? ⟨rb, ro + k, none⟩ = some (.int .i64 zs[k]))
    (hE : ErrLaid w) (hL : Lives w) :
    Calls Tryd.prog 4 #[keyV k0, segV s0 (.slice a0 l0 c0), .slice av N cv, .slice ab B cb, .slice az Z cz] w fun e w' => e = .returned (.bool true) ∧ Below w.heap.size w w' := by
  obtain ⟨Q, hQ⟩ : ∃ Q : Ending → World → Prop, Q = fun e w' => e = .returned (.bool true) ∧ Below w.heap.size w w' := ⟨_, rfl⟩
  have HQ : Hid (∀ w', Below w.heap.size w w' → Q (.returned (.bool true)) w') := by rw [hQ]; exact fun _ h => ⟨rfl, h⟩
  rw [← hQ]
  have h1 := Ks2.start w k0 s0 (.slice a0 l0 c0)
  obtain ⟨W1, hW1⟩ : ∃ W1, (w.alloc (.cells #[.int .i64 k0.kind, .int .i64 k0.src, .int .i64 k0.frm, .int .i64 k0.dst, .int .i64 k0.too] 23)).alloc (.cells #[.int .i64 s0.frm, .int .i64 s0.too, .int .i64 s0.seq, .int .i64 s0.ack, .int .i64 s0.win, .int .i64 s0.flg, .slice a0 l0 c0] 26) = W1 := ⟨_, rfl⟩
  rw [hW1] at h1
  have HL := hidE (fun W (hb : Below w.heap.size w W) => hL.below hb)
  have HE := hidE (fun W (hb : Below w.heap.size w W) => hE.below hb)
  have HB := hidE (fun W (hB : Below w.heap.size w W) => hb.below (Nat.le_refl _) hB)
  have HSS := hidE hss
  have HBS := hidE hbs
  have HZS := hidE hzs
  have HN := hidE hN
  have HBB := hidE hB
  have HZZ := hidE hZ
  have c1 := hidE (fun W hB => refBegin_any k0 s0 (.slice a0 l0 c0) 1 5 W (HB.out W hB))
  have c2 := hidE (fun W hB => begin_any k0 s0 (.slice a0 l0 c0) 1 5 W (HB.out W hB) (HL.out W hB))
  have ev1 := errV_tk (begE k0 s0 1 5)
  obtain ⟨b, hbE⟩ : ∃ b, begF k0 s0 1 5 = b := ⟨_, rfl⟩
  rw [hbE] at c1 c2
  generalize begE k0 s0 1 5 = z1 at c1 c2 ev1
  generalize errV z1 = v1 at c2 ev1
  have EV1 := hidE ev1
  unfold keyV flV segV at *
  clear hQ hL hE hb hbE ev1 hss hbs hzs hN hB hZ
  go_enter Tryd.func4, Tryd.ntmps4
  go_upto_region 1 with fail
  try rw [hW1]
  clear hW1
  obtain ⟨k0', k1, k2, k3, k4⟩ := h1.ky.cells
  obtain ⟨s0', s1, s2, s3, s4, s5, s6⟩ := h1.sg.cells
  have hc := c1.out W1 h1.bel
  go_upto_region 2 with (go_at_call 6; go_must (refine hc.mono ?_; rintro e W2 ⟨rfl, b2⟩))
  have h2 := (h1.step b2).step ((Below.refl _ _).alloc (Nat.le_refl _) (.cells #[.int .i64 b.key.kind, .int .i64 b.key.src, .int .i64 b.key.frm, .int .i64 b.key.dst, .int .i64 b.key.too, .int .i64 b.st, .int .i64 b.unt, .int .i64 b.stp, .int .i64 b.h0, .int .i64 b.h1, .int .i64 b.w0, .int .i64 b.w1, .bool b.d0, .bool b.d1, .int .i64 b.num] 30))
  have p2 := FlAt.new W2 b
  have hlo := (h1.step b2).sg.lt
  obtain ⟨W3, hW3⟩ : ∃ X9, W2.alloc (.cells #[.int .i64 b.key.kind, .int .i64 b.key.src, .int .i64 b.key.frm, .int .i64 b.key.dst, .int .i64 b.key.too, .int .i64 b.st, .int .i64 b.unt, .int .i64 b.stp, .int .i64 b.h0, .int .i64 b.h1, .int .i64 b.w0, .int .i64 b.w1, .bool b.d0, .bool b.d1, .int .i64 b.num] 30) = X9 := ⟨_, rfl⟩
  obtain ⟨P, hP⟩ : ∃ X9, W2.heap.size = X9 := ⟨_, rfl⟩
  rw [hW3] at h2 p2 ⊢
  rw [hP] at p2 hlo ⊢
  clear hW3 hP hc b2 h1
  clear k0' k1 k2 k3 k4 s0' s1 s2 s3 s4 s5 s6
  obtain ⟨k0', k1, k2, k3, k4⟩ := h2.ky.cells
  obtain ⟨s0', s1, s2, s3, s4, s5, s6⟩ := h2.sg.cells
  have hc := c2.out W3 h2.bel
  go_upto_region 3 with (go_at_call 7; go_must (refine hc.mono ?_; rintro e W4 ⟨rfl, b4⟩))
  have h4 := (h2.step b4).step ((Below.refl _ _).alloc (Nat.le_refl _) (.cells #[.int .i64 b.key.kind, .int .i64 b.key.src, .int .i64 b.key.frm, .int .i64 b.key.dst, .int .i64 b.key.too, .int .i64 b.st, .int .i64 b.unt, .int .i64 b.stp, .int .i64 b.h0, .int .i64 b.h1, .int .i64 b.w0, .int .i64 b.w1, .bool b.d0, .bool b.d1, .int .i64 b.num] 30))
  have p4 := (p2.below p2.lt b4).alloc (.cells #[.int .i64 b.key.kind, .int .i64 b.key.src, .int .i64 b.key.frm, .int .i64 b.key.dst, .int .i64 b.key.too, .int .i64 b.st, .int .i64 b.unt, .int .i64 b.stp, .int .i64 b.h0, .int .i64 b.h1, .int .i64 b.w0, .int .i64 b.w1, .bool b.d0, .bool b.d1, .int .i64 b.num] 30)
  have q4 := FlAt.new W4 b
  have hlq : P < W4.heap.size := (p2.below p2.lt b4).lt
  obtain ⟨W5, hW5⟩ : ∃ X9, W4.alloc (.cells #[.int .i64 b.key.kind, .int .i64 b.key.src, .int .i64 b.key.frm, .int .i64 b.key.dst, .int .i64 b.key.too, .int .i64 b.st, .int .i64 b.unt, .int .i64 b.stp, .int .i64 b.h0, .int .i64 b.h1, .int .i64 b.w0, .int .i64 b.w1, .bool b.d0, .bool b.d1, .int .i64 b.num] 30) = X9 := ⟨_, rfl⟩
  obtain ⟨G, hG⟩ : ∃ X9, W4.heap.size = X9 := ⟨_, rfl⟩
  rw [hW5] at h4 p4 q4 ⊢
  rw [hG] at q4 hlq ⊢
  clear hW5 hG hc b4 h2 p2 c1 c2
  clear k0' k1 k2 k3 k4 s0' s1 s2 s3 s4 s5 s6
  have hc := error_val EV1.out z1 W5 (HE.out _ h4.bel)
  rw [show (z1 == z1) = true by simp] at hc
  go_upto_region 4 with (go_at_call 8; go_must (refine hc.mono ?_; rintro e W6 ⟨rfl, b6⟩))
  have T6 : TkS w P G b W6 := ⟨p4.below p4.lt b6, q4.below q4.lt b6, hlo, hlq, (h4.step b6).bel⟩
  clear hc b6 h4 p4 q4 hlo hlq EV1
  have hgd := Tryd.flGuard
  by_cases hz1 : z1 = 0
  case neg =>
    have i1 : (z1 != 0) = true := by simpa using hz1
    have heq := Tryd.flEql b
    obtain ⟨d0, d1, d2, d3, d4, d5, d6, d7, d8, d9, d10, d11, d12, d13, d14⟩ := T6.p.cells
    obtain ⟨e0, e1, e2, e3, e4, e5, e6, e7, e8, e9, e10, e11, e12, e13, e14⟩ := T6.q.cells
    have HF := hidE (HQ.out _ T6.bel)
    clear T6 HQ
    go_wp2_with fail
    first | exact HF.out | (simp; exact HF.out) | (simpa using HF.out)
  subst hz1
  have T6' := hidE T6
  clear T6
  go_upto_region 8 with fail
  go_loopw [16, 17] (fun t i wr => ∃ (k : Nat) (n : Int) (g : Fl), k ≤ N ∧ k ≤ 40 ∧ i = .int .i64 (k : Int) ∧ t = .int .i64 n ∧ Hid (5 ≤ n ∧ n ≤ 5 + 1000 * (k : Int)) ∧ Hid (TkS w P G g wr)) (fun _ i _ => ((N : Int) - intOf i).toNat)
  case atStart => exact ⟨0, 5, b, by omega, by omega, rfl, rfl, (by show (5 : Int) ≤ 5 ∧ (5 : Int) ≤ _; omega), T6'⟩
  case round =>
    clear T6'
    obtain ⟨k, n, g, hk, hk40, rfl, rfl, HNN, HT⟩ := hrel
    by_cases hkn : k < N
    case neg =>
      have j1 : ¬ (k : Int) < (N : Int) := by omega
      have HF := hidE (HQ.out _ HT.out.bel)
      clear HQ HT
      go_wp2_with fail
      first | exact HF.out | (simp; exact HF.out) | (simpa using HF.out)
    have j1 : (k : Int) < (N : Int) := by omega
    by_cases hk4 : k < 40
    case neg =>
      have j4 : ¬ (k : Int) < 40 := by omega
      have HF := hidE (HQ.out _ HT.out.bel)
      clear HQ HT
      go_wp2_with fail
      first | exact HF.out | (simp; exact HF.out) | (simpa using HF.out)
    have j4 : (k : Int) < 40 := by omega
    have j2 : (0 : Int) ≤ (k : Int) := by omega
    obtain ⟨rb, ro, hav, hcv1, hcv2, hrb, hsg⟩ := HSS.out k (by have := HN.out; omega)
    subst hav
    rw [HN.out] at hcv1
    obtain ⟨s, hs⟩ : ∃ s, (ss[k]'(by have := HN.out; omega)).1 = s := ⟨_, rfl⟩
    obtain ⟨bv, hbv⟩ : ∃ bv, (ss[k]'(by have := HN.out; omega)).2 = bv := ⟨_, rfl⟩
    rw [hs, hbv] at hsg
    have hb0 := (hsg w (Below.refl _ _)).2
    obtain ⟨a, c, hbe⟩ := len_body hb0
    subst hbe
    obtain ⟨l, hl⟩ : ∃ l, s.body.length = l := ⟨_, rfl⟩
    rw [hl] at hsg hb0
    have HSG := hidE hsg
    have HB0 := hidE hb0
    clear hsg hb0 hs hbv hl
    go_upto_region 11 with fail
    go_cut [69] (fun v ww => (∃ sb : Bool, v = .bool sb) ∧ ww = wr)
    case first =>
      by_cases hkb : k < B
      · have j3 : (k : Int) < (B : Int) := by omega
        obtain ⟨bb, bo, hab, hcb1, hcb2, hbc⟩ := HBS.out k (by have := HBB.out; omega)
        subst hab
        rw [HBB.out] at hcb1
        have hcell := hbc _ HT.out.bel
        generalize bs[k]'(by have := HBB.out; omega) = sb at hcell
        clear hbc
        go_wp2_with fail
        go_meet
        case rel => exact ⟨⟨_, rfl⟩, rfl⟩
      · have j3 : ¬ (k : Int) < (B : Int) := by omega
        go_wp2_with fail
        go_meet
        case rel => exact ⟨⟨_, rfl⟩, rfl⟩
    case rest =>
    obtain ⟨⟨sb, hd⟩, hw⟩ := hcut
    subst hd hw
    go_upto_if 69 with fail
    go_cut [18] (fun v ww => (∃ sd : Int, v = .int .i64 sd) ∧ ww = wc)
    case first =>
      cases sb
      all_goals
        go_wp2_with fail
        go_meet
        case rel => exact ⟨⟨_, rfl⟩, rfl⟩
    case rest =>
    obtain ⟨⟨sd, hd⟩, hw⟩ := hcut
    subst hd hw
    go_upto_region 13 with fail
    go_cut [87] (fun v ww => (∃ tb : Bool, v = .bool tb ∧ Hid (tb = true → ∃ z : Int, ∃ bb bo, az = some ⟨bb, bo, none⟩ ∧ Z ≤ cz ∧ cz ≤ 9223372036854775807 ∧ k < Z ∧ 0 ≤ z ∧ z < 1000 ∧ ∀ W, Below w.heap.size w W → W.cell? ⟨bb, bo + k, none⟩ = some (.int .i64 z))) ∧ ww = wc)
    case first =>
      by_cases hkz : k < Z
      · have j3 : (k : Int) < (Z : Int) := by omega
        obtain ⟨bb, bo, haz, hcz1, hcz2, hbc⟩ := HZS.out k (by have := HZZ.out; omega)
        rw [HZZ.out] at hcz1
        have hcell := hbc _ HT.out.bel
        obtain ⟨z, hzE⟩ : ∃ z, (zs[k]'(by have := HZZ.out; omega)) = z := ⟨_, rfl⟩
        rw [hzE] at hcell
        have HBC : Hid (∀ W, Below w.heap.size w W → W.cell? ⟨bb, bo + k, none⟩ = some (.int .i64 z)) := by rw [← hzE]; exact hbc
        have HAZ := hidE haz
        subst haz
        clear hbc hzE
        by_cases hz0 : 0 ≤ z
        · by_cases hzt : z < 1000
          · have hd := hidE (And.intro hz0 hzt)
            go_wp2_with fail
            go_meet
            case rel => exact ⟨⟨_, rfl, fun _ => ⟨z, bb, bo, rfl, hcz1, hcz2, hkz, hd.out.1, hd.out.2, HBC.out⟩⟩, rfl⟩
          · go_wp2_with fail
            go_meet
            case rel => exact ⟨⟨_, rfl, fun h => by cases h⟩, rfl⟩
        · go_wp2_with fail
          go_meet
          case rel => exact ⟨⟨_, rfl, fun h => by cases h⟩, rfl⟩
      · have j3 : ¬ (k : Int) < (Z : Int) := by omega
        go_wp2_with fail
        go_meet
        case rel => exact ⟨⟨_, rfl, fun h => by cases h⟩, rfl⟩
    case rest =>
    obtain ⟨⟨tb, hd, HTB⟩, hw⟩ := hcut
    subst hd hw
    go_upto_if 87 with fail
    go_cut [16] (fun v ww => (∃ n' : Int, v = .int .i64 n' ∧ Hid (5 ≤ n' ∧ n' ≤ 5 + 1000 * ((k : Int) + 1))) ∧ ww = wc)
    case first =>
      obtain ⟨n0, n1⟩ := HNN.out
      cases tb
      · have HH := hidE (show 5 ≤ n ∧ n ≤ 5 + 1000 * ((k : Int) + 1) by omega)
        clear n0 n1
        go_wp2_with fail
        go_meet
        case rel => exact ⟨⟨_, rfl, HH⟩, rfl⟩
      · obtain ⟨z, bb, bo, haz, hcz1, hcz2, hkz, hz0, hzt, hbc⟩ := HTB.out rfl
        subst haz
        have j3 : (k : Int) < (Z : Int) := by omega
        have hcell := hbc _ HT.out.bel
        have HH := hidE (show 5 ≤ n + z ∧ n + z ≤ 5 + 1000 * ((k : Int) + 1) by omega)
        have n2 : n ≤ 40005 := by omega
        clear hbc n1
        go_wp2_with fail
        go_meet
        case rel => exact ⟨⟨_, rfl, HH⟩, rfl⟩
    case rest =>
    obtain ⟨⟨n', hd, HNX⟩, hw⟩ := hcut
    subst hd hw
    clear HTB HNN
    have hT := HT.out
    obtain ⟨W0, hW0⟩ : ∃ W0, wc = W0 := ⟨_, rfl⟩
    rw [hW0] at hT ⊢
    clear hW0 HT
    have C3 := hidE (fun W hB => refStep_any g s (.slice a l c) sd n' W (Bytes.below HB0.out (Nat.le_refl _) hB))
    have C4 := hidE (fun W hB => step_any g s (.slice a l c) sd n' W (Bytes.below HB0.out (Nat.le_refl _) hB) (HL.out W hB))
    have ev2 := errV_tk (stpE g s sd n')
    obtain ⟨x, hxE⟩ : ∃ x, stpF g s sd n' = x := ⟨_, rfl⟩
    rw [hxE] at C3 C4
    generalize stpE g s sd n' = z2 at C3 C4 ev2
    generalize errV z2 = v2 at C4 ev2
    have EV2 := hidE ev2
    unfold flV segV at C3 C4
    clear hxE ev2
    go_upto_region 15 with fail
    go_cut [19, 20] (fun p e wr => e = .int .i64 z2 ∧ ∃ X, p = .pointer (some ⟨X, 0, none⟩) ∧ Hid (TkX w P G g x X wr))
    case first =>
      refine talk15 w W0 P G rb ro N cv k g x s a l c sd n' z2 _ _ _ (by kernel_rfl) hT hkn hcv1 hcv2 HSG C3 _ _ _ _ _ _ _ _ _ _ _ _ _ _ _ _ _ _ _ _ _ _ _ _ _ _ _ _ _ _ _ _ _ _ _ _ _ _ _ _ _ _ _ _ _ _ _ _ _ _ _ _ _ _ _ _ _ _ _ _ _ _ _ _ _ _ _ _ _ _ _ _ _ _ _ _ _ _ _ _ _ _ _ _ _ _ _ _ _ _ _ _ _ _ _ _ _ _ _ _ _ _ _ _ _ _ _ _ _ _ _ _ _ _ _ _ _ _ _ _ _ _ _ _ _ ?_
      intro X9 W9 u94' u95' u96' u97' u98' u99' u100' u101' u102' u103' u104' h9
      have H9 := hidE h9
      clear h9
      conv =>
        arg 1
        zeta
      go_step
      go_meet
      case rel => exact ⟨rfl, X9, rfl, H9⟩
    case rest =>
    obtain ⟨rfl, X, rfl, HX⟩ := hcut
    have hX := HX.out
    obtain ⟨W1, hW1⟩ : ∃ W1, wc = W1 := ⟨_, rfl⟩
    rw [hW1] at hX ⊢
    clear hW1 HX hT C3
    go_upto_region 16 with fail
    go_cut [21, 22] (fun p e wr => e = v2 ∧ ∃ Y, p = .pointer (some ⟨Y, 0, none⟩) ∧ Hid (TkY w P G g x X Y wr))
    case first =>
      refine talk16 w W1 P G X rb ro N cv k g x s a l c sd n' z2 v2 _ _ _ (by kernel_rfl) hX hkn hcv1 hcv2 HSG C4 _ _ _ _ _ _ _ _ _ _ _ _ _ _ _ _ _ _ _ _ _ _ _ _ _ _ _ _ _ _ _ _ _ _ _ _ _ _ _ _ _ _ _ _ _ _ _ _ _ _ _ _ _ _ _ _ _ _ _ _ _ _ _ _ _ _ _ _ _ _ _ _ _ _ _ _ _ _ _ _ _ _ _ _ _ _ _ _ _ _ _ _ _ _ _ _ _ _ _ _ _ _ _ _ _ _ _ _ _ _ _ _ _ _ _ _ _ _ _ _ _ _ _ _ _ ?_
      intro X9 W9 u105' u106' u107' u108' u109' u110' u111' u112' u113' u114' u115' h9
      have H9 := hidE h9
      clear h9
      conv =>
        arg 1
        zeta
      go_step
      go_meet
      case rel => exact ⟨rfl, X9, rfl, H9⟩
    case rest =>
    obtain ⟨rfl, Y, rfl, HY⟩ := hcut
    have hY := HY.out
    obtain ⟨W2, hW2⟩ : ∃ W2, wc = W2 := ⟨_, rfl⟩
    rw [hW2] at hY ⊢
    clear hW2 HY hX C4
    go_step
    refine talk17 w W2 P G X Y g x z2 _ _ _ (by kernel_rfl) hY EV2 HE _ _ _ _ _ _ _ _ _ _ _ _ _ _ _ _ _ _ _ _ _ _ _ _ _ _ _ _ _ _ _ _ _ _ _ _ _ _ _ _ _ _ _ _ _ _ _ _ _ _ _ _ _ _ _ _ _ _ _ _ _ _ _ _ _ _ _ _ _ _ _ _ _ _ _ _ _ _ _ _ _ _ _ _ _ _ _ _ _ _ _ _ _ _ _ _ _ _ _ _ _ _ _ _ _ _ _ _ _ _ _ _ _ _ _ _ _ _ _ _ _ _ _ _ ?_
    intro g' W9 w15 w116 w117 w118 w119 w120 w121 w122 w123 w124 w125 w126 w127 w128 w129 h9
    conv =>
      arg 2
      zeta
    have HG := hidE h9
    have HNY : Hid (5 ≤ n' ∧ n' ≤ 5 + 1000 * ((k + 1 : Nat) : Int)) := by have := HNX.out; show 5 ≤ n' ∧ n' ≤ 5 + 1000 * ((k + 1 : Nat) : Int); omega
    clear h9 hY HNX HE HL HB HSS HBS HZS HSG HB0
    go_wp2_with fail
    go_roundw
    case rel => exact ⟨k + 1, n', g', by omega, by omega, by go_num, rfl, HNY, HG⟩
    case measure => simp [intOf]; omega
theorem talks_walk (k : Ky) (s : Sg) (bv : Value) (lv : Value) (ss : List (Sg × Value)) (sv : Value) (bs : List Bool) (tv : Value) (zs : List Int) (w : World) (hb : Bytes w bv s.body) (hl : Sgs w lv ss) (hs : Bools w sv bs) (hz : Nums w tv zs) {p0 : Prop} (_ : p0) (hE : ErrLaid w) (hL : Lives w) :
    Calls Tryd.prog 4 #[keyV k, segV s bv, lv, sv, tv] w fun e w' => e = .returned (.bool true) ∧ Below w.heap.size w w' := by
  obtain ⟨a, c, rfl⟩ := len_body hb
  obtain ⟨av, cv, rfl, h1⟩ := sgs_at hl
  obtain ⟨ab, cb, rfl, h2⟩ := bools_at hs
  obtain ⟨az, cz, rfl, h3⟩ := times_at hz
  exact talks_any k s a _ c av _ cv ss ab _ cb bs az _ cz zs w hb rfl rfl rfl h1 h2 h3 hE hL
end Go.Proofs.YtdhjfjnjdkmhjaaDoor
