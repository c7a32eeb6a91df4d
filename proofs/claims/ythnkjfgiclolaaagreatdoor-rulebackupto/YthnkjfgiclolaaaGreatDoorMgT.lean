/- Rules as text, the plain facts: what may be written ('Writ'); how long a line is; what is read loosely of a line ('looseR'): of a line that was written just the rule. -/
import Derived.Test.YthnkjfgiclolaaaGreatDoorMgJ
import Derived.Test.YthnkjfgiclolaaaGreatDoorRuleChk2
import Derived.Test.YthnkjfgiclolaaaGreatDoorMgW
import Derived.Lib.Strings
import Derived.Test.YthnkjfgiclolaaaGreatDoorRuleRd0
import Derived.Test.YthnkjfgiclolaaaGreatDoorMgH
import Derived.Deep.RegionHeld3
import Derived.Deep.DeepCutAuto
import Derived.Deep.DeepMust
namespace Go.Proofs.YthnkjfgiclolaaaGreatDoor
set_option linter.unusedVariables false

structure Writ (r : Rl) : Prop where
  w0 : 0 ≤ r.way
  w2 : r.way ≤ 2
  k0 : 0 ≤ r.kind
  k3 : r.kind ≤ 3
  src : prefE r.sa r.sl = 0
  dst : prefE r.da r.dl = 0
  fr : Nrm r.fr
  frl : r.fr.length ≤ 200
  tl : Nrm r.tl
  tll : r.tl.length ≤ 200
theorem setP_nrm {l : List Sp} (h : Nrm l) : setP (inB l) = l := nrm_unique _ _ (setP_is _).1 h (fun n => setP_in h.1 n)
theorem Writ.s1 {r : Rl} (h : Writ r) : spE r.fr = 0 := spE_ok h.frl h.fr.1
theorem Writ.s2 {r : Rl} (h : Writ r) : spE r.tl = 0 := spE_ok h.tll h.tl.1
theorem writ_of {r : Rl} (h : ruE r = 0) : Writ r := by
  unfold ruE at h
  split at h
  · cases h
  rename_i h1
  split at h
  · rename_i h2; exact absurd h h2
  rename_i h2
  split at h
  · cases h
  split at h
  · rename_i h4; exact absurd h h4
  rename_i h4
  split at h
  · cases h
  rename_i h5
  have h2' : twoE (prefE r.sa r.sl) (prefE r.da r.dl) = 0 := Classical.byContradiction h2
  have h4' : twoE (spE r.fr) (spE r.tl) = 0 := Classical.byContradiction h4
  rw [twoE_zero] at h2' h4'
  have hw : wayE r = false := by simpa using h1
  unfold wayE at hw
  simp only [Bool.or_eq_false_iff, decide_eq_false_iff_not] at hw
  have t1 : tidyB r.fr = true := by
    rcases ht : tidyB r.fr with _ | _
    · exact absurd (.inl (by unfold badP; rw [ht]; simp)) h5
    · rfl
  have t2 : tidyB r.tl = true := by
    rcases ht : tidyB r.tl with _ | _
    · exact absurd (.inr (.inl (by unfold badP; rw [ht]; simp))) h5
    · rfl
  have o1 := of_spE h4'.1
  have o2 := of_spE h4'.2
  exact ⟨by omega, by omega, by omega, by omega, h2'.1, h2'.2, (tidy_nrm o1.2).1 t1, o1.1, (tidy_nrm o2.2).1 t2, o2.1⟩
theorem printL_nrm {l : List Sp} (h : Nrm l) : printL l = textL l := by unfold printL; rw [setP_nrm h]
theorem textL_len {l : List Sp} (h : OkS l) (hl : l.length ≤ 200) : (textL l).length ≤ 40000200 := by
  unfold textL
  split
  · simp
  · have := join_len (l.map wordL) 200000 (fun x hx => by
      obtain ⟨s, hs, rfl⟩ := List.mem_map.1 hx
      have := h s hs
      exact wordL_len this.1 this.2.1 this.2.2)
    rw [List.length_map] at this
    have h2 : l.length * (200000 + 1) ≤ 200 * (200000 + 1) := Nat.mul_le_mul_right _ hl
    omega
theorem showPref_len {a l : Int} (h : prefE a l = 0) : (showPrefL a l).length ≤ 3000 := by
  obtain ⟨_, ⟨h2, h3⟩, _⟩ := prefE_zero h
  unfold showPrefL
  split
  · simp
  · have := showL_short a
    have h4 := digL_len l.toNat
    simp only [List.length_append, List.length_cons, List.length_nil]
    omega
theorem portsL_len {l : List Sp} (h : Nrm l) (hl : l.length ≤ 200) : (portsL l).length ≤ 40000300 := by
  unfold portsL
  split
  · simp
  · rw [printL_nrm h, List.length_append]
    have := textL_len h.1 hl
    have : portL.length = 6 := rfl
    omega
theorem lineL_len {r : Rl} (h : Writ r) : (lineL r).length ≤ 100000000 := by
  have e1 : (headL r).length ≤ 5 := by unfold headL; split <;> simp
  have e2 : (quickL r).length ≤ 6 := by unfold quickL; split <;> simp
  have e3 : (keepL r).length ≤ 5 := by unfold keepL; split <;> simp
  have e4 : (wayL r.way).length ≤ 4 := by unfold wayL; split <;> (try split) <;> simp
  have e5 : (kindL r.kind).length ≤ 12 := by unfold kindL; split <;> (try split) <;> (try split) <;> simp
  have e6 := showPref_len h.src
  have e7 := showPref_len h.dst
  have e8 := portsL_len h.fr h.frl
  have e9 := portsL_len h.tl h.tll
  have f1 : fromL.length = 6 := rfl
  have f2 : toL.length = 4 := rfl
  unfold lineL bothL sideL
  simp only [List.length_append]
  omega
/-- The rules' lines. -/
def linesL (rs : List Rl) : List UInt8 := rs.flatMap fun r => lineL r ++ [10]
theorem linesL_cons (r : Rl) (rs : List Rl) : linesL (r :: rs) = lineL r ++ [10] ++ linesL rs := by simp [linesL]
theorem linesL_append (a b : List Rl) : linesL (a ++ b) = linesL a ++ linesL b := by simp [linesL]
theorem linesL_len : ∀ (rs : List Rl), (∀ r ∈ rs, Writ r) → (linesL rs).length ≤ rs.length * 100000001
  | [], _ => by simp [linesL]
  | r :: rs, h => by
      have ih := linesL_len rs (fun x hx => h x (List.mem_cons_of_mem _ hx))
      have := lineL_len (h r List.mem_cons_self)
      rw [linesL_cons]
      simp only [List.length_append, List.length_cons, List.length_nil]
      omega
end Go.Proofs.YthnkjfgiclolaaaGreatDoor

namespace Go.Proofs.YthnkjfgiclolaaaGreatDoor
open Go.RowKit
set_option linter.unusedVariables false
set_option maxRecDepth 10000

def cutF (g : Nat) : Value := .func (.func 56) #[] #[.pointer (some ⟨g, 0, none⟩)]
def nxtF (g : Nat) : Value := .func (.func 58) #[] #[.pointer (some ⟨g, 0, none⟩)]
def nilR : Rl := { pass := false, quick := false, keep := false, way := 0, kind := 0, sa := 0, sl := 0, da := 0, dl := 0, fr := [], tl := [] }
structure RdSt (w0 W : World) (S : Nat) (r : Rl) (fv tv : Value) (l : List UInt8) : Prop where
  rs : RlAt W S nilR (.slice none 0 0) (.slice none 0 0)
  rl : RlAt W (S + 1) r fv tv
  st : StrAt W (S + 2) l
  cu : W.heap[S + 3]? = some (.cells #[cutF (S + 2)] 97 (0, 0))
  nx : W.heap[S + 4]? = some (.cells #[nxtF (S + 2)] 57 (0, 0))
  pf : OwnSp W (S + 5) fv r.fr
  pt : OwnSp W (S + 5) tv r.tl
  bel : Below S w0 W
  sz : S + 5 ≤ W.heap.size
theorem RdSt.step {w0 W W' : World} {S : Nat} {r : Rl} {fv tv : Value} {l : List UInt8} (h : RdSt w0 W S r fv tv l) (hb : Below W.heap.size W W') : RdSt w0 W' S r fv tv l :=
  ⟨h.rs.below h.rs.lt hb, h.rl.below h.rl.lt hb, h.st.keep (hb.block _ h.st.lt), (hb.block _ (by have := h.sz; omega)).trans h.cu, (hb.block _ (by have := h.sz; omega)).trans h.nx, h.pf.below hb, h.pt.below hb, h.bel.trans (hb.mono (by have := h.sz; omega)), Nat.le_trans h.sz hb.size⟩
theorem OwnSp.only {W W' : World} {b g : Nat} {v : Value} {ps : List Sp} (h : OwnSp W b v ps) (ho : Only g W W') (hg : g < b) : OwnSp W' b v ps := h.blk (fun k hk => ho.block k (by have := (h.block k hk).1; omega))
theorem RdSt.rest {w0 W W' : World} {S : Nat} {r : Rl} {fv tv : Value} {l m : List UInt8} (h : RdSt w0 W S r fv tv l) (hs : StrAt W' (S + 2) m) (ho : Only (S + 2) W W') : RdSt w0 W' S r fv tv m :=
  ⟨h.rs.keep (ho.block _ (by omega)), h.rl.keep (ho.block _ (by omega)), hs, (ho.block _ (by omega)).trans h.cu, (ho.block _ (by omega)).trans h.nx, h.pf.only ho (by omega), h.pt.only ho (by omega), ho.below (by omega) h.bel, by rw [ho.size]; exact h.sz⟩
theorem RdSt.rule {w0 W W' : World} {S : Nat} {r r' : Rl} {fv tv fv' tv' : Value} {l : List UInt8} (h : RdSt w0 W S r fv tv l) (hr : RlAt W' (S + 1) r' fv' tv') (ho : Only (S + 1) W W') (hf : OwnSp W (S + 5) fv' r'.fr) (ht : OwnSp W (S + 5) tv' r'.tl) : RdSt w0 W' S r' fv' tv' l :=
  ⟨h.rs.keep (ho.block _ (by omega)), hr, h.st.keep (ho.block _ (by omega)), (ho.block _ (by omega)).trans h.cu, (ho.block _ (by omega)).trans h.nx, hf.only ho (by omega), ht.only ho (by omega), ho.below (by omega) h.bel, by rw [ho.size]; exact h.sz⟩
theorem RdSt.drew {w0 W : World} {S : Nat} {r : Rl} {fv tv : Value} {l : List UInt8} (h : RdSt w0 W S r fv tv l) : RdSt w0 W.drew S r fv tv l := h.step ((Below.refl _ _).drew)
theorem RdSt.cuc {w0 W : World} {S : Nat} {r : Rl} {fv tv : Value} {l : List UInt8} (h : RdSt w0 W S r fv tv l) : W.cell? ⟨S + 3, 0, none⟩ = some (.func (.func 56) #[] #[.pointer (some ⟨S + 2, 0, none⟩)]) := by rw [cell_of_row W _ _ _ _ _ h.cu]; rfl
theorem RdSt.nxc {w0 W : World} {S : Nat} {r : Rl} {fv tv : Value} {l : List UInt8} (h : RdSt w0 W S r fv tv l) : W.cell? ⟨S + 4, 0, none⟩ = some (.func (.func 58) #[] #[.pointer (some ⟨S + 2, 0, none⟩)]) := by rw [cell_of_row W _ _ _ _ _ h.nx]; rfl
/-- What is read of a side. -/
structure SO where
  ok : Bool
  a : Int
  n : Int
  ps : List Sp
  rest : List UInt8
def sideO (Wd l : List UInt8) : SO :=
  if (readP (splitC 32 (Lib.trimPrefix l Wd)).1).2.2 = true then
    if Lib.hasPrefix ((Lib.trimPrefix l Wd).drop (splitC 32 (Lib.trimPrefix l Wd)).1.length) portL = true then
      ⟨(readR (splitC 32 (Lib.trimPrefix ((Lib.trimPrefix l Wd).drop (splitC 32 (Lib.trimPrefix l Wd)).1.length) portL)).1).isSome, (readP (splitC 32 (Lib.trimPrefix l Wd)).1).1, (readP (splitC 32 (Lib.trimPrefix l Wd)).1).2.1, (readR (splitC 32 (Lib.trimPrefix ((Lib.trimPrefix l Wd).drop (splitC 32 (Lib.trimPrefix l Wd)).1.length) portL)).1).getD [], (Lib.trimPrefix ((Lib.trimPrefix l Wd).drop (splitC 32 (Lib.trimPrefix l Wd)).1.length) portL).drop (splitC 32 (Lib.trimPrefix ((Lib.trimPrefix l Wd).drop (splitC 32 (Lib.trimPrefix l Wd)).1.length) portL)).1.length⟩
    else ⟨true, (readP (splitC 32 (Lib.trimPrefix l Wd)).1).1, (readP (splitC 32 (Lib.trimPrefix l Wd)).1).2.1, [], (Lib.trimPrefix l Wd).drop (splitC 32 (Lib.trimPrefix l Wd)).1.length⟩
  else ⟨false, 0, 0, [], (Lib.trimPrefix l Wd).drop (splitC 32 (Lib.trimPrefix l Wd)).1.length⟩
theorem trimP_len (l p : List UInt8) : (Lib.trimPrefix l p).length ≤ l.length := by unfold Lib.trimPrefix; split <;> simp
theorem sideO_len (Wd l : List UInt8) : (sideO Wd l).rest.length ≤ l.length := by
  have h1 := trimP_len l Wd
  unfold sideO
  split
  · split
    · simp only [List.length_drop]
      have := trimP_len ((Lib.trimPrefix l Wd).drop (splitC 32 (Lib.trimPrefix l Wd)).1.length) portL
      rw [List.length_drop] at this
      omega
    · simp only [List.length_drop]; omega
  · simp only [List.length_drop]; omega
theorem readP_false {l : List UInt8} (h : (readP l).2.2 = false) : readP l = (0, 0, false) := by
  unfold readP at h ⊢
  split at h
  · cases h
  split at h
  · rename_i h0 h1; rw [if_neg h0, if_pos h1]
  split at h
  · cases h
  split at h
  · cases h
  · rename_i h0 h1 h2 h3; rw [if_neg h0, if_neg h1, if_neg h2, if_neg h3]
theorem RlAt.freeA {w : World} {b : Nat} {r : Rl} {fv tv : Value} (h : RlAt w b r fv tv) (j : Nat) : w.frozen? ⟨b, j, none⟩ = false := frozen_of_row w b j _ _ h
theorem RlAt.storeP {w : World} {b : Nat} {r : Rl} {fv tv : Value} (h : RlAt w b r fv tv) (a n : Int) : ∃ w', (w.setCell ⟨b, 5, none⟩ (.int .i64 a)).setCell ⟨b, 6, none⟩ (.int .i64 n) = w' ∧ RlAt w' b { r with sa := a, sl := n } fv tv ∧ Only b w w' := by
  refine ⟨_, rfl, ?_, ((Only.refl _ _).setCell _ _).setCell _ _⟩
  have e := heap_setCell_same _ b 5 _ _ (.int .i64 a) h
  exact heap_setCell_same _ b 6 _ _ (.int .i64 n) e
theorem RlAt.storeD {w : World} {b : Nat} {r : Rl} {fv tv : Value} (h : RlAt w b r fv tv) (a n : Int) : ∃ w', (w.setCell ⟨b, 7, none⟩ (.int .i64 a)).setCell ⟨b, 8, none⟩ (.int .i64 n) = w' ∧ RlAt w' b { r with da := a, dl := n } fv tv ∧ Only b w w' := by
  refine ⟨_, rfl, ?_, ((Only.refl _ _).setCell _ _).setCell _ _⟩
  have e := heap_setCell_same _ b 7 _ _ (.int .i64 a) h
  exact heap_setCell_same _ b 8 _ _ (.int .i64 n) e
theorem RlAt.storeF {w : World} {b : Nat} {r : Rl} {fv tv : Value} (h : RlAt w b r fv tv) (v : Value) (ps : List Sp) : ∃ w', w.setCell ⟨b, 9, none⟩ v = w' ∧ RlAt w' b { r with fr := ps } v tv ∧ Only b w w' :=
  ⟨_, rfl, heap_setCell_same _ b 9 _ _ v h, (Only.refl _ _).setCell _ _⟩
theorem RlAt.storeT {w : World} {b : Nat} {r : Rl} {fv tv : Value} (h : RlAt w b r fv tv) (v : Value) (ps : List Sp) : ∃ w', w.setCell ⟨b, 10, none⟩ v = w' ∧ RlAt w' b { r with tl := ps } fv v ∧ Only b w w' :=
  ⟨_, rfl, heap_setCell_same _ b 10 _ _ v h, (Only.refl _ _).setCell _ _⟩
theorem RlAt.storeB {w : World} {b : Nat} {r : Rl} {fv tv : Value} (h : RlAt w b r fv tv) (j : Nat) (t : Bool) (r' : Rl) (he : (#[.bool r.pass, .bool r.quick, .bool r.keep, .int .i64 r.way, .int .i64 r.kind, .int .i64 r.sa, .int .i64 r.sl, .int .i64 r.da, .int .i64 r.dl, fv, tv] : Array Value).setIfInBounds j (.bool t) = #[.bool r'.pass, .bool r'.quick, .bool r'.keep, .int .i64 r'.way, .int .i64 r'.kind, .int .i64 r'.sa, .int .i64 r'.sl, .int .i64 r'.da, .int .i64 r'.dl, fv, tv]) : ∃ w', w.setCell ⟨b, j, none⟩ (.bool t) = w' ∧ RlAt w' b r' fv tv ∧ Only b w w' := by
  refine ⟨_, rfl, ?_, (Only.refl _ _).setCell _ _⟩
  have e := heap_setCell_same _ b j _ _ (.bool t) h
  rw [he] at e
  exact e
theorem RlAt.storeI {w : World} {b : Nat} {r : Rl} {fv tv : Value} (h : RlAt w b r fv tv) (j : Nat) (t : Int) (r' : Rl) (he : (#[.bool r.pass, .bool r.quick, .bool r.keep, .int .i64 r.way, .int .i64 r.kind, .int .i64 r.sa, .int .i64 r.sl, .int .i64 r.da, .int .i64 r.dl, fv, tv] : Array Value).setIfInBounds j (.int .i64 t) = #[.bool r'.pass, .bool r'.quick, .bool r'.keep, .int .i64 r'.way, .int .i64 r'.kind, .int .i64 r'.sa, .int .i64 r'.sl, .int .i64 r'.da, .int .i64 r'.dl, fv, tv]) : ∃ w', w.setCell ⟨b, j, none⟩ (.int .i64 t) = w' ∧ RlAt w' b r' fv tv ∧ Only b w w' := by
  refine ⟨_, rfl, ?_, (Only.refl _ _).setCell _ _⟩
  have e := heap_setCell_same _ b j _ _ (.int .i64 t) h
  rw [he] at e
  exact e
end Go.Proofs.YthnkjfgiclolaaaGreatDoor
