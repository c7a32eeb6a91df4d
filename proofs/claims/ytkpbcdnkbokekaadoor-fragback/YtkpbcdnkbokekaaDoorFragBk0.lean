/- What the walk of the law FragBack leans on: portsame.Packet of any two packets answers; a packet of twenty noughts in pieces; a row of marks; a pool that has some of a packet's pieces. -/
import Derived.Test.YtkpbcdnkbokekaaDoorPoolNew
import Derived.Test.YtkpbcdnkbokekaaDoorWireSame
namespace Go.Proofs.YtkpbcdnkbokekaaDoor
open Go.RowKit Go.Maps
set_option linter.unusedVariables false

def AnyB (e : Ending) : Prop := ∃ b, e = .returned (.bool b)
theorem AnyB.mk (b : Bool) : AnyB (.returned (.bool b)) := ⟨b, rfl⟩
set_option maxHeartbeats 8000000 in
theorem anyPk_raw (k t i s d o k' t' i' s' d' o' : Int) (m m' : Bool) (a a' : Option Addr) (l c l' c' : Nat) (zs zs' : List Int) (w : World) (h : Bytes w (.slice a l c) zs) (h' : Bytes w (.slice a' l' c') zs') :
    Calls Tryd.prog 11 #[.agg #[.int .i64 k, .int .i64 t, .int .i64 i, .int .i64 s, .int .i64 d, .int .i64 o, .bool m, .slice a l c], .agg #[.int .i64 k', .int .i64 t', .int .i64 i', .int .i64 s', .int .i64 d', .int .i64 o', .bool m', .slice a' l' c']] w fun e w' =>
      AnyB e ∧ Below w.heap.size w w' := by
  have b1 : Below w.heap.size w ((w.alloc (.cells #[.int .i64 k, .int .i64 t, .int .i64 i, .int .i64 s, .int .i64 d, .int .i64 o, .bool m, .slice a l c] 40)).alloc (.cells #[.int .i64 k', .int .i64 t', .int .i64 i', .int .i64 s', .int .i64 d', .int .i64 o', .bool m', .slice a' l' c'] 40)) :=
    ((Below.refl _ _).alloc (Nat.le_refl _) _).alloc (by simp) _
  have q := conv_bytes (h.below (Nat.le_refl _) b1)
  have q' := conv_bytes (h'.below (Nat.le_refl _) b1)
  generalize strOfNums zs = S at q
  generalize strOfNums zs' = S' at q'
  have B1 : Hid _ := b1
  clear h h' b1
  by_cases e0 : ¬ k = k'
  · have f0 : (k == k') = false := by simpa using e0
    clear e0
    go_enter Tryd.func11, Tryd.ntmps11
    go_wp2
    go_ret
    exact ⟨AnyB.mk _, B1.out⟩
  have e0 := Classical.not_not.1 e0
  subst e0
  by_cases e1 : ¬ t = t'
  · have f0 : (t == t') = false := by simpa using e1
    clear e1
    go_enter Tryd.func11, Tryd.ntmps11
    go_wp2
    go_ret
    exact ⟨AnyB.mk _, B1.out⟩
  have e1 := Classical.not_not.1 e1
  subst e1
  by_cases e2 : ¬ i = i'
  · have f0 : (i == i') = false := by simpa using e2
    clear e2
    go_enter Tryd.func11, Tryd.ntmps11
    go_wp2
    go_ret
    exact ⟨AnyB.mk _, B1.out⟩
  have e2 := Classical.not_not.1 e2
  subst e2
  by_cases e3 : ¬ s = s'
  · have f0 : (s == s') = false := by simpa using e3
    clear e3
    go_enter Tryd.func11, Tryd.ntmps11
    go_wp2
    go_ret
    exact ⟨AnyB.mk _, B1.out⟩
  have e3 := Classical.not_not.1 e3
  subst e3
  by_cases e4 : ¬ d = d'
  · have f0 : (d == d') = false := by simpa using e4
    clear e4
    go_enter Tryd.func11, Tryd.ntmps11
    go_wp2
    go_ret
    exact ⟨AnyB.mk _, B1.out⟩
  have e4 := Classical.not_not.1 e4
  subst e4
  by_cases e5 : ¬ o = o'
  · have f0 : (o == o') = false := by simpa using e5
    clear e5
    go_enter Tryd.func11, Tryd.ntmps11
    go_wp2
    go_ret
    exact ⟨AnyB.mk _, B1.out⟩
  have e5 := Classical.not_not.1 e5
  subst e5
  by_cases e6 : ¬ m = m'
  · have f0 : (m == m') = false := by simpa using e6
    clear e6
    go_enter Tryd.func11, Tryd.ntmps11
    go_wp2
    go_ret
    exact ⟨AnyB.mk _, B1.out⟩
  have e6 := Classical.not_not.1 e6
  subst e6
  go_enter Tryd.func11, Tryd.ntmps11
  go_wp2
  go_ret
  exact ⟨AnyB.mk _, B1.out⟩
theorem anyPk (p q : Pk) (bv bv' : Value) (w : World) (h : Bytes w bv p.body) (h' : Bytes w bv' q.body) :
    Calls Tryd.prog 11 #[pkV p bv, pkV q bv'] w fun e w' => AnyB e ∧ Below w.heap.size w w' := by
  obtain ⟨a, c, rfl⟩ := len_body h
  obtain ⟨a', c', rfl⟩ := len_body h'
  exact anyPk_raw _ _ _ _ _ _ _ _ _ _ _ _ _ _ _ _ _ _ _ _ _ _ w h h'
/-! ### twenty noughts -/
def z20 : Pk := { zeroK with body := List.replicate 20 0 }
theorem z20_cut : splitE z20 8 = 0 ∧ (splitL z20 8).map (fun x => (x.pos, x.more)) = [(0, true), (1, true), (2, false)] := by decide
theorem make20 (w : World) :
    ∃ w', (Instr.makeSlice 38 (.int .i64 20) (.int .i64 20)).run Tryd.prog w = .ok (.slice (some ⟨w.heap.size, 0, none⟩) 20 20) w' ∧ Bytes w' (.slice (some ⟨w.heap.size, 0, none⟩) 20 20) z20.body ∧ Below w.heap.size w w' := by
  obtain ⟨i0, hi, hz0, hz1, hz2⟩ := info_parts Tryd.infoU8
  have hr := run_make (P := Tryd.prog) w 38 5 i0 (.int .u8 0) Tryd.underlying38 hi hz0 .i64 .i64 20 20 (by omega) (by omega) (by rw [hz2]; omega) (by omega)
  rw [show (20 : Int).toNat = 20 from rfl, hz1, Nat.mul_one, madeB] at hr
  have hR := RowB.new w (List.replicate 20 0) (fun x hx => by rw [List.eq_of_mem_replicate hx]; omega)
  refine ⟨_, hr, ?_, (Below.refl _ _).alloc (Nat.le_refl _) _⟩
  exact hR.bytes 0 20 20 (by simp) (Nat.le_refl _) (by unfold maxLen; omega) (by omega)
/-! ### marks -/
def markL (n : Nat) (js : List Nat) : List Value := (List.range n).map fun i => Value.bool (decide (i ∈ js))
def Marks (w : World) (g n : Nat) (js : List Nat) : Prop := w.heap[g]? = some (.cells (markL n js).toArray 4 (0, 0))
theorem Marks.cell {w : World} {g n : Nat} {js : List Nat} (h : Marks w g n js) {i : Nat} (hi : i < n) : w.cell? ⟨g, i, none⟩ = some (.bool (decide (i ∈ js))) := by
  rw [cell_of_row w g i _ _ _ h]; simp [markL, hi]
theorem Marks.free {w : World} {g n : Nat} {js : List Nat} (h : Marks w g n js) (i : Nat) : w.frozen? ⟨g, i, none⟩ = false := frozen_of_row w g i _ _ h
theorem Marks.store {w : World} {g n : Nat} {js : List Nat} (h : Marks w g n js) (i : Nat) : Marks (w.setCell ⟨g, i, none⟩ (.bool true)) g n (js ++ [i]) := by
  unfold Marks at h ⊢
  rw [heap_setCell_same w g i _ _ _ h]
  have : (markL n js).set i (.bool true) = markL n (js ++ [i]) := by
    apply List.ext_getElem
    · simp [markL]
    · intro j h1 h2
      rw [List.getElem_set]
      by_cases hj : i = j
      · subst hj; simp [markL]
      · rw [if_neg hj]
        have : ¬ j = i := fun e => hj e.symm
        simp [markL, this]
  rw [← this]
  simp
theorem Marks.keep {w w' : World} {g n : Nat} {js : List Nat} (h : Marks w g n js) (hb : w'.heap[g]? = w.heap[g]?) : Marks w' g n js := hb.trans h
theorem Tryd.infoBool : (Tryd.prog.info? 4).map (fun i => (i.zero, i.size, i.bytes)) = some (some (.bool false), 1, 1) := by kernel_rfl
theorem make_marks (w : World) (n : Nat) (h : n ≤ 100000) :
    ∃ w', (Instr.makeSlice 50 (.int .i64 (n : Int)) (.int .i64 (n : Int))).run Tryd.prog w = .ok (.slice (some ⟨w.heap.size, 0, none⟩) n n) w' ∧ Marks w' w.heap.size n [] ∧ Below w.heap.size w w' ∧ w'.heap.size = w.heap.size + 1 := by
  obtain ⟨i0, hi, hz0, hz1, hz2⟩ := info_parts Tryd.infoBool
  have hr := run_make (P := Tryd.prog) w 50 4 i0 (.bool false) Tryd.underlying50 hi hz0 .i64 .i64 (n : Int) (n : Int) (by omega) (by omega) (by rw [hz2]; omega) (by omega)
  rw [Int.toNat_natCast, hz1, Nat.mul_one] at hr
  have hm : madeCells (Value.bool false).cells n = (markL n []).toArray := by
    apply Array.ext
    · simp [madeCells, markL]
    · intro i h1 h2
      simp [madeCells, markL, Value.cells, Nat.mod_one]
  rw [hm] at hr
  exact ⟨_, hr, heap_alloc_new w _, (Below.refl _ _).alloc (Nat.le_refl _) _, by simp⟩
/-! ### a pool that has some pieces -/
def stJ (p : Pk) (size : Int) (js : List Nat) : Po :=
  if js.length = (splitL p size).length then poB 5 5 false p [] true else poB (if js = [] then 0 else 5) (if js = [] then 0 else 5) false p (js.map (piece p size)) (decide (js = []))
theorem stJ_nil {p : Pk} {size : Int} (h2 : 2 ≤ (splitL p size).length) : stJ p size [] = { life := 60, now := 0, l := [] } := by
  unfold stJ; rw [if_neg (by simp; omega)]; rfl
theorem stJ_add {p : Pk} {size : Int} (h : splitE p size = 0) (h0 : p.pos = 0) (hm : p.more = false) (h2 : 2 ≤ (splitL p size).length) {js : List Nat} (hj : ∀ j ∈ js, j < (splitL p size).length) (hn : js.Nodup) {i : Nat} (hi : i < (splitL p size).length) (hni : i ∉ js) :
    addA (stJ p size js) (piece p size i) 5 = (stJ p size (js ++ [i]), if js.length + 1 = (splitL p size).length then p else zeroK, decide (js.length + 1 = (splitL p size).length), 0) := by
  have hlt : ¬ js.length = (splitL p size).length := by
    intro e
    have := (all_of_len hj hn).2.1 e i hi
    exact hni this
  have e1 : stJ p size js = poB (if js = [] then 0 else 5) (if js = [] then 0 else 5) false p (js.map (piece p size)) (decide (js = [])) := by unfold stJ; rw [if_neg hlt]
  rw [e1, back_add h h0 hm h2 hj hn hi hni (by omega) (by omega) (by split <;> omega) (by split <;> omega)]
  have hne : ¬ js ++ [i] = [] := by simp
  by_cases hl : js.length + 1 = (splitL p size).length
  · have e2 : stJ p size (js ++ [i]) = poB 5 5 false p [] true := by unfold stJ; rw [if_pos (by rw [List.length_append]; exact hl)]
    rw [e2, if_pos hl, if_pos hl, decide_eq_true hl]
    unfold poB; rfl
  · have e2 : stJ p size (js ++ [i]) = poB 5 5 false p ((js ++ [i]).map (piece p size)) false := by
      unfold stJ; rw [if_neg (by rw [List.length_append]; exact hl), decide_eq_false hne]; rw [if_neg hne]
    have e3 : (if js = [] then (5 : Int) else if js = [] then 0 else 5) = 5 := by split <;> rfl
    rw [e2, if_neg hl, if_neg hl, decide_eq_false hl, e3]
theorem stJ_all {p : Pk} {size : Int} {js : List Nat} (h : js.length = (splitL p size).length) : (stJ p size js).l = [] := by unfold stJ; rw [if_pos h]; rfl
end Go.Proofs.YtkpbcdnkbokekaaDoor
