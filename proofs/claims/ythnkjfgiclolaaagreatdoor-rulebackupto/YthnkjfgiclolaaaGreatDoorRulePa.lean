/- Where Parse stands (package rule): 'PaSt'; what it makes of lines ('parS'). -/
import Derived.Test.YthnkjfgiclolaaaGreatDoorRuleLin
import Derived.Test.YthnkjfgiclolaaaGreatDoorRuleRd4
import Derived.Test.YthnkjfgiclolaaaGreatDoorRlOwn
namespace Go.Proofs.YthnkjfgiclolaaaGreatDoor
open Go.RowKit
set_option linter.unusedVariables false
set_option maxRecDepth 10000

/-- What is wrong with a line behind n rules. -/
def lineE (n : Nat) (x : List UInt8) : Int := match readO x with | none => 2 | some r => if n = 20 then 4 else ruE r
/-- The rules of lines, behind others; else the line and the fault. -/
def parS : List Rl → List (List UInt8) → List Rl × Nat × Int
  | acc, [] => (acc, 0, 0)
  | acc, x :: t => if lineE acc.length x = 0 then parS (acc ++ [(readO x).getD nilR]) t else ([], acc.length, lineE acc.length x)
theorem parS_bad {acc : List Rl} {x : List UInt8} {t : List (List UInt8)} (h : lineE acc.length x ≠ 0) : parS acc (x :: t) = ([], acc.length, lineE acc.length x) := by rw [parS, if_neg h]
theorem parS_ok {acc : List Rl} {x : List UInt8} {t : List (List UInt8)} {r : Rl} (h : lineE acc.length x = 0) (hr : readO x = some r) : parS acc (x :: t) = parS (acc ++ [r]) t := by rw [parS, if_pos h, hr]; rfl
theorem lnsF_len : ∀ (k : Nat) (l x : List UInt8), x ∈ lnsF k l → x.length ≤ l.length
  | 0, l, x, h => by cases h
  | k + 1, l, x, h => by
      rw [lnsF] at h
      split at h
      · cases h
      split at h
      · rw [List.mem_singleton] at h; subst h; exact Nat.le_refl _
      · rcases List.mem_cons.1 h with rfl | h
        · rw [List.length_take]; omega
        · have := lnsF_len k _ x h
          rw [List.length_drop] at this; omega
theorem lnsL_len {l x : List UInt8} (h : x ∈ lnsL l) : x.length ≤ l.length := lnsF_len _ _ _ h
section
variable {W W' : World}
/-- What turns a block that holds no cells leaves the others. -/
theorem cells_grown {row : Option Nat} {B j : Nat} {c : Array Value} {t : TypeId} {f : Nat × Nat} (hg : W.grownBy W' row) (hr : ∀ r, row = some r → B ≤ r ∧ ∃ o : Obj, W.heap[r]? = some o ∧ o.isCells = false) (h : W.heap[j]? = some (.cells c t f)) : W'.heap[j]? = some (.cells c t f) := by
  refine (hg.block j (Array.getElem?_eq_some_iff.1 h).1 (fun e => ?_)).trans h
  obtain ⟨_, o, ho, hc⟩ := hr j e.symm
  rw [h] at ho
  cases ho
  cases hc
theorem OwnRl.grown {row : Option Nat} {B b : Nat} {v : Value} {rs : List Rx} (h : OwnRl W b v rs) (hg : W.grownBy W' row) (hr : ∀ r, row = some r → B ≤ r ∧ ∃ o : Obj, W.heap[r]? = some o ∧ o.isCells = false) : OwnRl W' b v rs := by
  obtain ⟨h1, h2⟩ := h
  refine ⟨h1, ?_⟩
  rcases h2 with h2 | ⟨g, cap, cur, hv, hbg, hh, rest⟩
  · exact .inl h2
  · exact .inr ⟨g, cap, cur, hv, hbg, cells_grown hg hr hh, rest⟩
theorem OwnSp.grown {row : Option Nat} {B b : Nat} {v : Value} {ps : List Sp} (h : OwnSp W b v ps) (hg : W.grownBy W' row) (hr : ∀ r, row = some r → B ≤ r ∧ ∃ o : Obj, W.heap[r]? = some o ∧ o.isCells = false) : OwnSp W' b v ps := by
  obtain ⟨h1, h2⟩ := h
  refine ⟨h1, ?_⟩
  rcases h2 with h2 | ⟨g, cap, cur, hv, hbg, hh, rest⟩
  · exact .inl h2
  · exact .inr ⟨g, cap, cur, hv, hbg, cells_grown hg hr hh, rest⟩
theorem keeps_below (h : Below W.heap.size W W') : KeepsOthers W W' := ⟨h.size, fun k o hk _ => (h.block k (Array.getElem?_eq_some_iff.1 hk).1).trans hk⟩
end
/-- The ports of rules, in rows of the call's own. -/
def PtsO (W : World) (b : Nat) (rs : List Rx) : Prop := ∀ x ∈ rs, OwnSp W b x.2.1 x.1.fr ∧ OwnSp W b x.2.2 x.1.tl ∧ x.1.fr.length ≤ 200 ∧ x.1.tl.length ≤ 200
theorem PtsO.pts {W : World} {b : Nat} {rs : List Rx} (h : PtsO W b rs) : Pts W rs := fun x hx => ⟨(h x hx).1.spns, (h x hx).2.1.spns, by have := (h x hx).2.2.1; omega, by have := (h x hx).2.2.2; omega⟩
structure PaSt (w W : World) (S : Nat) (rs : List Rx) (v : Value) : Prop where
  q0 : W.heap[S]? = some (.cells #[.slice none 0 0] 22 (0, 0))
  q1 : W.heap[S + 1]? = some (.cells #[.int .i64 0] 3 (0, 0))
  q2 : W.heap[S + 2]? = some (.cells #[.nilIface] 26 (0, 0))
  bx : W.heap[S + 3]? = some (.cells #[v] 22 (0, 0))
  own : OwnRl W (S + 5) v rs
  pts : PtsO W (S + 5) rs
  bel : Below S w W
  sz : S + 5 ≤ W.heap.size
theorem PaSt.step {w W W' : World} {S : Nat} {rs : List Rx} {v : Value} (h : PaSt w W S rs v) (hb : Below W.heap.size W W') : PaSt w W' S rs v := by
  have k : ∀ j, j < S + 5 → W'.heap[j]? = W.heap[j]? := fun j hj => hb.block j (by have := h.sz; omega)
  exact ⟨(k _ (by omega)).trans h.q0, (k _ (by omega)).trans h.q1, (k _ (by omega)).trans h.q2, (k _ (by omega)).trans h.bx, h.own.below hb, fun x hx => ⟨(h.pts x hx).1.below hb, (h.pts x hx).2.1.below hb, (h.pts x hx).2.2⟩, h.bel.trans (hb.mono (by have := h.sz; omega)), Nat.le_trans h.sz hb.size⟩
theorem PaSt.free {w W W' : World} {S : Nat} {rs : List Rx} {v : Value} (h : PaSt w W S rs v) (ho : Only (S + 4) W W') : PaSt w W' S rs v :=
  ⟨(ho.block _ (by omega)).trans h.q0, (ho.block _ (by omega)).trans h.q1, (ho.block _ (by omega)).trans h.q2, (ho.block _ (by omega)).trans h.bx, h.own.blk (fun k hk => ho.block k (by have := (h.own.block k hk).1; omega)), fun x hx => ⟨(h.pts x hx).1.only ho (by omega), (h.pts x hx).2.1.only ho (by omega), (h.pts x hx).2.2⟩, ho.below (by omega) h.bel, by rw [ho.size]; exact h.sz⟩
theorem PaSt.turn {w W W' : World} {S : Nat} {rs : List Rx} {v : Value} {row : Option Nat} (h : PaSt w W S rs v) (hg : W.grownBy W' row) (hr : ∀ r, row = some r → S + 5 ≤ r ∧ ∃ o : Obj, W.heap[r]? = some o ∧ o.isCells = false) : PaSt w W' S rs v :=
  ⟨cells_grown hg hr h.q0, cells_grown hg hr h.q1, cells_grown hg hr h.q2, cells_grown hg hr h.bx, h.own.grown hg hr, fun x hx => ⟨(h.pts x hx).1.grown hg hr, (h.pts x hx).2.1.grown hg hr, (h.pts x hx).2.2⟩, h.bel.trans (grown_below hg (by have := h.sz; omega) (fun k hk => by have := (hr k hk).1; omega)), Nat.le_trans h.sz hg.size⟩
structure PaEnd (w W : World) (S : Nat) (at' : Nat) (E : Int) : Prop where
  q0 : W.heap[S]? = some (.cells #[.slice none 0 0] 22 (0, 0))
  q1 : W.heap[S + 1]? = some (.cells #[.int .i64 (at' : Int)] 3 (0, 0))
  q2 : W.heap[S + 2]? = some (.cells #[erV E] 26 (0, 0))
  bel : Below S w W
  sz : S + 5 ≤ W.heap.size
theorem PaEnd.free {w W W' : World} {S at' : Nat} {E : Int} (h : PaEnd w W S at' E) (ho : Only (S + 4) W W') : PaEnd w W' S at' E :=
  ⟨(ho.block _ (by omega)).trans h.q0, (ho.block _ (by omega)).trans h.q1, (ho.block _ (by omega)).trans h.q2, ho.below (by omega) h.bel, by rw [ho.size]; exact h.sz⟩
theorem PaEnd.turn {w W W' : World} {S at' : Nat} {E : Int} {row : Option Nat} (h : PaEnd w W S at' E) (hg : W.grownBy W' row) (hr : ∀ r, row = some r → S + 5 ≤ r ∧ ∃ o : Obj, W.heap[r]? = some o ∧ o.isCells = false) : PaEnd w W' S at' E :=
  ⟨cells_grown hg hr h.q0, cells_grown hg hr h.q1, cells_grown hg hr h.q2, h.bel.trans (grown_below hg (by have := h.sz; omega) (fun k hk => by have := (hr k hk).1; omega)), Nat.le_trans h.sz hg.size⟩
theorem cell1 {w : World} {g : Nat} {v : Value} {t : TypeId} (h : w.heap[g]? = some (.cells #[v] t (0, 0))) : w.cell? ⟨g, 0, none⟩ = some v ∧ w.frozen? ⟨g, 0, none⟩ = false := ⟨by rw [cell_of_row w g _ _ _ _ h]; rfl, frozen_of_row w g 0 _ _ h⟩
/-- strings.Lines hands back its closure. -/
theorem linesF_any (s : ByteArray) (w : World) : Calls Tryz.prog 24 #[.string s] w fun e w' => e = .returned (.func (.func 53) #[] #[.pointer (some ⟨w.heap.size, 0, none⟩)]) ∧ w' = w.alloc (.cells #[.string s] 9) := by
  go_enter Tryz.func24, Tryz.ntmps24
  go_wp2
  go_ret
  exact ⟨rfl, rfl⟩
def paI (w : World) (S : Nat) (all : List (List UInt8)) (pre : List (List UInt8)) (W : World) : Prop := ∃ rs v, PaSt w W S rs v ∧ rs.length ≤ 20 ∧ parS [] all = parS (rs.map Prod.fst) (all.drop pre.length)
def paX (w : World) (S : Nat) (all : List (List UInt8)) (c : Code) (pre : List (List UInt8)) (W : World) : Prop := c = .ret ∧ ∃ at' E, PaEnd w W S at' E ∧ parS [] all = ([], at', E) ∧ E ≠ 0
theorem paI_own (w : World) (S : Nat) (all : List (List UInt8)) : OwnFrom (S + 5) (paI w S all) := fun s W W' row h hg hr => by
  obtain ⟨rs, v, h1, h2, h3⟩ := h
  exact ⟨rs, v, h1.turn hg hr, h2, h3⟩
theorem paX_own (w : World) (S : Nat) (all : List (List UInt8)) (c : Code) : OwnFrom (S + 5) (paX w S all c) := fun s W W' row h hg hr => by
  obtain ⟨h0, at', E, h1, h2, h3⟩ := h
  exact ⟨h0, at', E, h1.turn hg hr, h2, h3⟩
theorem paI_free (w : World) (S : Nat) (all : List (List UInt8)) : Free (S + 4) (paI w S all) := fun s A A' h o => by
  obtain ⟨rs, v, h1, h2, h3⟩ := h
  exact ⟨rs, v, h1.free o, h2, h3⟩
theorem paX_free (w : World) (S : Nat) (all : List (List UInt8)) (c : Code) : Free (S + 4) (paX w S all c) := fun s A A' h o => by
  obtain ⟨h0, at', E, h1, h2, h3⟩ := h
  exact ⟨h0, at', E, h1.free o, h2, h3⟩
end Go.Proofs.YthnkjfgiclolaaaGreatDoor
