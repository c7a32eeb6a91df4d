/- Rows of ints that a call itself makes, several of them apart from each other: what is appended to them, read of them, stored into them and cut off them. -/
import Derived.Test.YtbncegjnjlokmaaDoorMgC
import Derived.Test.YtbncegjnjlokmaaDoorSameW
namespace Go.Proofs.YtbncegjnjlokmaaDoor
open Go.RowKit
set_option linter.unusedVariables false

/-- The value v is a slice of the call's own, from block 'base' on, that holds the numbers zs. -/
def OwnI (w : World) (base : Nat) (v : Value) (zs : List Int) : Prop := w.ownsRow base 3 1 v zs.length (zs.map (Value.int .i64))
/-- Two rows of the call's own lie apart. -/
def Off (v u : Value) : Prop := ∀ g, v.ownBlock = some g → u.ownBlock ≠ some g
theorem Off.symm {v u : Value} (h : Off v u) : Off u v := fun g hu hv => h g hv hu
theorem Off.nil (u : Value) : Off (.slice none 0 0) u := fun g h => by cases h
theorem Tryd.infoInt : (Tryd.prog.info? 3).map (fun i => (i.zero, i.size, i.bytes)) = some (some (.int .i64 0), 1, 8) := by kernel_rfl
theorem OwnI.nil (w : World) (base : Nat) : OwnI w base (.slice none 0 0) [] := World.ownsRow_nil _ _ _ _
theorem OwnI.alloc {w : World} {base : Nat} {v : Value} {zs : List Int} (h : OwnI w base v zs) (o : Obj) : OwnI (w.alloc o) base v zs := World.ownsRow.alloc h o
theorem OwnI.lt {w : World} {base : Nat} {v : Value} {zs : List Int} (h : OwnI w base v zs) (g : Nat) (hg : v.ownBlock = some g) : base ≤ g ∧ g < w.heap.size := World.ownsRow.lt h g hg
theorem OwnI.kept {w w' : World} {base : Nat} {v u : Value} {zs : List Int} {o : Obj} (h : OwnI w base u zs) (hg : (w.alloc o).grownBy w' v.ownBlock) (hne : Off v u) : OwnI w' base u zs := by
  refine World.ownsRow.kept (World.ownsRow.alloc h o) hg ?_
  cases hu : u.ownBlock with
  | none => exact .inl rfl
  | some g => exact .inr fun e => hne g e.symm hu
theorem Off.grown {w : World} {base : Nat} {v v' u : Value} {zs : List Int} (h : Off v u) (hu : OwnI w base u zs) (hv : v'.ownBlock = v.ownBlock ∨ v'.ownBlock = some (w.heap.size + 1)) : Off v' u := by
  intro g hg hu'
  have hlt := (hu.lt g hu').2
  rcases hv with e | e
  · exact h g (by rw [← e]; exact hg) hu'
  · rw [e] at hg; injection hg with hg; omega
theorem OwnI.below {w w' : World} {base : Nat} {v : Value} {zs : List Int} (h : OwnI w base v zs) (hb : Below w.heap.size w w') : OwnI w' base v zs := by
  obtain ⟨h1, h2⟩ := h
  refine ⟨h1, ?_⟩
  rcases h2 with h2 | ⟨g, cap, cur, hv, hbg, hh, rest⟩
  · exact .inl h2
  · refine .inr ⟨g, cap, cur, hv, hbg, ?_, rest⟩
    have hlt : g < w.heap.size := by
      rcases Nat.lt_or_ge g w.heap.size with h | h
      · exact h
      · simp [Array.getElem?_eq_none h] at hh
    rw [hb.block g hlt]; exact hh
theorem OwnI.shape {w : World} {base : Nat} {v : Value} {zs : List Int} (h : OwnI w base v zs) (hz : 0 < zs.length) :
    ∃ g cap, v = .slice (some ⟨g, 0, none⟩) zs.length cap ∧ base ≤ g ∧ g < w.heap.size ∧ zs.length ≤ cap ∧ cap ≤ maxLen := by
  obtain ⟨_, h2⟩ := h
  rcases h2 with ⟨_, h0⟩ | ⟨g, cap, cur, rfl, hb, hh, hl, hm, _, _⟩
  · omega
  · refine ⟨g, cap, rfl, hb, ?_, hl, hm⟩
    rcases Nat.lt_or_ge g w.heap.size with h1 | h1
    · exact h1
    · simp [Array.getElem?_eq_none h1] at hh
theorem OwnI.form {w : World} {base : Nat} {v : Value} {zs : List Int} (h : OwnI w base v zs) : ∃ ao cap, v = .slice ao zs.length cap := by
  obtain ⟨_, h2⟩ := h
  rcases h2 with ⟨rfl, h0⟩ | ⟨g, cap, cur, rfl, _⟩
  · exact ⟨none, 0, by rw [h0]⟩
  · exact ⟨_, _, rfl⟩
theorem OwnI.cell {w : World} {base g cap n : Nat} {zs : List Int} (h : OwnI w base (.slice (some ⟨g, 0, none⟩) n cap) zs) (hn : n = zs.length) (j : Nat) (hj : j < zs.length) :
    w.cell? ⟨g, j, none⟩ = some (.int .i64 zs[j]) := by
  subst hn
  rw [World.ownsRow.cellAt h j (by omega)]
  simp [hj]
theorem OwnI.free {w : World} {base g cap n : Nat} {zs : List Int} (h : OwnI w base (.slice (some ⟨g, 0, none⟩) n cap) zs) (hn : n = zs.length) (j : Nat) :
    w.frozen? ⟨g, j, none⟩ = false := by
  subst hn; exact World.ownsRow.frozenAt h j
theorem OwnI.store {w : World} {base g cap n : Nat} {zs : List Int} (h : OwnI w base (.slice (some ⟨g, 0, none⟩) n cap) zs) (hn : n = zs.length) (j : Nat) (u : Int) :
    OwnI (w.setCell ⟨g, j, none⟩ (.int .i64 u)) base (.slice (some ⟨g, 0, none⟩) n cap) (zs.set j u) := by
  subst hn
  have e := (World.ownsRow.stored h j (.int .i64 u)).1
  unfold OwnI
  rw [List.map_set, List.length_set]; exact e
theorem OwnI.other {w : World} {base : Nat} {v : Value} {zs : List Int} {g off : Nat} (h : OwnI w base v zs) (hne : v.ownBlock ≠ some g) (u : Value) : OwnI (w.setCell ⟨g, off, none⟩ u) base v zs :=
  ownsRow_setCell_other h hne u
theorem OwnI.cut {w : World} {base g cap n : Nat} {zs : List Int} (h : OwnI w base (.slice (some ⟨g, 0, none⟩) n cap) zs) (hn : n = zs.length) (m : Nat) (hm : m ≤ n) :
    OwnI w base (.slice (some ⟨g, 0, none⟩) m cap) (zs.take m) := by
  obtain ⟨h1, h2⟩ := h
  have hl : (zs.take m).length = m := by simp; omega
  refine ⟨by simp, ?_⟩
  rcases h2 with ⟨hv, h0⟩ | ⟨g', cap', cur, hv, hb, hh, hl', hmx, hcs, htake⟩
  · cases hv
  · simp only [Value.slice.injEq, Option.some.injEq, Addr.mk.injEq] at hv
    obtain ⟨⟨rfl, _⟩, _, rfl⟩ := hv
    refine .inr ⟨g, cap, cur, by rw [hl], hb, hh, by rw [hl]; omega, hmx, hcs, ?_⟩
    rw [hl, List.map_take, ← htake, List.take_take]
    congr 1; omega

theorem OwnI.kept0 {w w' : World} {base : Nat} {v u : Value} {zs : List Int} (h : OwnI w base u zs) (hg : w.grownBy w' v.ownBlock) (hne : Off v u) : OwnI w' base u zs := by
  refine World.ownsRow.kept h hg ?_
  cases hu : u.ownBlock with
  | none => exact .inl rfl
  | some g => exact .inr fun e => hne g e.symm hu
theorem Off.grown0 {w : World} {base : Nat} {v v' u : Value} {zs : List Int} (h : Off v u) (hu : OwnI w base u zs) (hv : v'.ownBlock = v.ownBlock ∨ v'.ownBlock = some w.heap.size) : Off v' u := by
  intro g hg hu'
  have hlt := (hu.lt g hu').2
  rcases hv with e | e
  · exact h g (by rw [← e]; exact hg) hu'
  · rw [e] at hg; injection hg with hg; omega
theorem OwnI.same {w w' : World} {base : Nat} {v : Value} {zs : List Int} (h : OwnI w base v zs) (hs : SameW w w') : OwnI w' base v zs := by
  obtain ⟨n, rfl⟩ := hs
  obtain ⟨h1, h2⟩ := h
  exact ⟨h1, h2⟩

/-- 'append' of one number onto a row of the call's own. -/
theorem wpList_append_int {w : World} {ops : Array Oper} {rest : List Oper} {o : Oper} {a : Act} {Q : Exit → Act → World → Prop} (hgd : o.guard = none) (s x : Operand)
    (ho : o.op = .call { callee := .builtin .append, args := #[s, x], argTypes := #[49, 49] })
    (base : Nat) (v : Value) (zs : List Int) (hs : a.eval s = v) (hown : OwnI w base v zs) (z : Int) (hx : a.eval x = .slice (some ⟨w.heap.size, 0, none⟩) 1 1)
    (hlen : zs.length ≤ 4398046511104) (hbase : base ≤ w.heap.size)
    (h : ∀ v' w', OwnI w' base v' (zs ++ [z]) → (w.alloc (.cells #[.int .i64 z] 3)).grownBy w' v.ownBlock → (v'.ownBlock = v.ownBlock ∨ v'.ownBlock = some (w.heap.size + 1)) → wpList Tryd.prog ops Q rest (a.put o.dst v') w') :
    wpList Tryd.prog ops Q (o :: rest) a (w.alloc (.cells #[.int .i64 z] 3)) := by
  obtain ⟨i0, hi, hz0, hz1, hz2⟩ := info_parts Tryd.infoInt
  refine wpList_append_at hgd s x 49 ho base 3 i0 (.int .i64 0) 1 8 Tryd.underlying49 hi hz0 hz1 hz2 rfl (by decide) v zs.length (zs.map (Value.int .i64)) hs (OwnI.alloc hown _) ⟨w.heap.size, 0, none⟩ 1 1 [.int .i64 z] hx rfl ?_ ?_ (by unfold maxLen; omega) (by omega) (by simp; omega) ?_
  · intro j u hj
    match j, hj with
    | 0, hj => simp at hj; subst hj; simp [Addr.add]
  · intro u hu; simp at hu; subst hu; rfl
  · intro v' w' h1 h2 h3
    refine h v' w' ?_ h2 (by simpa using h3)
    unfold OwnI
    rw [List.length_append, List.map_append]; exact h1
end Go.Proofs.YtbncegjnjlokmaaDoor
