/- A row of bytes of the call's own that grows ('Grew'), one byte or many at a time, beside others. Conditions: lengths within what the model lets grow. -/
import Derived.Test.YtiigoeecklelpaaDoorOwn
import Derived.Test.YtiigoeecklelpaaDoorGrow
namespace Go.Proofs.YtiigoeecklelpaaDoor
open Go.RowKit
set_option linter.unusedVariables false

/-- A row v of the call's own has become v': of what was there nothing else has turned. -/
def Grew (v v' : Value) (w w' : World) : Prop := w.grownBy w' v.ownBlock ∧ (v'.ownBlock = v.ownBlock ∨ ∃ k, v'.ownBlock = some k ∧ w.heap.size ≤ k)
theorem Grew.refl (v : Value) (w : World) : Grew v v w w := ⟨⟨rfl, rfl, rfl, Nat.le_refl _, fun _ _ _ => rfl⟩, .inl rfl⟩
theorem Grew.trans {v v' v'' : Value} {w w' w'' : World} (h : Grew v v' w w') (k : Grew v' v'' w' w'') : Grew v v'' w w'' := by
  obtain ⟨g1, e1⟩ := h
  obtain ⟨g2, e2⟩ := k
  refine ⟨⟨g2.os.trans g1.os, g2.tape.trans g1.tape, g2.output.trans g1.output, Nat.le_trans g1.size g2.size, fun i hi hne => ?_⟩, ?_⟩
  · rw [g2.block i (Nat.lt_of_lt_of_le hi g1.size) (fun he => ?_), g1.block i hi hne]
    rcases e1 with e1 | ⟨k, e1, hk⟩
    · rw [e1] at he; exact hne he
    · rw [e1] at he; simp only [Option.some.injEq] at he; omega
  · rcases e2 with e2 | ⟨k, e2, hk⟩
    · rw [e2]; exact e1
    · exact .inr ⟨k, e2, Nat.le_trans g1.size hk⟩
theorem Grew.below {v v' : Value} {w w' w0 : World} {B : Nat} (h : Grew v v' w w') (hb : Below B w0 w) (hB : B ≤ w.heap.size) (hv : ∀ k, v.ownBlock = some k → B ≤ k) : Below B w0 w' := hb.grown h.1 hB hv
/-- 'append' of one byte onto a row of the call's own. -/
theorem wpList_append_byte {w : World} {ops : Array Oper} {rest : List Oper} {o : Oper} {a : Act} {Q : Exit → Act → World → Prop} (hgd : o.guard = none) (s x : Operand)
    (ho : o.op = .call { callee := .builtin .append, args := #[s, x], argTypes := #[24, 24] })
    (base : Nat) (v : Value) (cur : List Int) (hs : a.eval s = v) (hown : OwnB w base v cur) (y : Int) (hy : 0 ≤ y ∧ y ≤ 255) (hx : a.eval x = .slice (some ⟨w.heap.size, 0, none⟩) 1 1)
    (hlen : cur.length ≤ 1000000) (hbase : base ≤ w.heap.size)
    (h : ∀ v' w', OwnB w' base v' (cur ++ [y]) → Grew v v' w w' → wpList Tryd.prog ops Q rest (a.put o.dst v') w') :
    wpList Tryd.prog ops Q (o :: rest) a (w.alloc (.cells #[.int .u8 y] 5)) := by
  obtain ⟨i0, hi, hz0, hz1, hz2⟩ := info_parts Tryd.infoU8
  refine wpList_append_at hgd s x 24 ho base 5 i0 (.int .u8 0) 1 1 Tryd.underlying24 hi hz0 hz1 hz2 rfl (by decide) v cur.length (cur.map (Value.int .u8)) hs (hown.alloc _).1 ⟨w.heap.size, 0, none⟩ 1 1 [.int .u8 y] hx rfl ?_ ?_ (by unfold maxLen; omega) (by omega) (by simp; omega) ?_
  · intro j u hj
    match j, hj with
    | 0, hj => simp at hj; subst hj; simp [Addr.add]
  · intro u hu; simp at hu; subst hu; rfl
  · intro v' w' h1 h2 h3
    refine h v' w' ⟨?_, ?_⟩ ⟨⟨h2.os, h2.tape, h2.output, Nat.le_trans (by simp) h2.size, fun i hi hne => ?_⟩, ?_⟩
    · rw [List.length_append, List.map_append]; exact h1
    · intro z hz
      rcases List.mem_append.1 hz with h' | h'
      · exact hown.2 z h'
      · rw [List.mem_singleton.1 h']; exact hy
    · rw [h2.block i (by simp; omega) hne]
      exact Below.heap_alloc w _ i hi
    · rcases h3 with h3 | h3
      · exact .inl h3
      · exact .inr ⟨_, h3, by simp⟩

/-- A row beside one that grows. -/
theorem OwnB.beside {w w' : World} {base b' : Nat} {t v v' : Value} {zs ys : List Int} (h : OwnB w base t zs) (hv : OwnB w b' v ys) (hlt : ∀ k, v.ownBlock = some k → k < base) (hg : w.grownBy w' v.ownBlock) : OwnB w' base t zs := by
  refine ⟨h.1.kept hg ?_, h.2⟩
  rcases ht : t.ownBlock with _ | k
  · exact .inl rfl
  · refine .inr (fun he => ?_)
    have h1 := (h.1.lt k ht).1
    have h2 := hlt k (by rw [← he])
    omega
theorem OwnB.block_lt {w : World} {base : Nat} {v : Value} {zs : List Int} (h : OwnB w base v zs) : ∀ k, v.ownBlock = some k → k < w.heap.size := fun k hk => (h.1.lt k hk).2
theorem OwnB.block_ge {w : World} {base : Nat} {v : Value} {zs : List Int} (h : OwnB w base v zs) : ∀ k, v.ownBlock = some k → base ≤ k := fun k hk => (h.1.lt k hk).1

theorem OwnB.apart {w w' : World} {base : Nat} {t : Value} {zs : List Int} {row : Option Nat} (h : OwnB w base t zs) (hg : w.grownBy w' row) (hne : ∀ k, t.ownBlock = some k → row = some k → False) : OwnB w' base t zs := by
  refine ⟨h.1.kept hg ?_, h.2⟩
  rcases ht : t.ownBlock with _ | k
  · exact .inl rfl
  · exact .inr (fun he => hne k ht he.symm)
end Go.Proofs.YtiigoeecklelpaaDoor
