/- Heaps of pieces (portref2.Heap) that lie one behind the other in a row of the call's own ('OwnH'), and the reference's pool in memory ('RpIn', 'RPool'). -/
import Derived.Test.YtgodjaffmojhlaaDoorRefPlW
import Derived.Deep.Upon
namespace Go.Proofs.YtgodjaffmojhlaaDoor
open Go.RowKit
set_option linter.unusedVariables false
set_option maxRecDepth 4000

/-- A heap, where it lies: what it is of, its row of pieces, their bodies. -/
structure Rh where
  h : Hp
  f : Pk
  fv : Value
  av : Value
  vs : List Value
def rhRow (r : Rh) : List Value := [.int .i64 r.f.kind, .int .i64 r.f.ttl, .int .i64 r.f.ident, .int .i64 r.f.src, .int .i64 r.f.dst, .int .i64 r.f.pos, .bool r.f.more, r.fv, .int .i64 r.h.began, .bool r.h.bad, r.av]
def rhCells (rs : List Rh) : List Value := rs.flatMap rhRow
def SlV (v : Value) : Prop := ∃ a n c, v = .slice a n c
theorem rhCells_append (a b : List Rh) : rhCells (a ++ b) = rhCells a ++ rhCells b := by simp [rhCells]
theorem rhCells_cons (r : Rh) (b : List Rh) : rhCells (r :: b) = rhRow r ++ rhCells b := by simp [rhCells]
theorem rhCells_len (rs : List Rh) : (rhCells rs).length = rs.length * 11 := by
  induction rs with
  | nil => rfl
  | cons q r ih => rw [rhCells_cons, List.length_append, ih]; simp [rhRow]; omega
theorem rhRow_one {r : Rh} (h : SlV r.fv ∧ SlV r.av) : ∀ u ∈ rhRow r, u.oneCell' = true := by
  obtain ⟨⟨a, n, c, e⟩, ⟨a', n', c', e'⟩⟩ := h
  intro u hu
  unfold rhRow at hu
  rw [e, e'] at hu
  simp only [List.mem_cons, List.not_mem_nil, or_false] at hu
  rcases hu with rfl | rfl | rfl | rfl | rfl | rfl | rfl | rfl | rfl | rfl | rfl <;> rfl
theorem rhCells_one {rs : List Rh} (h : ∀ r ∈ rs, SlV r.fv ∧ SlV r.av) : ∀ u ∈ rhCells rs, u.oneCell' = true := by
  intro u hu
  obtain ⟨r, hr, hx⟩ := List.mem_flatMap.1 hu
  exact rhRow_one (h r hr) u hx
theorem rhCells_get (rs : List Rh) : ∀ (i : Nat) (h : i < rs.length), (rhCells rs).drop (i * 11) = rhRow rs[i] ++ rhCells (rs.drop (i + 1)) := by
  induction rs with
  | nil => intro i h; simp at h
  | cons q r ih =>
    intro i h
    match i with
    | 0 => rw [rhCells_cons]; simp
    | i + 1 =>
      have e := ih i (by simpa using h)
      rw [show (i + 1) * 11 = 11 + i * 11 by omega, ← List.drop_drop]
      have e2 : (rhCells (q :: r)).drop 11 = rhCells r := by rw [rhCells_cons]; simp [rhRow]
      rw [e2, e]; simp
theorem Tryd.infoHp : (Tryd.prog.info? 57).map (fun i => (i.zero, i.size, i.bytes)) = some (some (.agg #[.int .i64 0, .int .i64 0, .int .i64 0, .int .i64 0, .int .i64 0, .int .i64 0, .bool false, .slice none 0 0, .int .i64 0, .bool false, .slice none 0 0]), 11, 120) := by kernel_rfl
/-- The cells of one heap. -/
def HpC (w : World) (b o : Nat) (r : Rh) : Prop := ∀ j u, (rhRow r)[j]? = some u → w.cell? ⟨b, o + j, none⟩ = some u
theorem HpC.all {w : World} {b o : Nat} {r : Rh} (h : HpC w b o r) :
    w.cell? ⟨b, o, none⟩ = some (.int .i64 r.f.kind) ∧ w.cell? ⟨b, o + 1, none⟩ = some (.int .i64 r.f.ttl) ∧ w.cell? ⟨b, o + 2, none⟩ = some (.int .i64 r.f.ident) ∧ w.cell? ⟨b, o + 3, none⟩ = some (.int .i64 r.f.src) ∧
    w.cell? ⟨b, o + 4, none⟩ = some (.int .i64 r.f.dst) ∧ w.cell? ⟨b, o + 5, none⟩ = some (.int .i64 r.f.pos) ∧ w.cell? ⟨b, o + 6, none⟩ = some (.bool r.f.more) ∧ w.cell? ⟨b, o + 7, none⟩ = some r.fv ∧
    w.cell? ⟨b, o + 8, none⟩ = some (.int .i64 r.h.began) ∧ w.cell? ⟨b, o + 9, none⟩ = some (.bool r.h.bad) ∧ w.cell? ⟨b, o + 10, none⟩ = some r.av :=
  ⟨h 0 _ rfl, h 1 _ rfl, h 2 _ rfl, h 3 _ rfl, h 4 _ rfl, h 5 _ rfl, h 6 _ rfl, h 7 _ rfl, h 8 _ rfl, h 9 _ rfl, h 10 _ rfl⟩
theorem HpC.new (w : World) (r : Rh) : HpC (w.alloc (.cells #[.int .i64 r.f.kind, .int .i64 r.f.ttl, .int .i64 r.f.ident, .int .i64 r.f.src, .int .i64 r.f.dst, .int .i64 r.f.pos, .bool r.f.more, r.fv, .int .i64 r.h.began, .bool r.h.bad, r.av] 57)) w.heap.size 0 r := by
  intro j u hj
  have e := heap_alloc_new w (.cells #[.int .i64 r.f.kind, .int .i64 r.f.ttl, .int .i64 r.f.ident, .int .i64 r.f.src, .int .i64 r.f.dst, .int .i64 r.f.pos, .bool r.f.more, r.fv, .int .i64 r.h.began, .bool r.h.bad, r.av] 57)
  rw [cell_of_row _ _ _ _ _ _ e, Nat.zero_add]
  simpa [rhRow] using hj
def OwnH (w : World) (base : Nat) (v : Value) (rs : List Rh) : Prop := w.ownsRow base 57 11 v rs.length (rhCells rs)
section
variable {w w' : World} {base : Nat} {v : Value} {rs : List Rh}
theorem OwnH.nil (w : World) (base : Nat) : OwnH w base (.slice none 0 0) [] := World.ownsRow_nil _ _ _ _
theorem OwnH.block (h : OwnH w base v rs) : ∀ k, v.ownBlock = some k → base ≤ k ∧ k < w.heap.size := fun k hk => World.ownsRow.lt h k hk
theorem OwnH.blk (h : OwnH w base v rs) (hb : ∀ k, v.ownBlock = some k → w'.heap[k]? = w.heap[k]?) : OwnH w' base v rs := by
  obtain ⟨h1, h2⟩ := h
  refine ⟨h1, ?_⟩
  rcases h2 with h2 | ⟨g, cap, cur, hv, hbg, hh, rest⟩
  · exact .inl h2
  · exact .inr ⟨g, cap, cur, hv, hbg, by rw [hb g (by rw [hv]; rfl)]; exact hh, rest⟩
theorem OwnH.below (h : OwnH w base v rs) (hb : Below w.heap.size w w') : OwnH w' base v rs := h.blk (fun k hk => hb.block k (h.block k hk).2)
theorem OwnH.baseLe {b' : Nat} (h : OwnH w base v rs) (hb : b' ≤ base) : OwnH w b' v rs := by
  obtain ⟨h1, h2⟩ := h
  refine ⟨h1, ?_⟩
  rcases h2 with h2 | ⟨g, cap, cur, hv, hbg, rest⟩
  · exact .inl h2
  · exact .inr ⟨g, cap, cur, hv, Nat.le_trans hb hbg, rest⟩
theorem OwnH.shape (h : OwnH w base v rs) (hz : 0 < rs.length) :
    ∃ g cap, v = .slice (some ⟨g, 0, none⟩) rs.length cap ∧ base ≤ g ∧ g < w.heap.size ∧ rs.length ≤ cap ∧ cap ≤ maxLen := by
  obtain ⟨_, h2⟩ := h
  rcases h2 with ⟨_, h0⟩ | ⟨g, cap, cur, rfl, hb, hh, hl, hm, _, _⟩
  · omega
  · refine ⟨g, cap, rfl, hb, ?_, hl, hm⟩
    rcases Nat.lt_or_ge g w.heap.size with h1 | h1
    · exact h1
    · simp [Array.getElem?_eq_none h1] at hh
theorem OwnH.len (h : OwnH w base v rs) : ∃ a c, v = .slice a rs.length c := by
  obtain ⟨_, h2⟩ := h
  rcases h2 with ⟨rfl, h0⟩ | ⟨g, cap, cur, rfl, hb, hh, hl, hm, _, _⟩
  · rw [h0]; exact ⟨_, _, rfl⟩
  · exact ⟨_, _, rfl⟩
theorem OwnH.cells {g n cap : Nat} (h : OwnH w base (.slice (some ⟨g, 0, none⟩) n cap) rs) (i : Nat) (hi : i < rs.length) : HpC w g (i * 11) rs[i] := by
  have hc := World.ownsRow.cells h (g := g) rfl
  have e := rhCells_get rs i hi
  intro j u hu
  have h2 : (rhCells rs)[i * 11 + j]? = some u := by
    rw [← List.getElem?_drop, e, List.getElem?_append_left]
    · exact hu
    · rcases Nat.lt_or_ge j (rhRow rs[i]).length with h8 | h8
      · exact h8
      · rw [List.getElem?_eq_none h8] at hu; cases hu
  have h3 := hc _ _ h2
  have ea : Addr.add ⟨g, 0, none⟩ (i * 11 + j) = ⟨g, i * 11 + j, none⟩ := add_off0 g _
  rw [ea] at h3; exact h3
end
/-- 'append' of one heap onto a row of the call's own. -/
theorem wpList_append_hp {w : World} {ops : Array Oper} {rest : List Oper} {o : Oper} {a : Act} {Q : Exit → Act → World → Prop} (hgd : o.guard = none) (s x : Operand)
    (ho : o.op = .call { callee := .builtin .append, args := #[s, x], argTypes := #[31, 31] })
    (base : Nat) (v : Value) (rs : List Rh) (hs : a.eval s = v) (hown : OwnH w base v rs) (b : Nat) (r : Rh) (hx : a.eval x = .slice (some ⟨b, 0, none⟩) 1 1) (hp : HpC w b 0 r) (hr : SlV r.fv ∧ SlV r.av)
    (hlen : rs.length ≤ 100000) (hbase : base ≤ w.heap.size)
    (h : ∀ v' w', OwnH w' base v' (rs ++ [r]) → w.grownBy w' v.ownBlock → (v'.ownBlock = v.ownBlock ∨ v'.ownBlock = some w.heap.size) → wpList Tryd.prog ops Q rest (a.put o.dst v') w') :
    wpList Tryd.prog ops Q (o :: rest) a w := by
  obtain ⟨i0, hi, hz0, hz1, hz2⟩ := info_parts Tryd.infoHp
  refine wpList_append_at hgd s x 31 ho base 57 i0 _ 11 120 Tryd.underlying31 hi hz0 hz1 hz2 rfl (by decide) v rs.length (rhCells rs) hs hown ⟨b, 0, none⟩ 1 1 (rhRow r) hx rfl ?_ (rhRow_one hr) (by unfold maxLen; omega) (by omega) hbase ?_
  · intro j u hj
    have ea : Addr.add ⟨b, 0, none⟩ j = ⟨b, j, none⟩ := by by_cases h0 : j = 0 <;> simp [Addr.add, h0]
    rw [ea]
    have := hp j u hj
    rw [Nat.zero_add] at this; exact this
  · intro v' w' h1 h2 h3
    refine h v' w' ?_ h2 h3
    unfold OwnH
    rw [List.length_append, rhCells_append]
    have e : rhCells [r] = rhRow r := by simp [rhCells]
    rw [e]; exact h1
/-- The reference's pool lies at block pb, over blocks of F; bodies of pieces lie in w0. -/
structure RpIn (w0 w : World) (F : Nat → Prop) (pb : Nat) (s : Po) (lv : Value) (rs : List Rh) : Prop where
  pool : w.heap[pb]? = some (.cells #[.int .i64 s.life, .int .i64 s.now, lv] 33 (0, 0))
  row : OwnH w 0 lv rs
  list : rs.map Rh.h = s.l
  slv : ∀ r ∈ rs, SlV r.fv ∧ SlV r.av
  name : ∀ r ∈ rs, nmOf r.f = r.h.name
  all : ∀ r ∈ rs, r.h.bad = false → OwnK w 0 r.av (r.h.all.zip r.vs) ∧ r.vs.length = r.h.all.length
  body : ∀ r ∈ rs, r.h.bad = false → ∀ x ∈ r.h.all.zip r.vs, Bytes w0 x.2 x.1.body
  ok : OkP s
  times : (1 ≤ s.life ∧ s.life ≤ 1000000) ∧ (0 ≤ s.now ∧ s.now ≤ 1000000) ∧ ∀ r ∈ rs, 0 ≤ r.h.began ∧ r.h.began ≤ 1000000
  fpb : F pb
  frow : ∀ k, lv.ownBlock = some k → F k ∧ k ≠ pb
  fall : ∀ r ∈ rs, r.h.bad = false → ∀ k, r.av.ownBlock = some k → F k ∧ k ≠ pb ∧ lv.ownBlock ≠ some k
  apart : rs.Pairwise fun r q => r.h.bad = false → q.h.bad = false → ∀ k, r.av.ownBlock = some k → q.av.ownBlock ≠ some k
  new : ∀ k, F k → w0.heap.size ≤ k
  bel : Below w0.heap.size w0 w
def RPool (w0 w : World) (F : Nat → Prop) (pb : Nat) (s : Po) : Prop := ∃ lv rs, RpIn w0 w F pb s lv rs
theorem OwnK.blk {w w' : World} {base : Nat} {v : Value} {qs : List (Pk × Value)} (h : OwnK w base v qs) (hb : ∀ k, v.ownBlock = some k → w'.heap[k]? = w.heap[k]?) : OwnK w' base v qs := by
  obtain ⟨h1, h2⟩ := h
  refine ⟨h1, ?_⟩
  rcases h2 with h2 | ⟨g, cap, cur, hv, hbg, hh, rest⟩
  · exact .inl h2
  · exact .inr ⟨g, cap, cur, hv, hbg, by rw [hb g (by rw [hv]; rfl)]; exact hh, rest⟩
section
variable {w0 w w' : World} {F G : Nat → Prop} {pb : Nat} {s : Po} {lv : Value} {rs : List Rh}
theorem RpIn.lt (h : RpIn w0 w F pb s lv rs) : pb < w.heap.size := heap_lt h.pool
theorem RpIn.keep (h : RpIn w0 w F pb s lv rs) (hk : ∀ k, F k → w'.heap[k]? = w.heap[k]?) (hb : Below w0.heap.size w0 w') : RpIn w0 w' F pb s lv rs :=
  ⟨(hk _ h.fpb).trans h.pool, h.row.blk (fun k e => hk k (h.frow k e).1), h.list, h.slv, h.name, fun r hr hx => ⟨(h.all r hr hx).1.blk (fun k e => hk k (h.fall r hr hx k e).1), (h.all r hr hx).2⟩, h.body, h.ok, h.times, h.fpb, h.frow, h.fall, h.apart, h.new, hb⟩
theorem RpIn.below (h : RpIn w0 w F pb s lv rs) (hF : ∀ k, F k → k < w.heap.size) (hb : Below w.heap.size w w') : RpIn w0 w' F pb s lv rs :=
  h.keep (fun k hk => hb.block k (hF k hk)) (h.bel.trans (hb.mono h.bel.size))
theorem RpIn.cells (h : RpIn w0 w F pb s lv rs) : w.cell? ⟨pb, 0, none⟩ = some (.int .i64 s.life) ∧ w.cell? ⟨pb, 1, none⟩ = some (.int .i64 s.now) ∧ w.cell? ⟨pb, 2, none⟩ = some lv ∧ w.frozen? ⟨pb, 1, none⟩ = false ∧ w.frozen? ⟨pb, 2, none⟩ = false := by
  refine ⟨?_, ?_, ?_, frozen_of_row w pb 1 _ _ h.pool, frozen_of_row w pb 2 _ _ h.pool⟩ <;> (rw [cell_of_row w pb _ _ _ _ h.pool]; rfl)
end
/-- A pool that is new. -/
theorem RPool.new (w0 w : World) (life : Int) (h1 : 1 ≤ life) (h2 : life ≤ 1000000) (hb : Below w0.heap.size w0 w) :
    RPool w0 (w.alloc (.cells #[.int .i64 life, .int .i64 0, .slice none 0 0] 33)) (fun k => k = w.heap.size) w.heap.size { life := life, now := 0, l := [] } :=
  ⟨_, [], ⟨heap_alloc_new w _, OwnH.nil _ _, rfl, fun r hr => (by cases hr), fun r hr => (by cases hr), fun r hr => (by cases hr), fun r hr => (by cases hr), ⟨fun x hx => (by cases hx), .nil, by simp⟩, ⟨⟨h1, h2⟩, ⟨by simp, by simp⟩, fun r hr => (by cases hr)⟩, rfl, fun k hk => (by cases hk), fun r hr => (by cases hr), .nil, fun k hk => (by subst hk; exact hb.size), hb.trans ((Below.refl _ _).alloc hb.size _)⟩⟩
end Go.Proofs.YtgodjaffmojhlaaDoor
