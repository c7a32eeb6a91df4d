/- Rows of bytes that a call itself makes: what is appended to them, read of them and stored into them, and what stays of bytes that came in. Conditions: lengths within what the model lets grow. -/
import Derived.Test.YtiigoeecklelpaaDoorSums
import Derived.Laws.AppendOwnNone
import Derived.Laws.OwnMore
import Derived.OneCell
import Derived.Below
import Derived.WalkSmall
namespace Go.Proofs.YtiigoeecklelpaaDoor
open Go.RowKit
set_option linter.unusedVariables false

/-- The value v is a slice of the call's own, from block 'base' on, that holds the bytes zs. -/
def OwnB (w : World) (base : Nat) (v : Value) (zs : List Int) : Prop :=
  w.ownsRow base 5 1 v zs.length (zs.map (Value.int .u8)) ∧ ∀ x ∈ zs, 0 ≤ x ∧ x ≤ 255

theorem Tryd.infoU8 : (Tryd.prog.info? 5).map (fun i => (i.zero, i.size, i.bytes)) = some (some (.int .u8 0), 1, 1) := by kernel_rfl

theorem OwnB.nil (w : World) (base : Nat) : OwnB w base (.slice none 0 0) [] := ⟨World.ownsRow_nil _ _ _ _, fun x hx => by cases hx⟩
theorem OwnB.alloc {w : World} {base : Nat} {v : Value} {zs : List Int} (h : OwnB w base v zs) (o : Obj) : OwnB (w.alloc o) base v zs := ⟨h.1.alloc o, h.2⟩
theorem ownsRow_drewN {w : World} {base : Nat} {e : TypeId} {size : Nat} {v : Value} {n : Nat} {xs : List Value} (h : w.ownsRow base e size v n xs) (k : Nat) : (w.drewN k).ownsRow base e size v n xs := by
  obtain ⟨h1, h2⟩ := h
  exact ⟨h1, h2⟩
theorem OwnB.drewN {w : World} {base : Nat} {v : Value} {zs : List Int} (h : OwnB w base v zs) (n : Nat) : OwnB (w.drewN n) base v zs := ⟨ownsRow_drewN h.1 n, h.2⟩

theorem OwnB.shape {w : World} {base : Nat} {v : Value} {zs : List Int} (h : OwnB w base v zs) (hz : 0 < zs.length) :
    ∃ g cap, v = .slice (some ⟨g, 0, none⟩) zs.length cap ∧ base ≤ g ∧ g < w.heap.size ∧ zs.length ≤ cap ∧ cap ≤ maxLen := by
  obtain ⟨⟨_, h2⟩, _⟩ := h
  rcases h2 with ⟨_, h0⟩ | ⟨g, cap, cur, rfl, hb, hh, hl, hm, _, _⟩
  · omega
  · refine ⟨g, cap, rfl, hb, ?_, hl, hm⟩
    rcases Nat.lt_or_ge g w.heap.size with h1 | h1
    · exact h1
    · simp [Array.getElem?_eq_none h1] at hh

theorem OwnB.bytes {w : World} {base : Nat} {v : Value} {zs : List Int} (h : OwnB w base v zs) (hs : zs.length < 2 ^ 62) : Bytes w v zs := by
  rcases Nat.eq_zero_or_pos zs.length with h0 | h0
  · have hz : zs = [] := List.length_eq_zero_iff.1 h0
    subst hz
    obtain ⟨⟨_, h2⟩, _⟩ := h
    rcases h2 with ⟨rfl, _⟩ | ⟨g, cap, cur, rfl, _⟩
    · exact .inl ⟨rfl, _, _, rfl, fun _ => rfl⟩
    · exact .inl ⟨rfl, _, _, rfl, fun h => by cases h⟩
  · obtain ⟨g, cap, rfl, hb, hg, hl, hm⟩ := h.shape h0
    refine .inr ⟨g, 0, zs.length, cap, rfl, hl, hm, hs, rfl, fun i hi => ?_, h.2⟩
    have e := h.1.cellAt i (by omega)
    rw [Nat.zero_add, e]
    simp [List.getD, hi]

theorem OwnB.cell {w : World} {base g cap n : Nat} {zs : List Int} (h : OwnB w base (.slice (some ⟨g, 0, none⟩) n cap) zs) (hn : n = zs.length) (j : Nat) (hj : j < zs.length) :
    w.cell? ⟨g, j, none⟩ = some (.int .u8 (zs.getD j 0)) := by
  subst hn
  rw [h.1.cellAt j (by omega)]
  simp [List.getD, hj]
theorem OwnB.free {w : World} {base g cap n : Nat} {zs : List Int} (h : OwnB w base (.slice (some ⟨g, 0, none⟩) n cap) zs) (hn : n = zs.length) (j : Nat) :
    w.frozen? ⟨g, j, none⟩ = false := by
  subst hn; exact h.1.frozenAt j
theorem OwnB.store {w : World} {base g cap n : Nat} {zs : List Int} (h : OwnB w base (.slice (some ⟨g, 0, none⟩) n cap) zs) (hn : n = zs.length) (j : Nat) (u : Int) (h0 : 0 ≤ u) (h1 : u ≤ 255) :
    OwnB (w.setCell ⟨g, j, none⟩ (.int .u8 u)) base (.slice (some ⟨g, 0, none⟩) n cap) (zs.set j u) := by
  subst hn
  have e := (h.1.stored j (.int .u8 u)).1
  refine ⟨?_, ?_⟩
  · rw [List.map_set, List.length_set]; exact e
  · intro x hx
    rcases List.mem_or_eq_of_mem_set hx with h' | rfl
    · exact h.2 x h'
    · exact ⟨h0, h1⟩
theorem OwnB.other {w : World} {base g g' cap n off : Nat} {zs : List Int} (h : OwnB w base (.slice (some ⟨g, 0, none⟩) n cap) zs) (hne : g ≠ g') (u : Value) :
    OwnB (w.setCell ⟨g', off, none⟩ u) base (.slice (some ⟨g, 0, none⟩) n cap) zs :=
  ⟨ownsRow_setCell_other h.1 (by simp [Value.ownBlock]; exact hne) u, h.2⟩

theorem Bytes.below {w w' : World} {v : Value} {zs : List Int} {B : Nat} (h : Bytes w v zs) (hB : w.heap.size ≤ B) (hb : Below B w w') : Bytes w' v zs := by
  rcases h with h | ⟨b, off, len, cap, h1, h2, h3, h4, h5, h6⟩
  · exact .inl h
  · refine .inr ⟨b, off, len, cap, h1, h2, h3, h4, h5, fun i hi => ?_, h6.2⟩
    have hc := h6.1 i hi
    have hlt : b < w.heap.size := by
      rcases Nat.lt_or_ge b w.heap.size with h | h
      · exact h
      · simp [World.cell?, Array.getElem?_eq_none h] at hc
    rw [hb.cell (p := ⟨b, off + i, none⟩) (Nat.lt_of_lt_of_le hlt hB)]
    exact hc

theorem Bytes.alloc {w : World} {v : Value} {zs : List Int} (h : Bytes w v zs) (o : Obj) : Bytes (w.alloc o) v zs := h.below (Nat.le_refl _) ((Below.refl _ _).alloc (Nat.le_refl _) _)
theorem OwnB.kept {w w' : World} {base : Nat} {v : Value} {zs : List Int} {row : Option Nat} (h : OwnB w base v zs) (hg : w.grownBy w' row) (hne : v.ownBlock ≠ row) : OwnB w' base v zs :=
  ⟨h.1.kept hg (.inr hne), h.2⟩
theorem OwnB.lt {w : World} {base g n cap : Nat} {zs : List Int} (h : OwnB w base (.slice (some ⟨g, 0, none⟩) n cap) zs) : base ≤ g ∧ g < w.heap.size := h.1.lt g rfl
/-- A store into one of two rows of the call's own. -/
theorem step_store {w wy : World} {B By g gy len cap ny capy : Nat} {xs ys : List Int} (oy : OwnB wy By (.slice (some ⟨gy, 0, none⟩) ny capy) ys) (hn : ny = ys.length)
    (ox : OwnB wy B (.slice (some ⟨g, 0, none⟩) len cap) xs) (hne : g ≠ gy) (be : Below B w wy) (hB : B ≤ gy) (j : Nat) (u : Int) (h0 : 0 ≤ u) (h1 : u ≤ 255) :
    ∃ w', wy.setCell ⟨gy, j, none⟩ (.int .u8 u) = w' ∧ OwnB w' By (.slice (some ⟨gy, 0, none⟩) ny capy) (ys.set j u) ∧ OwnB w' B (.slice (some ⟨g, 0, none⟩) len cap) xs ∧ Below B w w' :=
  ⟨_, rfl, oy.store hn j u h0 h1, ox.other hne _, be.setCell hB _⟩

/-- The same world, but for what was drawn. -/
def Same (w w' : World) : Prop := ∃ n, w' = w.drewN n
theorem OwnB.same {w w' : World} {base : Nat} {v : Value} {zs : List Int} (h : OwnB w base v zs) (hs : Same w w') : OwnB w' base v zs := by
  obtain ⟨n, rfl⟩ := hs; exact h.drewN n
theorem Bytes.same {w w' : World} {v : Value} {zs : List Int} (h : Bytes w v zs) (hs : Same w w') : Bytes w' v zs := by
  obtain ⟨n, rfl⟩ := hs; exact h.drewN n
theorem below_same {B : Nat} {w w' w'' : World} (h : Below B w w') (hs : Same w' w'') : Below B w w'' := by
  obtain ⟨n, rfl⟩ := hs; exact below_drewN h n
theorem sum_same {w : World} {v : Value} {zs : List Int} (h : Bytes w v zs) :
    Calls Tryd.prog 60 #[v] w fun e w' => e = .returned (.int .i64 (65535 - tot 0 zs)) ∧ Same w w' := sum_bytes h
/-- 'append' of bytes onto a row of the call's own. -/
theorem wpList_append_bytes {w : World} {ops : Array Oper} {rest : List Oper} {o : Oper} {a : Act} {Q : Exit → Act → World → Prop} (hgd : o.guard = none) (s x : Operand)
    (ho : o.op = .call { callee := .builtin .append, args := #[s, x], argTypes := #[24, 24] })
    (base : Nat) (v : Value) (zs : List Int) (hs : a.eval s = v) (hown : OwnB w base v zs) (vx : Value) (bs : List Int) (hx : a.eval x = vx) (hb : Bytes w vx bs)
    (hbytes : zs.length + bs.length ≤ 140737488355328) (hbase : base ≤ w.heap.size)
    (h : ∀ v' w', OwnB w' base v' (zs ++ bs) → w.grownBy w' v.ownBlock → wpList Tryd.prog ops Q rest (a.put o.dst v') w') : wpList Tryd.prog ops Q (o :: rest) a w := by
  obtain ⟨i0, hi, hz0, hz1, hz2⟩ := info_parts Tryd.infoU8
  have hmax : zs.length + bs.length ≤ maxLen := by unfold maxLen; omega
  have step : ∀ (ad : Addr) (m c : Nat), a.eval x = .slice (some ad) m c → m = bs.length → (∀ j u, (bs.map (Value.int .u8))[j]? = some u → w.cell? (ad.add j) = some u) → (∀ y ∈ bs, 0 ≤ y ∧ y ≤ 255) → wpList Tryd.prog ops Q (o :: rest) a w := by
    intro ad m c hx' hm hc hby
    subst hm
    refine wpList_append_own _ hgd s x 24 ho base 5 i0 (.int .u8 0) 1 1 Tryd.underlying24 hi hz0 hz1 hz2 rfl (by decide) v zs.length (zs.map (Value.int .u8)) hs hown.1 ad bs.length c (bs.map (Value.int .u8)) hx' (by simp) hc ?_ hmax (by omega) hbase ?_
    · intro u hu
      obtain ⟨y, _, rfl⟩ := List.mem_map.1 hu
      rfl
    · intro v' w' h1 h2 _
      refine h v' w' ⟨?_, ?_⟩ h2
      · rw [List.length_append, List.map_append]; exact h1
      · intro y hy
        rcases List.mem_append.1 hy with h' | h'
        · exact hown.2 y h'
        · exact hby y h'
  rcases hb with ⟨rfl, ad, cap, rfl, hn⟩ | ⟨b, off, len, cap, rfl, h2, h3, h4, h5, h6⟩
  · rcases ad with _ | ad
    · obtain rfl := hn rfl
      refine wpList_append_own_none hgd s x 24 ho base 5 i0 1 Tryd.underlying24 hi v zs.length (zs.map (Value.int .u8)) hs hown.1 hx ?_
      refine h v w (by simpa using hown) ⟨rfl, rfl, rfl, Nat.le_refl _, fun _ _ _ => rfl⟩
    · exact step ad 0 cap hx rfl (fun j u hj => by simp at hj) (fun y hy => by cases hy)
  · refine step ⟨b, off, none⟩ len cap hx h5.symm ?_ h6.2
    intro j u hj
    obtain ⟨y, hy, rfl⟩ := by simpa using hj
    have hj' : j < bs.length := by
      rcases Nat.lt_or_ge j bs.length with h | h
      · exact h
      · simp [List.getElem?_eq_none h] at hy
    have ea : Addr.add ⟨b, off, none⟩ j = ⟨b, off + j, none⟩ := by by_cases hi0 : j = 0 <;> simp [Addr.add, hi0]
    rw [ea, h6.1 j hj']
    simp [List.getD, hy]
end Go.Proofs.YtiigoeecklelpaaDoor
