/- Spans ([2]int) that lie one behind the other in memory: any slice of them ('Spns'), and rows of the call's own ('OwnSp'): what append and a store leave of them. Conditions: lengths within what the model lets grow. -/
import Derived.Test.YtchailjgikjhlaaDoorSpanMath
import Derived.Test.YtchailjgikjhlaaDoorGrow
import Derived.Deep.AppendLies
import Derived.Deep.Upon
import Derived.Deep.QuietTactic
import Derived.BigQuiet
import Derived.Deep.RegionWith
import Derived.Deep.DeepCutAuto
namespace Go.Proofs.YtchailjgikjhlaaDoor
open Go.RowKit
set_option linter.unusedVariables false

def spCells (ps : List Sp) : List Value := ps.flatMap fun p => [.int .i64 p.1, .int .i64 p.2]
/-- The value v is a slice of the call's own, from block 'base' on, that holds the spans ps. -/
def OwnSp (w : World) (base : Nat) (v : Value) (ps : List Sp) : Prop := w.ownsRow base 34 2 v ps.length (spCells ps)
theorem spCells_append (a b : List Sp) : spCells (a ++ b) = spCells a ++ spCells b := by simp [spCells]
theorem spCells_len (ps : List Sp) : (spCells ps).length = ps.length * 2 := by
  induction ps with
  | nil => rfl
  | cons p r ih => simp only [spCells, List.flatMap_cons, List.length_append] at ih ⊢; simp at ih ⊢; omega
theorem spCells_one (ps : List Sp) : ∀ u ∈ spCells ps, u.oneCell' = true := by
  intro u hu
  obtain ⟨p, _, hp⟩ := List.mem_flatMap.1 hu
  rcases (by simpa using hp : u = .int .i64 p.1 ∨ u = .int .i64 p.2) with rfl | rfl <;> rfl
theorem spCells_get : ∀ (ps : List Sp) (i : Nat) (h : i < ps.length), (spCells ps)[i * 2]? = some (.int .i64 ps[i].1) ∧ (spCells ps)[i * 2 + 1]? = some (.int .i64 ps[i].2)
  | [], i, h => by simp at h
  | p :: r, 0, h => by simp [spCells]
  | p :: r, i + 1, h => by
      have ih := spCells_get r i (by simpa using h)
      have e : spCells (p :: r) = [.int .i64 p.1, .int .i64 p.2] ++ spCells r := by simp [spCells]
      rw [e]
      have e1 : (i + 1) * 2 = i * 2 + 2 := by omega
      rw [e1]
      simp only [List.getElem_cons_succ]
      refine ⟨?_, ?_⟩
      · rw [List.getElem?_append_right (by simp)]; simpa using ih.1
      · rw [show i * 2 + 2 + 1 = (i * 2 + 1) + 2 by omega, List.getElem?_append_right (by simp)]; simpa using ih.2
theorem Tryd.infoSp : (Tryd.prog.info? 34).map (fun i => (i.zero, i.size, i.bytes)) = some (some (.agg #[.int .i64 0, .int .i64 0]), 2, 16) := by kernel_rfl
theorem OwnSp.nil (w : World) (base : Nat) : OwnSp w base (.slice none 0 0) [] := World.ownsRow_nil _ _ _ _
theorem OwnSp.alloc {w : World} {base : Nat} {v : Value} {ps : List Sp} (h : OwnSp w base v ps) (o : Obj) : OwnSp (w.alloc o) base v ps := World.ownsRow.alloc h o
theorem OwnSp.drewN {w : World} {base : Nat} {v : Value} {ps : List Sp} (h : OwnSp w base v ps) (n : Nat) : OwnSp (w.drewN n) base v ps := h
theorem OwnSp.drew {w : World} {base : Nat} {v : Value} {ps : List Sp} (h : OwnSp w base v ps) : OwnSp w.drew base v ps := h
theorem OwnSp.block {w : World} {base : Nat} {v : Value} {ps : List Sp} (h : OwnSp w base v ps) : ∀ k, v.ownBlock = some k → base ≤ k ∧ k < w.heap.size := fun k hk => World.ownsRow.lt h k hk
theorem OwnSp.blk {w w' : World} {base : Nat} {v : Value} {ps : List Sp} (h : OwnSp w base v ps) (hb : ∀ k, v.ownBlock = some k → w'.heap[k]? = w.heap[k]?) : OwnSp w' base v ps := by
  obtain ⟨h1, h2⟩ := h
  refine ⟨h1, ?_⟩
  rcases h2 with h2 | ⟨g, cap, cur, hv, hbg, hh, rest⟩
  · exact .inl h2
  · refine .inr ⟨g, cap, cur, hv, hbg, ?_, rest⟩
    rw [hb g (by rw [hv]; rfl)]; exact hh
theorem OwnSp.below {w w' : World} {base : Nat} {v : Value} {ps : List Sp} (h : OwnSp w base v ps) (hb : Below w.heap.size w w') : OwnSp w' base v ps := h.blk (fun k hk => hb.block k (h.block k hk).2)
theorem OwnSp.base {w : World} {b b' : Nat} {v : Value} {ps : List Sp} (h : OwnSp w b v ps) (hb : b' ≤ b) : OwnSp w b' v ps := by
  obtain ⟨h1, h2⟩ := h
  refine ⟨h1, ?_⟩
  rcases h2 with h2 | ⟨g, cap, cur, hv, hbg, rest⟩
  · exact .inl h2
  · exact .inr ⟨g, cap, cur, hv, Nat.le_trans hb hbg, rest⟩
theorem OwnSp.shape {w : World} {base : Nat} {v : Value} {ps : List Sp} (h : OwnSp w base v ps) (hz : 0 < ps.length) :
    ∃ g cap, v = .slice (some ⟨g, 0, none⟩) ps.length cap ∧ base ≤ g ∧ g < w.heap.size ∧ ps.length ≤ cap ∧ cap ≤ maxLen := by
  obtain ⟨_, h2⟩ := h
  rcases h2 with ⟨_, h0⟩ | ⟨g, cap, cur, rfl, hb, hh, hl, hm, _, _⟩
  · omega
  · refine ⟨g, cap, rfl, hb, ?_, hl, hm⟩
    rcases Nat.lt_or_ge g w.heap.size with h1 | h1
    · exact h1
    · simp [Array.getElem?_eq_none h1] at hh
theorem OwnSp.len {w : World} {base : Nat} {v : Value} {ps : List Sp} (h : OwnSp w base v ps) : ∃ a c, v = .slice a ps.length c := by
  obtain ⟨_, h2⟩ := h
  rcases h2 with ⟨rfl, h0⟩ | ⟨g, cap, cur, rfl, _⟩
  · exact ⟨none, 0, by rw [h0]⟩
  · exact ⟨_, _, rfl⟩
def SpC (w : World) (b o : Nat) (p : Sp) : Prop := w.cell? ⟨b, o, none⟩ = some (.int .i64 p.1) ∧ w.cell? ⟨b, o + 1, none⟩ = some (.int .i64 p.2)
theorem OwnSp.cells {w : World} {base g n cap : Nat} {ps : List Sp} (h : OwnSp w base (.slice (some ⟨g, 0, none⟩) n cap) ps) (i : Nat) (hi : i < ps.length) : SpC w g (i * 2) ps[i] := by
  have hc := World.ownsRow.cells h (g := g) rfl
  obtain ⟨h0, h1⟩ := spCells_get ps i hi
  have add : ∀ j, Addr.add ⟨g, 0, none⟩ j = ⟨g, j, none⟩ := fun j => by by_cases hj : j = 0 <;> simp [Addr.add, hj]
  refine ⟨?_, ?_⟩
  · have := hc _ _ h0; rw [add] at this; exact this
  · have := hc _ _ h1; rw [add] at this; exact this
theorem SpC.keep {w w' : World} {b o : Nat} {p : Sp} (h : SpC w b o p) (hb : w'.heap[b]? = w.heap[b]?) : SpC w' b o p :=
  ⟨(World.cell?_of_block (w := w) (a := ⟨b, o, none⟩) hb).trans h.1, (World.cell?_of_block (w := w) (a := ⟨b, o + 1, none⟩) hb).trans h.2⟩
/-- The value v is a slice that holds the spans ps. -/
def Spns (w : World) (v : Value) (ps : List Sp) : Prop :=
  (ps = [] ∧ ∃ a cap, v = .slice a 0 cap) ∨
  ∃ b off len cap, v = .slice (some ⟨b, off, none⟩) len cap ∧ len ≤ cap ∧ cap ≤ maxLen ∧ ps.length = len ∧ b < w.heap.size ∧ ∀ i (h : i < ps.length), SpC w b (off + i * 2) ps[i]
theorem Spns.below {w w' : World} {v : Value} {ps : List Sp} (h : Spns w v ps) (hb : Below w.heap.size w w') : Spns w' v ps := by
  rcases h with h | ⟨b, off, len, cap, h1, h2, h3, h4, h5, h6⟩
  · exact .inl h
  · exact .inr ⟨b, off, len, cap, h1, h2, h3, h4, by have := hb.size; omega, fun i hi => (h6 i hi).keep (hb.block b h5)⟩
theorem Spns.belowB {w w' : World} {v : Value} {ps : List Sp} {B : Nat} (h : Spns w v ps) (hB : w.heap.size ≤ B) (hb : Below B w w') : Spns w' v ps := h.below (hb.mono hB)
theorem Spns.drewN {w : World} {v : Value} {ps : List Sp} (h : Spns w v ps) (n : Nat) : Spns (w.drewN n) v ps := h
theorem Spns.drew {w : World} {v : Value} {ps : List Sp} (h : Spns w v ps) : Spns w.drew v ps := h
theorem Spns.nil (w : World) (a : Option Addr) (c : Nat) : Spns w (.slice a 0 c) [] := .inl ⟨rfl, a, c, rfl⟩
theorem Spns.len {w : World} {v : Value} {ps : List Sp} (h : Spns w v ps) : ∃ a c, v = .slice a ps.length c := by
  rcases h with ⟨rfl, a, c, rfl⟩ | ⟨b, off, len, cap, rfl, _, _, rfl, _⟩
  · exact ⟨a, c, rfl⟩
  · exact ⟨_, _, rfl⟩
theorem Spns.shape {w : World} {a : Option Addr} {n c : Nat} {ps : List Sp} (h : Spns w (.slice a n c) ps) (hz : 0 < ps.length) : ∃ b off, a = some ⟨b, off, none⟩ ∧ b < w.heap.size ∧ n ≤ c ∧ c ≤ maxLen ∧ ∀ i (h : i < ps.length), SpC w b (off + i * 2) ps[i] := by
  rcases h with ⟨rfl, _⟩ | ⟨b, off, len, cap, h1, h2, h3, h4, h5, h6⟩
  · simp at hz
  · simp only [Value.slice.injEq] at h1
    obtain ⟨rfl, rfl, rfl⟩ := h1
    exact ⟨b, off, rfl, h5, h2, h3, h6⟩
theorem OwnSp.spns {w : World} {base : Nat} {v : Value} {ps : List Sp} (h : OwnSp w base v ps) : Spns w v ps := by
  rcases Nat.eq_zero_or_pos ps.length with h0 | h0
  · have hz : ps = [] := List.length_eq_zero_iff.1 h0
    subst hz
    obtain ⟨a, c, rfl⟩ := h.len
    exact .inl ⟨rfl, a, c, rfl⟩
  · obtain ⟨g, cap, rfl, _, h2, h3, h4⟩ := h.shape h0
    refine .inr ⟨g, 0, ps.length, cap, rfl, h3, h4, rfl, h2, fun i hi => ?_⟩
    rw [Nat.zero_add]; exact h.cells i hi
/-- 'append' of one span onto a row of the call's own. -/
theorem wpList_append_sp {w : World} {ops : Array Oper} {rest : List Oper} {o : Oper} {a : Act} {Q : Exit → Act → World → Prop} (hgd : o.guard = none) (s x : Operand)
    (ho : o.op = .call { callee := .builtin .append, args := #[s, x], argTypes := #[22, 22] })
    (base : Nat) (v : Value) (ps : List Sp) (hs : a.eval s = v) (hown : OwnSp w base v ps) (c d : Int) (hx : a.eval x = .slice (some ⟨w.heap.size, 0, none⟩) 1 1)
    (hlen : ps.length ≤ 1000000) (hbase : base ≤ w.heap.size)
    (h : ∀ g cap w', OwnSp w' base (.slice (some ⟨g, 0, none⟩) (ps.length + 1) cap) (ps ++ [(c, d)]) → (w.alloc (.cells #[.int .i64 c, .int .i64 d] 34)).grownBy w' v.ownBlock → (v.ownBlock = some g ∨ g = w.heap.size + 1) → wpList Tryd.prog ops Q rest (a.put o.dst (.slice (some ⟨g, 0, none⟩) (ps.length + 1) cap)) w') :
    wpList Tryd.prog ops Q (o :: rest) a (w.alloc (.cells #[.int .i64 c, .int .i64 d] 34)) := by
  obtain ⟨i0, hi, hz0, hz1, hz2⟩ := info_parts Tryd.infoSp
  refine wpList_append_lies _ hgd s x 22 ho base 34 i0 (.agg #[.int .i64 0, .int .i64 0]) 2 16 Tryd.underlying22 hi hz0 hz1 hz2 rfl (by decide) v ps.length (spCells ps) hs (OwnSp.alloc hown _) ⟨w.heap.size, 0, none⟩ 1 1 [.int .i64 c, .int .i64 d] hx rfl ?_ ?_ (by decide) (by unfold maxLen; omega) (by omega) (by simp; omega) (w.heap.size + 1) (by simp) ?_
  · intro j u hj
    match j, hj with
    | 0, hj => simp at hj; subst hj; simp [Addr.add]
    | 1, hj => simp at hj; subst hj; simp [Addr.add]
  · intro u hu
    rcases (by simpa using hu : u = .int .i64 c ∨ u = .int .i64 d) with rfl | rfl <;> rfl
  · intro g cap w' h1 h2 h3 _
    refine h g cap w' ?_ h2 h3
    unfold OwnSp
    rw [List.length_append, spCells_append]; exact h1
/-- 'append' of the spans of any slice onto a row of the call's own. -/
theorem wpList_append_spns {w : World} {ops : Array Oper} {rest : List Oper} {o : Oper} {a : Act} {Q : Exit → Act → World → Prop} (hgd : o.guard = none) (s x : Operand)
    (ho : o.op = .call { callee := .builtin .append, args := #[s, x], argTypes := #[22, 22] })
    (base : Nat) (v : Value) (ps : List Sp) (hs : a.eval s = v) (hown : OwnSp w base v ps) (vx : Value) (qs : List Sp) (hx : a.eval x = vx) (hsrc : Spns w vx qs)
    (hlen : ps.length + qs.length ≤ 1000000) (hbase : base ≤ w.heap.size)
    (h : ∀ v' w', OwnSp w' base v' (ps ++ qs) → w.grownBy w' v.ownBlock → (v'.ownBlock = v.ownBlock ∨ v'.ownBlock = some w.heap.size) → wpList Tryd.prog ops Q rest (a.put o.dst v') w') :
    wpList Tryd.prog ops Q (o :: rest) a w := by
  obtain ⟨i0, hi, hz0, hz1, hz2⟩ := info_parts Tryd.infoSp
  rcases hsrc with ⟨rfl, ax, cx, rfl⟩ | ⟨b, off, len, cap, rfl, h2, h3, h4, h5, h6⟩
  · refine wpList_plain hgd fun K hK => ?_
    obtain ⟨av, cv, hv, hle⟩ : ∃ av cv, v = .slice av ps.length cv ∧ ps.length ≤ cv := by
      rcases Nat.eq_zero_or_pos ps.length with h0 | h0
      · obtain ⟨av, cv, hv⟩ := hown.len
        exact ⟨av, cv, hv, by omega⟩
      · obtain ⟨g, cap, hv, _, _, h7, _⟩ := hown.shape h0
        exact ⟨_, cap, hv, h7⟩
    have hsr : Src Tryd.prog i0.size 22 (.slice ax 0 cx) 0 [] w := by
      rcases ax with _ | ax
      · exact Src.ofNil w Tryd.underlying22 cx
      · exact Src.ofSlice w Tryd.underlying22 ax 0 cx [] (by simp) (fun j u hj => by simp at hj) (fun u hu => by cases hu)
    have hr := run_append_nothing (P := Tryd.prog) w 22 22 o.type 34 i0 Tryd.underlying22 hi av ps.length cv hle _ hsr
    unfold Oper.wp execOp
    rw [hv] at hs
    simp only [ho, resolve, invoke, builtin, Sem.run_bind, Sem.run_pure, Result.andThen_ok, List.map_toArray, List.map_cons, List.map_nil, hs, hx, hr]
    rw [← hv]
    exact hK _ _ (h v w (by rw [List.append_nil]; exact hown) (World.grownBy.refl _ _) (.inl rfl))
  · refine wpList_append_at hgd s x 22 ho base 34 i0 (.agg #[.int .i64 0, .int .i64 0]) 2 16 Tryd.underlying22 hi hz0 hz1 hz2 rfl (by decide) v ps.length (spCells ps) hs hown ⟨b, off, none⟩ qs.length cap (spCells qs) (by rw [hx, h4]) (spCells_len qs) ?_ (spCells_one qs) (by unfold maxLen; omega) (by omega) hbase ?_
    · intro j u hj
      have hjl : j < qs.length * 2 := by
        rcases Nat.lt_or_ge j (qs.length * 2) with h7 | h7
        · exact h7
        · rw [List.getElem?_eq_none (by rw [spCells_len]; exact h7)] at hj; cases hj
      have hi' : j / 2 < qs.length := by omega
      obtain ⟨k0, k1⟩ := spCells_get qs (j / 2) hi'
      obtain ⟨c0, c1⟩ := h6 (j / 2) hi'
      have add : Addr.add ⟨b, off, none⟩ j = ⟨b, off + j, none⟩ := by by_cases hj : j = 0 <;> simp [Addr.add, hj]
      rw [add]
      rcases (by omega : j % 2 = 0 ∨ j % 2 = 1) with h7 | h7
      · rw [show j / 2 * 2 = j by omega] at k0 c0
        rw [k0] at hj; rw [← hj]; exact c0
      · rw [show j / 2 * 2 + 1 = j by omega] at k1
        rw [show off + j / 2 * 2 + 1 = off + j by omega] at c1
        rw [k1] at hj; rw [← hj]; exact c1
    · intro v' w' h1 h2 h3
      refine h v' w' ?_ h2 h3
      unfold OwnSp
      rw [List.length_append, spCells_append]; exact h1
theorem spCells_set (R : List Sp) (a b c : Int) : (spCells (R ++ [(a, b)])).set (R.length * 2 + 1) (.int .i64 c) = spCells (R ++ [(a, c)]) := by
  rw [spCells_append, spCells_append]
  have h := spCells_len R
  rw [List.set_append_right _ _ (by omega)]
  have e : R.length * 2 + 1 - (spCells R).length = 1 := by omega
  rw [e]; rfl
theorem OwnSp.set {w : World} {base g cap n : Nat} {R : List Sp} {a b : Int} (h : OwnSp w base (.slice (some ⟨g, 0, none⟩) n cap) (R ++ [(a, b)])) (hn : n = (R ++ [(a, b)]).length) (c : Int) :
    OwnSp (w.setCell ⟨g, R.length * 2 + 1, none⟩ (.int .i64 c)) base (.slice (some ⟨g, 0, none⟩) n cap) (R ++ [(a, c)]) := by
  subst hn
  have := (World.ownsRow.stored h (R.length * 2 + 1) (.int .i64 c)).1
  rw [spCells_set] at this
  unfold OwnSp
  have e : (R ++ [(a, c)]).length = (R ++ [(a, b)]).length := by simp
  rw [e]; exact this
/-- What turns a row of the call's own leaves what lies below its base. -/
theorem grown_below {w w' : World} {B : Nat} {o : Option Nat} (h : w.grownBy w' o) (hB : B ≤ w.heap.size) (ho : ∀ k, o = some k → B ≤ k) : Below B w w' :=
  ⟨h.os, h.tape, h.output, h.size, fun k hk => h.block k (by omega) (fun e => by have := ho k e.symm; omega)⟩
end Go.Proofs.YtchailjgikjhlaaDoor
