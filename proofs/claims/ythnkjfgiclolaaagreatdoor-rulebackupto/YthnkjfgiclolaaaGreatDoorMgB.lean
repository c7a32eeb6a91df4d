/- Spans ([2]int) that lie one behind the other in memory: any slice of them ('Spns'), and rows of the call's own ('OwnSp'): what append and a store leave of them. Conditions: lengths within what the model lets grow. -/
import Derived.Test.YthnkjfgiclolaaaGreatDoorMgA
import Derived.Deep.AppendLies
import Derived.Deep.Upon
import Derived.Deep.QuietTactic
import Derived.BigQuiet
import Derived.Deep.RegionWith
import Derived.Deep.DeepCutAuto
namespace Go.Proofs.YthnkjfgiclolaaaGreatDoor
open Go.RowKit
set_option linter.unusedVariables false

def spCells (ps : List Sp) : List Value := ps.flatMap fun p => [.int .i64 p.1, .int .i64 p.2]
/-- The value v is a slice of the call's own, from block 'base' on, that holds the spans ps. -/
def OwnSp (w : World) (base : Nat) (v : Value) (ps : List Sp) : Prop := w.ownsRow base 42 2 v ps.length (spCells ps)
theorem spCells_append (a b : List Sp) : spCells (a ++ b) = spCells a ++ spCells b := by simp [spCells]
theorem spCells_len (ps : List Sp) : (spCells ps).length = ps.length * 2 := by
  induction ps with
  | nil => rfl
  | cons p r ih => simp only [spCells, List.flatMap_cons, List.length_append] at ih ⊢; simp at ih ⊢; omega
theorem spCells_one (ps : List Sp) : ∀ u ∈ spCells ps, u.oneCell' = true := by
  intro u hu
  obtain ⟨p, _, hp⟩ := List.mem_flatMap.1 hu
  rcases (by simpa using hp : u = .int .i64 p.1 ∨ u = .int .i64 p.2) with rfl | rfl <;> rfl
theorem spCells_get : ∀ (ps : List Sp) (i : Nat) (h : i < ps.length), (spCells ps)[i * 2]? = some (.int .i64 ps[i].1) ∧ (spCells ps)[i * 2 + 1]? = some (.int .i64 ps[i].2)
  | [], i, h => by simp at h
  | p :: r, 0, h => by simp [spCells]
  | p :: r, i + 1, h => by
      have ih := spCells_get r i (by simpa using h)
      have e : spCells (p :: r) = [.int .i64 p.1, .int .i64 p.2] ++ spCells r := by simp [spCells]
      rw [e]
      have e1 : (i + 1) * 2 = i * 2 + 2 := by omega
      rw [e1]
      simp only [List.getElem_cons_succ]
      refine ⟨?_, ?_⟩
      · rw [List.getElem?_append_right (by simp)]; simpa using ih.1
      · rw [show i * 2 + 2 + 1 = (i * 2 + 1) + 2 by omega, List.getElem?_append_right (by simp)]; simpa using ih.2
theorem Tryz.infoSp : (Tryz.prog.info? 42).map (fun i => (i.zero, i.size, i.bytes)) = some (some (.agg #[.int .i64 0, .int .i64 0]), 2, 16) := by kernel_rfl
theorem OwnSp.nil (w : World) (base : Nat) : OwnSp w base (.slice none 0 0) [] := World.ownsRow_nil _ _ _ _
theorem OwnSp.alloc {w : World} {base : Nat} {v : Value} {ps : List Sp} (h : OwnSp w base v ps) (o : Obj) : OwnSp (w.alloc o) base v ps := World.ownsRow.alloc h o
theorem OwnSp.drewN {w : World} {base : Nat} {v : Value} {ps : List Sp} (h : OwnSp w base v ps) (n : Nat) : OwnSp (w.drewN n) base v ps := h
theorem OwnSp.drew {w : World} {base : Nat} {v : Value} {ps : List Sp} (h : OwnSp w base v ps) : OwnSp w.drew base v ps := h
theorem OwnSp.block {w : World} {base : Nat} {v : Value} {ps : List Sp} (h : OwnSp w base v ps) : ∀ k, v.ownBlock = some k → base ≤ k ∧ k < w.heap.size := fun k hk => World.ownsRow.lt h k hk
theorem OwnSp.blk {w w' : World} {base : Nat} {v : Value} {ps : List Sp} (h : OwnSp w base v ps) (hb : ∀ k, v.ownBlock = some k → w'.heap[k]? = w.heap[k]?) : OwnSp w' base v ps := by
  obtain ⟨h1, h2⟩ := h
  refine ⟨h1, ?_⟩
  rcases h2 with h2 | ⟨g, cap, cur, hv, hbg, hh, rest⟩
  · exact .inl h2
  · refine .inr ⟨g, cap, cur, hv, hbg, ?_, rest⟩
    rw [hb g (by rw [hv]; rfl)]; exact hh
theorem OwnSp.below {w w' : World} {base : Nat} {v : Value} {ps : List Sp} (h : OwnSp w base v ps) (hb : Below w.heap.size w w') : OwnSp w' base v ps := h.blk (fun k hk => hb.block k (h.block k hk).2)
theorem OwnSp.base {w : World} {b b' : Nat} {v : Value} {ps : List Sp} (h : OwnSp w b v ps) (hb : b' ≤ b) : OwnSp w b' v ps := by
  obtain ⟨h1, h2⟩ := h
  refine ⟨h1, ?_⟩
  rcases h2 with h2 | ⟨g, cap, cur, hv, hbg, rest⟩
  · exact .inl h2
  · exact .inr ⟨g, cap, cur, hv, Nat.le_trans hb hbg, rest⟩
theorem OwnSp.shape {w : World} {base : Nat} {v : Value} {ps : List Sp} (h : OwnSp w base v ps) (hz : 0 < ps.length) :
    ∃ g cap, v = .slice (some ⟨g, 0, none⟩) ps.length cap ∧ base ≤ g ∧ g < w.heap.size ∧ ps.length ≤ cap ∧ cap ≤ maxLen := by
  obtain ⟨_, h2⟩ := h
  rcases h2 with ⟨_, h0⟩ | ⟨g, cap, cur, rfl, hb, hh, hl, hm, _, _⟩
  · omega
  · refine ⟨g, cap, rfl, hb, ?_, hl, hm⟩
    rcases Nat.lt_or_ge g w.heap.size with h1 | h1
    · exact h1
    · simp [Array.getElem?_eq_none h1] at hh
theorem OwnSp.len {w : World} {base : Nat} {v : Value} {ps : List Sp} (h : OwnSp w base v ps) : ∃ a c, v = .slice a ps.length c := by
  obtain ⟨_, h2⟩ := h
  rcases h2 with ⟨rfl, h0⟩ | ⟨g, cap, cur, rfl, _⟩
  · exact ⟨none, 0, by rw [h0]⟩
  · exact ⟨_, _, rfl⟩
def SpC (w : World) (b o : Nat) (p : Sp) : Prop := w.cell? ⟨b, o, none⟩ = some (.int .i64 p.1) ∧ w.cell? ⟨b, o + 1, none⟩ = some (.int .i64 p.2)
theorem OwnSp.cells {w : World} {base g n cap : Nat} {ps : List Sp} (h : OwnSp w base (.slice (some ⟨g, 0, none⟩) n cap) ps) (i : Nat) (hi : i < ps.length) : SpC w g (i * 2) ps[i] := by
  have hc := World.ownsRow.cells h (g := g) rfl
  obtain ⟨h0, h1⟩ := spCells_get ps i hi
  have add : ∀ j, Addr.add ⟨g, 0, none⟩ j = ⟨g, j, none⟩ := fun j => by by_cases hj : j = 0 <;> simp [Addr.add, hj]
  refine ⟨?_, ?_⟩
  · have := hc _ _ h0; rw [add] at this; exact this
  · have := hc _ _ h1; rw [add] at this; exact this
theorem SpC.keep {w w' : World} {b o : Nat} {p : Sp} (h : SpC w b o p) (hb : w'.heap[b]? = w.heap[b]?) : SpC w' b o p :=
  ⟨(World.cell?_of_block (w := w) (a := ⟨b, o, none⟩) hb).trans h.1, (World.cell?_of_block (w := w) (a := ⟨b, o + 1, none⟩) hb).trans h.2⟩
/-- The value v is a slice that holds the spans ps. -/
def Spns (w : World) (v : Value) (ps : List Sp) : Prop :=
  (ps = [] ∧ ∃ a cap, v = .slice a 0 cap) ∨
  ∃ b off len cap, v = .slice (some ⟨b, off, none⟩) len cap ∧ len ≤ cap ∧ cap ≤ maxLen ∧ ps.length = len ∧ b < w.heap.size ∧ ∀ i (h : i < ps.length), SpC w b (off + i * 2) ps[i]
theorem Spns.below {w w' : World} {v : Value} {ps : List Sp} (h : Spns w v ps) (hb : Below w.heap.size w w') : Spns w' v ps := by
  rcases h with h | ⟨b, off, len, cap, h1, h2, h3, h4, h5, h6⟩
  · exact .inl h
  · exact .inr ⟨b, off, len, cap, h1, h2, h3, h4, by have := hb.size; omega, fun i hi => (h6 i hi).keep (hb.block b h5)⟩
theorem Spns.belowB {w w' : World} {v : Value} {ps : List Sp} {B : Nat} (h : Spns w v ps) (hB : w.heap.size ≤ B) (hb : Below B w w') : Spns w' v ps := h.below (hb.mono hB)
theorem Spns.drewN {w : World} {v : Value} {ps : List Sp} (h : Spns w v ps) (n : Nat) : Spns (w.drewN n) v ps := h
theorem Spns.drew {w : World} {v : Value} {ps : List Sp} (h : Spns w v ps) : Spns w.drew v ps := h
theorem Spns.nil (w : World) (a : Option Addr) (c : Nat) : Spns w (.slice a 0 c) [] := .inl ⟨rfl, a, c, rfl⟩
theorem Spns.len {w : World} {v : Value} {ps : List Sp} (h : Spns w v ps) : ∃ a c, v = .slice a ps.length c := by
  rcases h with ⟨rfl, a, c, rfl⟩ | ⟨b, off, len, cap, rfl, _, _, rfl, _⟩
  · exact ⟨a, c, rfl⟩
  · exact ⟨_, _, rfl⟩
theorem Spns.shape {w : World} {a : Option Addr} {n c : Nat} {ps : List Sp} (h : Spns w (.slice a n c) ps) (hz : 0 < ps.length) : ∃ b off, a = some ⟨b, off, none⟩ ∧ b < w.heap.size ∧ n ≤ c ∧ c ≤ maxLen ∧ ∀ i (h : i < ps.length), SpC w b (off + i * 2) ps[i] := by
  rcases h with ⟨rfl, _⟩ | ⟨b, off, len, cap, h1, h2, h3, h4, h5, h6⟩
  · simp at hz
  · simp only [Value.slice.injEq] at h1
    obtain ⟨rfl, rfl, rfl⟩ := h1
    exact ⟨b, off, rfl, h5, h2, h3, h6⟩
theorem OwnSp.spns {w : World} {base : Nat} {v : Value} {ps : List Sp} (h : OwnSp w base v ps) : Spns w v ps := by
  rcases Nat.eq_zero_or_pos ps.length with h0 | h0
  · have hz : ps = [] := List.length_eq_zero_iff.1 h0
    subst hz
    obtain ⟨a, c, rfl⟩ := h.len
    exact .inl ⟨rfl, a, c, rfl⟩
  · obtain ⟨g, cap, rfl, _, h2, h3, h4⟩ := h.shape h0
    refine .inr ⟨g, 0, ps.length, cap, rfl, h3, h4, rfl, h2, fun i hi => ?_⟩
    rw [Nat.zero_add]; exact h.cells i hi
/-- 'append' of one span onto a row of the call's own. -/
theorem wpList_append_sp {w : World} {ops : Array Oper} {rest : List Oper} {o : Oper} {a : Act} {Q : Exit → Act → World → Prop} (hgd : o.guard = none) (s x : Operand)
    (ho : o.op = .call { callee := .builtin .append, args := #[s, x], argTypes := #[31, 31] })
    (base : Nat) (v : Value) (ps : List Sp) (hs : a.eval s = v) (hown : OwnSp w base v ps) (c d : Int) (hx : a.eval x = .slice (some ⟨w.heap.size, 0, none⟩) 1 1)
    (hlen : ps.length ≤ 1000000) (hbase : base ≤ w.heap.size)
    (h : ∀ g cap w', OwnSp w' base (.slice (some ⟨g, 0, none⟩) (ps.length + 1) cap) (ps ++ [(c, d)]) → (w.alloc (.cells #[.int .i64 c, .int .i64 d] 42)).grownBy w' v.ownBlock → (v.ownBlock = some g ∨ g = w.heap.size + 1) → wpList Tryz.prog ops Q rest (a.put o.dst (.slice (some ⟨g, 0, none⟩) (ps.length + 1) cap)) w') :
    wpList Tryz.prog ops Q (o :: rest) a (w.alloc (.cells #[.int .i64 c, .int .i64 d] 42)) := by
  obtain ⟨i0, hi, hz0, hz1, hz2⟩ := info_parts Tryz.infoSp
  refine wpList_append_lies _ hgd s x 31 ho base 42 i0 (.agg #[.int .i64 0, .int .i64 0]) 2 16 Tryz.underlying31 hi hz0 hz1 hz2 rfl (by decide) v ps.length (spCells ps) hs (OwnSp.alloc hown _) ⟨w.heap.size, 0, none⟩ 1 1 [.int .i64 c, .int .i64 d] hx rfl ?_ ?_ (by decide) (by unfold maxLen; omega) (by omega) (by simp; omega) (w.heap.size + 1) (by simp) ?_
  · intro j u hj
    match j, hj with
    | 0, hj => simp at hj; subst hj; simp [Addr.add]
    | 1, hj => simp at hj; subst hj; simp [Addr.add]
  · intro u hu
    rcases (by simpa using hu : u = .int .i64 c ∨ u = .int .i64 d) with rfl | rfl <;> rfl
  · intro g cap w' h1 h2 h3 _
    refine h g cap w' ?_ h2 h3
    unfold OwnSp
    rw [List.length_append, spCells_append]; exact h1
/-- 'append' of the spans of any slice onto a row of the call's own. -/
theorem wpList_append_spns {w : World} {ops : Array Oper} {rest : List Oper} {o : Oper} {a : Act} {Q : Exit → Act → World → Prop} (hgd : o.guard = none) (s x : Operand)
    (ho : o.op = .call { callee := .builtin .append, args := #[s, x], argTypes := #[31, 31] })
    (base : Nat) (v : Value) (ps : List Sp) (hs : a.eval s = v) (hown : OwnSp w base v ps) (vx : Value) (qs : List Sp) (hx : a.eval x = vx) (hsrc : Spns w vx qs)
    (hlen : ps.length + qs.length ≤ 1000000) (hbase : base ≤ w.heap.size)
    (h : ∀ v' w', OwnSp w' base v' (ps ++ qs) → w.grownBy w' v.ownBlock → (v'.ownBlock = v.ownBlock ∨ v'.ownBlock = some w.heap.size) → wpList Tryz.prog ops Q rest (a.put o.dst v') w') :
    wpList Tryz.prog ops Q (o :: rest) a w := by
  obtain ⟨i0, hi, hz0, hz1, hz2⟩ := info_parts Tryz.infoSp
  rcases hsrc with ⟨rfl, ax, cx, rfl⟩ | ⟨b, off, len, cap, rfl, h2, h3, h4, h5, h6⟩
  · refine wpList_plain hgd fun K hK => ?_
    obtain ⟨av, cv, hv, hle⟩ : ∃ av cv, v = .slice av ps.length cv ∧ ps.length ≤ cv := by
      rcases Nat.eq_zero_or_pos ps.length with h0 | h0
      · obtain ⟨av, cv, hv⟩ := hown.len
        exact ⟨av, cv, hv, by omega⟩
      · obtain ⟨g, cap, hv, _, _, h7, _⟩ := hown.shape h0
        exact ⟨_, cap, hv, h7⟩
    have hsr : Src Tryz.prog i0.size 31 (.slice ax 0 cx) 0 [] w := by
      rcases ax with _ | ax
      · exact Src.ofNil w Tryz.underlying31 cx
      · exact Src.ofSlice w Tryz.underlying31 ax 0 cx [] (by simp) (fun j u hj => by simp at hj) (fun u hu => by cases hu)
    have hr := run_append_nothing (P := Tryz.prog) w 31 31 o.type 42 i0 Tryz.underlying31 hi av ps.length cv hle _ hsr
    unfold Oper.wp execOp
    rw [hv] at hs
    simp only [ho, resolve, invoke, builtin, Sem.run_bind, Sem.run_pure, Result.andThen_ok, List.map_toArray, List.map_cons, List.map_nil, hs, hx, hr]
    rw [← hv]
    exact hK _ _ (h v w (by rw [List.append_nil]; exact hown) (World.grownBy.refl _ _) (.inl rfl))
  · refine wpList_append_at hgd s x 31 ho base 42 i0 (.agg #[.int .i64 0, .int .i64 0]) 2 16 Tryz.underlying31 hi hz0 hz1 hz2 rfl (by decide) v ps.length (spCells ps) hs hown ⟨b, off, none⟩ qs.length cap (spCells qs) (by rw [hx, h4]) (spCells_len qs) ?_ (spCells_one qs) (by unfold maxLen; omega) (by omega) hbase ?_
    · intro j u hj
      have hjl : j < qs.length * 2 := by
        rcases Nat.lt_or_ge j (qs.length * 2) with h7 | h7
        · exact h7
        · rw [List.getElem?_eq_none (by rw [spCells_len]; exact h7)] at hj; cases hj
      have hi' : j / 2 < qs.length := by omega
      obtain ⟨k0, k1⟩ := spCells_get qs (j / 2) hi'
      obtain ⟨c0, c1⟩ := h6 (j / 2) hi'
      have add : Addr.add ⟨b, off, none⟩ j = ⟨b, off + j, none⟩ := by by_cases hj : j = 0 <;> simp [Addr.add, hj]
      rw [add]
      rcases (by omega : j % 2 = 0 ∨ j % 2 = 1) with h7 | h7
      · rw [show j / 2 * 2 = j by omega] at k0 c0
        rw [k0] at hj; rw [← hj]; exact c0
      · rw [show j / 2 * 2 + 1 = j by omega] at k1
        rw [show off + j / 2 * 2 + 1 = off + j by omega] at c1
        rw [k1] at hj; rw [← hj]; exact c1
    · intro v' w' h1 h2 h3
      refine h v' w' ?_ h2 h3
      unfold OwnSp
      rw [List.length_append, spCells_append]; exact h1
theorem spCells_set (R : List Sp) (a b c : Int) : (spCells (R ++ [(a, b)])).set (R.length * 2 + 1) (.int .i64 c) = spCells (R ++ [(a, c)]) := by
  rw [spCells_append, spCells_append]
  have h := spCells_len R
  rw [List.set_append_right _ _ (by omega)]
  have e : R.length * 2 + 1 - (spCells R).length = 1 := by omega
  rw [e]; rfl
theorem OwnSp.set {w : World} {base g cap n : Nat} {R : List Sp} {a b : Int} (h : OwnSp w base (.slice (some ⟨g, 0, none⟩) n cap) (R ++ [(a, b)])) (hn : n = (R ++ [(a, b)]).length) (c : Int) :
    OwnSp (w.setCell ⟨g, R.length * 2 + 1, none⟩ (.int .i64 c)) base (.slice (some ⟨g, 0, none⟩) n cap) (R ++ [(a, c)]) := by
  subst hn
  have := (World.ownsRow.stored h (R.length * 2 + 1) (.int .i64 c)).1
  rw [spCells_set] at this
  unfold OwnSp
  have e : (R ++ [(a, c)]).length = (R ++ [(a, b)]).length := by simp
  rw [e]; exact this
/-- What turns a row of the call's own leaves what lies below its base. -/
theorem grown_below {w w' : World} {B : Nat} {o : Option Nat} (h : w.grownBy w' o) (hB : B ≤ w.heap.size) (ho : ∀ k, o = some k → B ≤ k) : Below B w w' :=
  ⟨h.os, h.tape, h.output, h.size, fun k hk => h.block k (by omega) (fun e => by have := ho k e.symm; omega)⟩
end Go.Proofs.YthnkjfgiclolaaaGreatDoor

namespace Go.Proofs.YthnkjfgiclolaaaGreatDoor
open Go.RowKit
set_option linter.unusedVariables false

def okB (s : Sp) : Bool := decide (0 ≤ s.1) && decide (s.1 ≤ s.2) && decide (s.2 ≤ 65535)
/-- The fault of spans. -/
def spE (l : List Sp) : Int := if 200 < l.length then 4 else if l.all (fun s => okB s) = true then 0 else 1
def erV (n : Int) : Value := if n = 0 then .nilIface else .iface 45 (.int .i64 n)
theorem okB_iff {s : Sp} : okB s = true ↔ 0 ≤ s.1 ∧ s.1 ≤ s.2 ∧ s.2 ≤ 65535 := by simp [okB, and_assoc]
theorem spE_ok {l : List Sp} (h : l.length ≤ 200) (hk : OkS l) : spE l = 0 := by
  unfold spE; rw [if_neg (by omega), if_pos (List.all_eq_true.2 (fun s hs => okB_iff.2 (hk s hs)))]
theorem of_spE {l : List Sp} (h : spE l = 0) : l.length ≤ 200 ∧ OkS l := by
  unfold spE at h
  split at h
  · cases h
  · split at h
    · rename_i h1 h2
      exact ⟨by omega, fun s hs => okB_iff.1 (List.all_eq_true.1 h2 s hs)⟩
    · cases h
theorem spE_full {l : List Sp} (h : 200 < l.length) : spE l = 4 := by unfold spE; rw [if_pos h]
theorem spE_bad {l : List Sp} (h : l.length ≤ 200) {k : Nat} (hk : k < l.length) (hb : okB l[k] = false) : spE l = 1 := by
  unfold spE
  rw [if_neg (by omega), if_neg]
  intro hall
  have := List.all_eq_true.1 hall l[k] (List.getElem_mem _)
  have h2 : okB l[k] = true := this
  rw [hb] at h2; cases h2

set_option maxHeartbeats 4000000 in
theorem spCheck_any (v : Value) (l : List Sp) (w : World) (hv : Spns w v l) (hN : l.length ≤ 140737488355328) :
    Calls Tryz.prog 40 #[v] w fun e w' => e = .returned (erV (spE l)) ∧ Below w.heap.size w w' := by
  obtain ⟨ao, co, rfl⟩ := hv.len
  obtain ⟨N, hNe⟩ : ∃ N, l.length = N := ⟨_, rfl⟩
  rw [hNe] at hv hN ⊢
  have HN : Hid (l.length = N) := hNe
  have HV : Hid (Spns w (.slice ao N co) l) := hv
  by_cases hf : 200 < N
  · have h4 : erV (spE l) = .iface 45 (.int .i64 4) := by rw [spE_full (by omega)]; rfl
    rw [h4]
    have hf' : (200 : Int) < (N : Int) := by omega
    clear hv hNe h4 HV
    go_enter Tryz.func40, Tryz.ntmps40
    go_wp2
    go_ret
    exact ⟨rfl, Below.refl _ _⟩
  have hf' : ¬ (200 : Int) < (N : Int) := by omega
  obtain ⟨er, hE⟩ : ∃ er, erV (spE l) = er := ⟨_, rfl⟩
  rw [hE]
  have HE : Hid (erV (spE l) = er) := hE
  clear hv hNe hE
  go_enter Tryz.func40, Tryz.ntmps40
  go_wp2
  go_loopw [11] (fun i wr => ∃ k : Nat, k ≤ N ∧ i = .int .i64 (k : Int) ∧ Below w.heap.size w wr ∧ Hid (∀ j (h : j < l.length), j < k → okB l[j] = true)) (fun i _ => ((N : Int) - intOf i).toNat)
  case atStart => exact ⟨0, by omega, rfl, Below.refl _ _, fun j _ hj => by omega⟩
  case round =>
    obtain ⟨k, hk, rfl, hb, hO⟩ := hrel
    by_cases hlt : k < N
    · have hlt' : (k : Int) < (N : Int) := by omega
      have hkl : k < l.length := by rw [HN.out]; exact hlt
      obtain ⟨b, off, rfl, hbl, hcc, hcm, hc⟩ := HV.out.shape (by omega)
      obtain ⟨c0, c1⟩ := (hc k hkl).keep (hb.block b hbl)
      unfold maxLen at hcm
      obtain ⟨s, hs⟩ : ∃ s, l[k] = s := ⟨_, rfl⟩
      rw [hs] at c0 c1
      have HS : Hid (l[k] = s) := hs
      have hbb := (Below.refl w.heap.size w)
      have hb2 := hb.alloc hb.size (.cells #[.int .i64 s.1, .int .i64 s.2] 42)
      obtain ⟨p, q⟩ := s
      simp only at c0 c1 hb2
      clear hs hc hbb
      by_cases h1 : p < 0
      · have h0 : erV 1 = er := by rw [← HE.out, spE_bad (by rw [HN.out]; omega) hkl (by rw [HS.out]; simp [okB]; omega)]
        go_wp2
        go_ret
        exact ⟨by rw [← h0]; rfl, hb2⟩
      · by_cases h2 : q < p
        · have h0 : erV 1 = er := by rw [← HE.out, spE_bad (by rw [HN.out]; omega) hkl (by rw [HS.out]; simp [okB]; omega)]
          go_wp2
          go_ret
          exact ⟨by rw [← h0]; rfl, hb2⟩
        · by_cases h3 : 65535 < q
          · have h0 : erV 1 = er := by rw [← HE.out, spE_bad (by rw [HN.out]; omega) hkl (by rw [HS.out]; simp [okB]; omega)]
            go_wp2
            go_ret
            exact ⟨by rw [← h0]; rfl, hb2⟩
          · go_wp2
            go_roundw
            case rel =>
              refine ⟨k + 1, by omega, by go_num, hb2, fun j h hj => ?_⟩
              by_cases hjk : j < k
              · exact hO.out j h hjk
              · obtain rfl : j = k := by omega
                rw [HS.out]; simp [okB]; omega
            case measure => simp [intOf]; omega
    · have hlt' : ¬ (k : Int) < (N : Int) := by omega
      have h0 : erV 0 = er := by
        rw [← HE.out]
        rw [spE_ok (by rw [HN.out]; omega) (fun s hs => ?_)]
        obtain ⟨j, hj, rfl⟩ := List.getElem_of_mem hs
        exact okB_iff.1 (hO.out j hj (by have := HN.out; omega))
      go_wp2
      go_ret
      exact ⟨by rw [← h0]; rfl, hb⟩
end Go.Proofs.YthnkjfgiclolaaaGreatDoor

namespace Go.Proofs.YthnkjfgiclolaaaGreatDoor
open Go.RowKit
set_option linter.unusedVariables false

theorem pred_any (s : Sp) (n : Int) (B : Nat) (W : World) (hB : B < W.heap.size) (hc : W.cell? ⟨B, 0, none⟩ = some (.int .i64 n)) :
    Calls Tryz.prog 144 #[.agg #[.int .i64 s.1, .int .i64 s.2], .pointer (some ⟨B, 0, none⟩)] W fun e w' => e = .returned (.bool (insB s n)) ∧ Below W.heap.size W w' := by
  have hne : B ≠ W.heap.size := by omega
  have hb := (Below.refl W.heap.size W).alloc (Nat.le_refl _) (.cells #[.int .i64 s.1, .int .i64 s.2] 42)
  obtain ⟨r, hr⟩ : ∃ r, insB s n = r := ⟨_, rfl⟩
  rw [hr]
  obtain ⟨p, q⟩ := s
  simp only at hb ⊢
  have HR : Hid (insB (p, q) n = r) := hr
  clear hr
  by_cases h1 : p ≤ n
  · by_cases h2 : n ≤ q
    · have h3 : r = true := by rw [← HR.out]; simp [insB, h1, h2]
      subst h3
      go_enter Tryz.func144, Tryz.ntmps144
      go_wp2
      go_ret
      exact ⟨rfl, hb⟩
    · have h3 : r = false := by rw [← HR.out]; simp [insB, h2]
      subst h3
      go_enter Tryz.func144, Tryz.ntmps144
      go_wp2
      go_ret
      exact ⟨rfl, hb⟩
  · have h3 : r = false := by rw [← HR.out]; simp [insB, h1]
    subst h3
    go_enter Tryz.func144, Tryz.ntmps144
    go_wp2
    go_ret
    exact ⟨rfl, hb⟩
theorem insB_take {l : List Sp} {n : Int} {k : Nat} (hk : k < l.length) : inB (l.take (k + 1)) n = (inB (l.take k) n || insB l[k] n) := by
  rw [List.take_succ_eq_append_getElem hk, inB_append, inB_one]
set_option maxHeartbeats 4000000 in
theorem indexFunc_any (v : Value) (l : List Sp) (n : Int) (B : Nat) (w : World) (hv : Spns w v l) (hN : l.length ≤ 140737488355328) (hB : B < w.heap.size) (hc : w.cell? ⟨B, 0, none⟩ = some (.int .i64 n)) :
    Calls Tryz.prog 159 #[v, .func (.func 144) #[] #[.pointer (some ⟨B, 0, none⟩)]] w fun e w' => ∃ z : Int, e = .returned (.int .i64 z) ∧ decide (0 ≤ z) = inB l n ∧ Below w.heap.size w w' := by
  obtain ⟨ao, co, rfl⟩ := hv.len
  obtain ⟨N, hNe⟩ : ∃ N, l.length = N := ⟨_, rfl⟩
  rw [hNe] at hv hN ⊢
  have HN : Hid (l.length = N) := hNe
  have HV : Hid (Spns w (.slice ao N co) l) := hv
  have HC : Hid (∀ W, Below w.heap.size w W → B < W.heap.size ∧ W.cell? ⟨B, 0, none⟩ = some (.int .i64 n)) := fun W hb => ⟨Nat.lt_of_lt_of_le hB hb.size, (hb.cell (p := ⟨B, 0, none⟩) hB).trans hc⟩
  obtain ⟨r, hr⟩ : ∃ r, inB l n = r := ⟨_, rfl⟩
  rw [hr]
  have HR : Hid (inB l n = r) := hr
  clear hv hNe hc hr
  go_enter Tryz.func159, Tryz.ntmps159
  go_wp2
  go_loopw [8] (fun i wr => ∃ k : Nat, k ≤ N ∧ i = .int .i64 (k : Int) ∧ Below w.heap.size w wr ∧ Hid (inB (l.take k) n = false)) (fun i _ => ((N : Int) - intOf i).toNat)
  case atStart => exact ⟨0, by omega, rfl, Below.refl _ _, rfl⟩
  case round =>
    obtain ⟨k, hk, rfl, hb, hO⟩ := hrel
    by_cases hlt : k < N
    · have hlt' : (k : Int) < (N : Int) := by omega
      have hkl : k < l.length := by rw [HN.out]; exact hlt
      obtain ⟨b, off, rfl, hbl, hcc, hcm, hcs⟩ := HV.out.shape (by omega)
      obtain ⟨c0, c1⟩ := (hcs k hkl).keep (hb.block b hbl)
      unfold maxLen at hcm
      obtain ⟨hBW, hcW⟩ := HC.out wr hb
      have hp := pred_any l[k] n B wr hBW hcW
      have HT : Hid (inB (l.take (k + 1)) n = (inB (l.take k) n || insB l[k] n)) := insB_take hkl
      obtain ⟨s, hs⟩ : ∃ s, l[k] = s := ⟨_, rfl⟩
      have HS : Hid (l[k] ∈ l) := List.getElem_mem _
      rw [hs] at c0 c1 hp HT HS
      obtain ⟨t, ht⟩ : ∃ t, insB s n = t := ⟨_, rfl⟩
      rw [ht] at hp HT
      have HI : Hid (insB s n = t) := ht
      clear hs hcs ht hcW
      cases t with
      | true =>
        have h0 : r = true := by rw [← HR.out]; exact inB_iff.2 ⟨s, HS.out, insB_iff.1 HI.out⟩
        subst h0
        go_wp2_with (go_at_call 144; refine hp.mono ?_; rintro e w1 ⟨rfl, b1⟩)
        go_ret
        exact ⟨k, rfl, by simp, hb.trans (b1.mono hb.size)⟩
      | false =>
        go_wp2_with (go_at_call 144; refine hp.mono ?_; rintro e w1 ⟨rfl, b1⟩)
        go_roundw
        case rel => exact ⟨k + 1, by omega, by go_num, hb.trans (b1.mono hb.size), by rw [Hid, HT.out, hO.out]; rfl⟩
        case measure => simp [intOf]; omega
    · have hlt' : ¬ (k : Int) < (N : Int) := by omega
      have h0 : r = false := by
        rw [← HR.out]
        have := hO.out
        rw [List.take_of_length_le (by rw [HN.out]; omega)] at this
        exact this
      subst h0
      go_wp2
      go_ret
      exact ⟨-1, rfl, by decide, hb⟩
theorem containsFunc_any (v : Value) (l : List Sp) (n : Int) (B : Nat) (w : World) (hv : Spns w v l) (hN : l.length ≤ 140737488355328) (hB : B < w.heap.size) (hc : w.cell? ⟨B, 0, none⟩ = some (.int .i64 n)) :
    Calls Tryz.prog 143 #[v, .func (.func 144) #[] #[.pointer (some ⟨B, 0, none⟩)]] w fun e w' => e = .returned (.bool (inB l n)) ∧ Below w.heap.size w w' := by
  have hi := indexFunc_any v l n B w hv hN hB hc
  generalize inB l n = r at hi ⊢
  clear hv hc
  go_enter Tryz.func143, Tryz.ntmps143
  go_wp2_with (go_at_call 159; refine hi.mono ?_; rintro e w1 ⟨z, rfl, hz, b1⟩; subst hz)
  go_ret
  exact ⟨rfl, b1⟩
theorem lowHas_any (v : Value) (l : List Sp) (n : Int) (w : World) (hv : Spns w v l) (hN : l.length ≤ 140737488355328) :
    Calls Tryz.prog 127 #[v, .int .i64 n] w fun e w' => e = .returned (.bool (inB l n)) ∧ Below w.heap.size w w' := by
  have b0 := (Below.refl w.heap.size w).alloc (Nat.le_refl _) (.cells #[.int .i64 n] 3)
  have hi := containsFunc_any v l n w.heap.size (w.alloc (.cells #[.int .i64 n] 3)) (hv.below b0) hN (by simp) (by simp)
  have HB : Hid (∀ w1, Below (w.alloc (.cells #[.int .i64 n] 3)).heap.size (w.alloc (.cells #[.int .i64 n] 3)) w1 → Below w.heap.size w w1) := fun w1 b1 => b0.trans (b1.mono (by simp))
  generalize inB l n = r at hi ⊢
  clear hv
  go_enter Tryz.func127, Tryz.ntmps127
  go_wp2_with (go_at_call 143; refine hi.mono ?_; rintro e w1 ⟨rfl, b1⟩)
  go_ret
  exact ⟨rfl, HB.out w1 b1⟩
set_option maxHeartbeats 4000000 in
theorem extend_any (base : Nat) (v : Value) (l : List Sp) (low high : Int) (w : World) (hv : OwnSp w base v l) (hN : l.length ≤ 900000) (hbase : base ≤ w.heap.size) (h0 : 0 ≤ low) (h1 : low ≤ 70000) (hk : ∀ s ∈ l, 0 ≤ s.2 ∧ s.2 ≤ 70000) :
    Calls Tryz.prog 128 #[v, .int .i64 low, .int .i64 high] w fun e w' => ∃ v', e = .returned v' ∧ OwnSp w' base v' (extendL l low high) ∧ Below base w w' := by
  rcases List.eq_nil_or_concat l with rfl | ⟨i, s, rfl⟩
  · rw [extendL_nil]
    obtain ⟨ao, co, rfl⟩ := hv.len
    go_enter Tryz.func128, Tryz.ntmps128
    go_wp2_with (at_builtin; refine wpList_append_sp rfl (.tmp 29) (.tmp 33) rfl base _ [] rfl hv low high rfl (by simp) hbase ?_; intro g5 c5 w5 own5 grow5 lie5)
    go_ret
    refine ⟨_, rfl, own5, ?_⟩
    refine ((Below.refl base w).alloc hbase _).trans (grown_below grow5 (by simp; omega) (fun k hk => (hv.block k hk).1))
  · rw [List.concat_eq_append] at hv hN hk ⊢
    rw [extendL_snoc]
    obtain ⟨g, cap, rfl, hbg, hgl, hcl, hcm⟩ := hv.shape (by simp)
    have hc := hv.cells i.length (by simp)
    have hfr := World.ownsRow.frozenAt hv (i.length * 2 + 1)
    have hs := hk s (by simp)
    rw [List.getElem_append_right (Nat.le_refl _)] at hc
    simp only [Nat.sub_self, List.getElem_cons_zero] at hc
    obtain ⟨_, c1⟩ := hc
    have hlen : (i ++ [s]).length = i.length + 1 := by simp
    have HO : Hid (OwnSp w base (.slice (some ⟨g, 0, none⟩) (i ++ [s]).length cap) (i ++ [s])) := hv
    obtain ⟨m, hm⟩ : ∃ m, i.length = m := ⟨_, rfl⟩
    rw [hlen] at hcl hN HO ⊢
    rw [hm] at c1 hcl hN hfr HO ⊢
    have HM : Hid (i.length = m) := hm
    obtain ⟨p, q⟩ := s
    simp only at c1 hs
    unfold maxLen at hcm
    have hw : wrap64 (low - 1) = low - 1 := by unfold wrap64; omega
    clear hv hk hlen hm
    by_cases he : q = low - 1
    · rw [if_pos (show (p, q).2 = low - 1 from he)]
      have hq : (q == low - 1) = true := by simpa using he
      have own2 := (show OwnSp w base (.slice (some ⟨g, 0, none⟩) (m + 1) cap) (i ++ [(p, q)]) from HO.out).set (by simp [HM.out]) high
      rw [HM.out] at own2
      clear he
      go_enter Tryz.func128, Tryz.ntmps128
      go_wp2
      go_ret
      exact ⟨_, rfl, own2, (Below.refl base w).setCell hbg _⟩
    · rw [if_neg (show ¬ (p, q).2 = low - 1 from he)]
      have hq : (q == low - 1) = false := by simpa using he
      have hv2 : OwnSp w base (.slice (some ⟨g, 0, none⟩) (m + 1) cap) (i ++ [(p, q)]) := HO.out
      have hl2 : (i ++ [(p, q)]).length ≤ 1000000 := by have := HM.out; simp; omega
      clear he HO HM
      generalize i ++ [(p, q)] = L at hv2 hl2 ⊢
      go_enter Tryz.func128, Tryz.ntmps128
      go_wp2_with (at_builtin; refine wpList_append_sp rfl (.tmp 29) (.tmp 33) rfl base (.slice (some ⟨g, 0, none⟩) (m + 1) cap) L rfl hv2 low high rfl hl2 hbase ?_; intro g5 c5 w5 own5 grow5 lie5)
      go_ret
      refine ⟨_, rfl, own5, ?_⟩
      refine ((Below.refl base w).alloc hbase _).trans (grown_below grow5 (by simp; omega) (fun k hk => ?_))
      have : g = k := by simpa [Value.ownBlock] using hk
      omega
theorem erV_0h : erV 0 = .nilIface := rfl
theorem erV_nh {n : Int} (h : ¬ n = 0) : erV n = .iface 45 (.int .i64 n) := by unfold erV; rw [if_neg h]
end Go.Proofs.YthnkjfgiclolaaaGreatDoor
