/- Classes of keys (package plan), the plain facts: a box of keys with the rules that fit it ('Cl'); what narrowing leaves ('NarIs'): each class is right ('ClOk'), and each set of rules that some key fits has one ('ClAll'). -/
import Derived.Test.YtdellfmkmbabhaaPlanFit
import Derived.Test.YtdellfmkmbabhaaPlanOwn
import Derived.Test.YtdellfmkmbabhaaPlanSt
import Derived.Maps.RangeWalk
import Derived.Maps.OwnSet
import Derived.Maps.OwnOps
import Derived.Maps.Ext
import Derived.Test.YtdellfmkmbabhaaPlanDec
import Derived.Test.YtdellfmkmbabhaaPlanLay3
import Derived.Test.YtdellfmkmbabhaaKyV
namespace Go.Proofs.Ytdellfmkmbabhaa
set_option linter.unusedVariables false

abbrev Bx := Nat → Sp
/-- A box and the rules that fit it, as bits. -/
abbrev Cl := Bx × Nat
def updB (b : Bx) (i : Nat) (s : Sp) : Bx := fun j => if j = i then s else b j
/-- The bits of the first n sides, at a point. -/
def atV (RS : List Rl) (x : Nat → Int) : Nat → Nat
  | 0 => 18446744073709551615
  | n + 1 => atV RS x n &&& fitV (askL RS n) (x n)
theorem atV_same {RS : List Rl} {x y : Nat → Int} : ∀ {n : Nat}, (∀ i, i < n → fitV (askL RS i) (x i) = fitV (askL RS i) (y i)) → atV RS x n = atV RS y n
  | 0, _ => rfl
  | n + 1, h => by rw [atV, atV, atV_same (fun i hi => h i (by omega)), h n (by omega)]
theorem atV_lt (RS : List Rl) (x : Nat → Int) : ∀ n, atV RS x n < 2 ^ 64
  | 0 => by show 18446744073709551615 < 2 ^ 64; decide
  | n + 1 => Nat.lt_of_le_of_lt Nat.and_le_left (atV_lt RS x n)
theorem atV_small (RS : List Rl) (x : Nat → Int) {n : Nat} (h : 0 < n) : atV RS x n < 2 ^ RS.length := by
  match n, h with
  | n + 1, _ =>
    have := fitV_lt (askL RS n) (x n)
    rw [show (askL RS n).length = RS.length from by unfold askL; rw [List.length_map]] at this
    exact Nat.lt_of_le_of_lt Nat.and_le_right this
/-- A class is right behind n sides. -/
def ClOk (RS : List Rl) (n : Nat) (c : Cl) : Prop := (∀ i, i < 6 → sideLo i ≤ (c.1 i).1 ∧ (c.1 i).1 ≤ (c.1 i).2 ∧ (c.1 i).2 ≤ sideHi i) ∧ c.2 = atV RS (fun i => (c.1 i).1) n
/-- No set of rules is missing behind n sides. -/
def ClAll (RS : List Rl) (n : Nat) (l : List Cl) : Prop := ∀ x : Nat → Int, (∀ i, i < 6 → sideLo i ≤ x i ∧ x i ≤ sideHi i) → ∃ c ∈ l, c.2 = atV RS x n
/-- What narrowing by the stretches of a side leaves. -/
structure NarIs (l : List Cl) (side : Nat) (by' : List St) (R : List Cl) : Prop where
  from' : ∀ c ∈ R, ∃ c0 ∈ l, ∃ s ∈ by', c.2 = c0.2 &&& s.2 ∧ c.1 = updB c0.1 side s.1
  all : ∀ c0 ∈ l, ∀ s ∈ by', ∃ c ∈ R, c.2 = c0.2 &&& s.2
  once : (R.map Prod.snd).Nodup
theorem NarIs.ok {RS : List Rl} {n : Nat} {l R : List Cl} {C : List St} (h : NarIs l n C R) (hn : n < 6) (hc : CutOk (sideLo n) (sideHi n) (askL RS n) C) (hl : ∀ c ∈ l, ClOk RS n c) : ∀ c ∈ R, ClOk RS (n + 1) c := by
  intro c hcR
  obtain ⟨c0, hc0, s, hs, e1, e2⟩ := h.from' c hcR
  obtain ⟨i, hi, rfl⟩ := List.getElem_of_mem hs
  obtain ⟨o1, o2⟩ := hl c0 hc0
  have hat : ∀ j, j < 6 → c.1 j = if j = n then C[i].1 else c0.1 j := fun j _ => by rw [e2]; rfl
  refine ⟨fun j hj => ?_, ?_⟩
  · rw [hat j hj]
    by_cases e : j = n
    · rw [if_pos e, e]
      exact ⟨hc.lower i hi, hc.some' i hi, hc.upper i hi⟩
    · rw [if_neg e]; exact o1 j hj
  · rw [e1, o2, atV]
    have a1 : atV RS (fun i => (c0.1 i).1) n = atV RS (fun i => (c.1 i).1) n := atV_same (fun j hj => by
      show fitV (askL RS j) (c0.1 j).1 = fitV (askL RS j) (c.1 j).1
      rw [hat j (by omega), if_neg (by omega)])
    have a2 : fitV (askL RS n) (c.1 n).1 = C[i].2 := by
      rw [hat n hn, if_pos rfl]
      exact hc.fit i hi _ (Int.le_refl _) (hc.some' i hi)
    rw [a1, a2]
theorem NarIs.full {RS : List Rl} {n : Nat} {l R : List Cl} {C : List St} (h : NarIs l n C R) (hn : n < 6) (hc : CutOk (sideLo n) (sideHi n) (askL RS n) C) (hl : ClAll RS n l) : ClAll RS (n + 1) R := by
  intro x hx
  obtain ⟨c0, hc0, e0⟩ := hl x hx
  obtain ⟨i, hi, h1, h2⟩ := hc.full (x n) (hx n hn).1 (hx n hn).2
  obtain ⟨c, hcR, e⟩ := h.all c0 hc0 C[i] (List.getElem_mem hi)
  refine ⟨c, hcR, ?_⟩
  rw [e, e0, atV, hc.fit i hi (x n) h1 h2]
theorem nodup_len : ∀ (m : Nat) (l : List Nat), l.Nodup → (∀ x ∈ l, x < m) → l.length ≤ m
  | 0, l, _, h => by
      cases l with
      | nil => simp
      | cons a l => exact absurd (h a List.mem_cons_self) (Nat.not_lt_zero _)
  | m + 1, l, hn, h => by
      by_cases hm : m ∈ l
      · have h1 := nodup_len m (l.erase m) (hn.erase m) (fun x hx => by
          have := (hn.mem_erase_iff).1 hx
          have := h x this.2
          omega)
        rw [List.length_erase_of_mem hm] at h1
        omega
      · have := nodup_len m l hn (fun x hx => by
          have := h x hx
          have : x ≠ m := fun e => hm (e ▸ hx)
          omega)
        omega
theorem NarIs.len {RS : List Rl} {n : Nat} {l R : List Cl} {C : List St} (h : NarIs l n C R) (hn : n < 6) (hc : CutOk (sideLo n) (sideHi n) (askL RS n) C) (hl : ∀ c ∈ l, ClOk RS n c) (h8 : RS.length ≤ 8) : R.length ≤ 256 := by
  have h1 := nodup_len (2 ^ RS.length) (R.map Prod.snd) h.once (fun x hx => by
    obtain ⟨c, hc', rfl⟩ := List.mem_map.1 hx
    rw [(h.ok hn hc hl c hc').2]
    exact atV_small RS _ (by omega))
  rw [List.length_map] at h1
  have h2 : 2 ^ RS.length ≤ 2 ^ 8 := Nat.pow_le_pow_right (by omega) h8
  omega
/-- The first class: all keys. -/
def wholeB : Bx := fun i => (sideLo i, sideHi i)
theorem whole_ok (RS : List Rl) : ClOk RS 0 (wholeB, 18446744073709551615) := by
  refine ⟨fun i hi => ?_, rfl⟩
  match i, hi with
  | 0, _ => decide
  | 1, _ => decide
  | 2, _ => decide
  | 3, _ => decide
  | 4, _ => decide
  | 5, _ => decide
theorem whole_all (RS : List Rl) : ClAll RS 0 [(wholeB, 18446744073709551615)] := fun x _ => ⟨_, List.mem_cons_self, rfl⟩
/-- The key and the way of a point. -/
def keyAt (x : Nat → Int) : Ky := ⟨x 1, x 2, x 3, x 4, x 5⟩
theorem ptS_keyAt (x : Nat → Int) {i : Nat} (h : i < 6) : ptS (keyAt x) (x 0) i = x i := by
  match i, h with
  | 0, _ => rfl
  | 1, _ => rfl
  | 2, _ => rfl
  | 3, _ => rfl
  | 4, _ => rfl
  | 5, _ => rfl
theorem atV_six (RS : List Rl) (k : Ky) (way : Int) : atV RS (ptS k way) 6 = allV RS k way 18446744073709551615 := rfl
end Go.Proofs.Ytdellfmkmbabhaa

namespace Go.Proofs.Ytdellfmkmbabhaa
open Go.RowKit Go.Maps
set_option linter.unusedVariables false
set_option maxRecDepth 10000

def encB (b : Bx) : List Value := [.int .i64 (b 0).1, .int .i64 (b 0).2, .int .i64 (b 1).1, .int .i64 (b 1).2, .int .i64 (b 2).1, .int .i64 (b 2).2, .int .i64 (b 3).1, .int .i64 (b 3).2, .int .i64 (b 4).1, .int .i64 (b 4).2, .int .i64 (b 5).1, .int .i64 (b 5).2]
def encC (c : Cl) : List Value := [.int .i64 (c.1 0).1, .int .i64 (c.1 0).2, .int .i64 (c.1 1).1, .int .i64 (c.1 1).2, .int .i64 (c.1 2).1, .int .i64 (c.1 2).2, .int .i64 (c.1 3).1, .int .i64 (c.1 3).2, .int .i64 (c.1 4).1, .int .i64 (c.1 4).2, .int .i64 (c.1 5).1, .int .i64 (c.1 5).2, .int .u64 (c.2 : Int)]
theorem encC_len (c : Cl) : (encC c).length = 13 := rfl
theorem encC_one (c : Cl) : ∀ u ∈ encC c, u.oneCell' = true := by
  intro u hu
  simp only [encC, List.mem_cons, List.not_mem_nil, or_false] at hu
  rcases hu with rfl | rfl | rfl | rfl | rfl | rfl | rfl | rfl | rfl | rfl | rfl | rfl | rfl <;> rfl
/-- Classes in a row of the call's own. -/
def OwnC (w : World) (base : Nat) (v : Value) (xs : List Cl) : Prop := OwnN 76 13 encC w base v xs
theorem Try.infoC : (Try.prog.info? 76).map (fun i => (i.zero, i.size, i.bytes)) = some (some (.agg #[.int .i64 0, .int .i64 0, .int .i64 0, .int .i64 0, .int .i64 0, .int .i64 0, .int .i64 0, .int .i64 0, .int .i64 0, .int .i64 0, .int .i64 0, .int .i64 0, .int .u64 0]), 13, 104) := by kernel_rfl
theorem wpList_append_cl {w : World} {base : Nat} {v : Value} {xs : List Cl} {ops : Array Oper} {rest : List Oper} {o : Oper} {a : Act} {Q : Exit → Act → World → Prop} (hgd : o.guard = none) (s x : Operand)
    (ho : o.op = .call { callee := .builtin .append, args := #[s, x], argTypes := #[71, 71] })
    (hs : a.eval s = v) (hown : OwnC w base v xs) (c : Cl) (hx : a.eval x = .slice (some ⟨w.heap.size, 0, none⟩) 1 1)
    (hlen : xs.length ≤ 1000000) (hbase : base ≤ w.heap.size)
    (h : ∀ v' w', OwnC w' base v' (xs ++ [c]) → (w.alloc (.cells (encC c).toArray 76)).grownBy w' v.ownBlock → (v'.ownBlock = v.ownBlock ∨ v'.ownBlock = some (w.heap.size + 1)) → wpList Try.prog ops Q rest (a.put o.dst v') w') :
    wpList Try.prog ops Q (o :: rest) a (w.alloc (.cells (encC c).toArray 76)) := by
  obtain ⟨i0, hi, hz0, hz1, hz2⟩ := info_parts Try.infoC
  refine wpList_append_own1 hgd s x 71 ho i0 _ 104 Try.underlying71 hi hz0 hz1 hz2 rfl (by decide) encC_len hs (OwnN.alloc hown _) c ⟨w.heap.size, 0, none⟩ hx ?_ (encC_one _) (by unfold maxLen; omega) (by omega) (by simp; omega) ?_
  · intro j u hj
    have add : Addr.add ⟨w.heap.size, 0, none⟩ j = ⟨w.heap.size, j, none⟩ := by by_cases hj : j = 0 <;> simp [Addr.add, hj]
    rw [add, cell_of_row _ _ _ _ _ _ (heap_alloc_new w (.cells (encC c).toArray 76))]
    simpa using hj
  · intro v' w' h1 h2 h3
    exact h v' w' h1 h2 (by simpa using h3)
/-- A box in a block of its own: one side is stored. -/
theorem setB {W : World} {g : Nat} {b : Bx} {t : TypeId} (h : W.heap[g]? = some (.cells (encB b).toArray t (0, 0))) {i : Nat} (hi : i < 6) (p q : Int) :
    ∃ W', (W.setCell ⟨g, i * 2, none⟩ (.int .i64 p)).setCell ⟨g, i * 2 + 1, none⟩ (.int .i64 q) = W' ∧ W'.heap[g]? = some (.cells (encB (updB b i (p, q))).toArray t (0, 0)) ∧ (∀ k, k ≠ g → W'.heap[k]? = W.heap[k]?) ∧ Below g W W' ∧ W'.heap.size = W.heap.size := by
  have e0 := heap_setCell_same W g (i * 2) _ _ (.int .i64 p) h
  have ot0 := fun k (hk : k ≠ g) => heap_setCell_other W ⟨g, i * 2, none⟩ k (.int .i64 p) hk
  have b0 := (Below.refl g W).setCell (p := ⟨g, i * 2, none⟩) (Nat.le_refl _) (.int .i64 p)
  have z0 : (W.setCell ⟨g, i * 2, none⟩ (.int .i64 p)).heap.size = W.heap.size := by simp [World.setCell]
  generalize W.setCell ⟨g, i * 2, none⟩ (.int .i64 p) = W1 at e0 ot0 b0 z0 ⊢
  have e1 := heap_setCell_same W1 g (i * 2 + 1) _ _ (.int .i64 q) e0
  refine ⟨_, rfl, ?_, fun k hk => (heap_setCell_other W1 ⟨g, i * 2 + 1, none⟩ k _ hk).trans (ot0 k hk), b0.setCell (p := ⟨g, i * 2 + 1, none⟩) (Nat.le_refl _) _, ?_⟩
  · rw [e1]
    match i, hi with
    | 0, _ => rfl
    | 1, _ => rfl
    | 2, _ => rfl
    | 3, _ => rfl
    | 4, _ => rfl
    | 5, _ => rfl
  · have z1 : (W1.setCell ⟨g, i * 2 + 1, none⟩ (.int .i64 q)).heap.size = W1.heap.size := by simp [World.setCell]
    omega
theorem rowB {W : World} {g : Nat} {b : Bx} {t : TypeId} (h : W.heap[g]? = some (.cells (encB b).toArray t (0, 0))) :
    W.cell? ⟨g, 0, none⟩ = some (.int .i64 (b 0).1) ∧ W.cell? ⟨g, 1, none⟩ = some (.int .i64 (b 0).2) ∧ W.cell? ⟨g, 2, none⟩ = some (.int .i64 (b 1).1) ∧ W.cell? ⟨g, 3, none⟩ = some (.int .i64 (b 1).2) ∧ W.cell? ⟨g, 4, none⟩ = some (.int .i64 (b 2).1) ∧ W.cell? ⟨g, 5, none⟩ = some (.int .i64 (b 2).2) ∧ W.cell? ⟨g, 6, none⟩ = some (.int .i64 (b 3).1) ∧ W.cell? ⟨g, 7, none⟩ = some (.int .i64 (b 3).2) ∧ W.cell? ⟨g, 8, none⟩ = some (.int .i64 (b 4).1) ∧ W.cell? ⟨g, 9, none⟩ = some (.int .i64 (b 4).2) ∧ W.cell? ⟨g, 10, none⟩ = some (.int .i64 (b 5).1) ∧ W.cell? ⟨g, 11, none⟩ = some (.int .i64 (b 5).2) := by
  refine ⟨?_, ?_, ?_, ?_, ?_, ?_, ?_, ?_, ?_, ?_, ?_, ?_⟩ <;> (rw [cell_of_row _ _ _ _ _ _ h]; rfl)
theorem sideB {W : World} {g : Nat} {b : Bx} {t : TypeId} (h : W.heap[g]? = some (.cells (encB b).toArray t (0, 0))) {i : Nat} (hi : i < 6) : W.cell? ⟨g, i * 2, none⟩ = some (.int .i64 (b i).1) ∧ W.cell? ⟨g, i * 2 + 1, none⟩ = some (.int .i64 (b i).2) := by
  rw [cell_of_row _ _ _ _ _ _ h, cell_of_row _ _ _ _ _ _ h]
  match i, hi with
  | 0, _ => exact ⟨rfl, rfl⟩
  | 1, _ => exact ⟨rfl, rfl⟩
  | 2, _ => exact ⟨rfl, rfl⟩
  | 3, _ => exact ⟨rfl, rfl⟩
  | 4, _ => exact ⟨rfl, rfl⟩
  | 5, _ => exact ⟨rfl, rfl⟩
theorem rowC {W : World} {g : Nat} {c : Cl} {t : TypeId} (h : W.heap[g]? = some (.cells (encC c).toArray t (0, 0))) :
    W.cell? ⟨g, 0, none⟩ = some (.int .i64 (c.1 0).1) ∧ W.cell? ⟨g, 1, none⟩ = some (.int .i64 (c.1 0).2) ∧ W.cell? ⟨g, 2, none⟩ = some (.int .i64 (c.1 1).1) ∧ W.cell? ⟨g, 3, none⟩ = some (.int .i64 (c.1 1).2) ∧ W.cell? ⟨g, 4, none⟩ = some (.int .i64 (c.1 2).1) ∧ W.cell? ⟨g, 5, none⟩ = some (.int .i64 (c.1 2).2) ∧ W.cell? ⟨g, 6, none⟩ = some (.int .i64 (c.1 3).1) ∧ W.cell? ⟨g, 7, none⟩ = some (.int .i64 (c.1 3).2) ∧ W.cell? ⟨g, 8, none⟩ = some (.int .i64 (c.1 4).1) ∧ W.cell? ⟨g, 9, none⟩ = some (.int .i64 (c.1 4).2) ∧ W.cell? ⟨g, 10, none⟩ = some (.int .i64 (c.1 5).1) ∧ W.cell? ⟨g, 11, none⟩ = some (.int .i64 (c.1 5).2) ∧ W.cell? ⟨g, 12, none⟩ = some (.int .u64 (c.2 : Int)) := by
  refine ⟨?_, ?_, ?_, ?_, ?_, ?_, ?_, ?_, ?_, ?_, ?_, ?_, ?_⟩ <;> (rw [cell_of_row _ _ _ _ _ _ h]; rfl)
/-- A class out of a row. -/
theorem OwnC.cells {w : World} {base g m cap : Nat} {xs : List Cl} (h : OwnC w base (.slice (some ⟨g, 0, none⟩) m cap) xs) (i : Nat) (hi : i < xs.length) :
    w.cell? ⟨g, i * 13, none⟩ = some (.int .i64 (xs[i].1 0).1) ∧ w.cell? ⟨g, i * 13 + 1, none⟩ = some (.int .i64 (xs[i].1 0).2) ∧ w.cell? ⟨g, i * 13 + 2, none⟩ = some (.int .i64 (xs[i].1 1).1) ∧ w.cell? ⟨g, i * 13 + 3, none⟩ = some (.int .i64 (xs[i].1 1).2) ∧ w.cell? ⟨g, i * 13 + 4, none⟩ = some (.int .i64 (xs[i].1 2).1) ∧ w.cell? ⟨g, i * 13 + 5, none⟩ = some (.int .i64 (xs[i].1 2).2) ∧ w.cell? ⟨g, i * 13 + 6, none⟩ = some (.int .i64 (xs[i].1 3).1) ∧ w.cell? ⟨g, i * 13 + 7, none⟩ = some (.int .i64 (xs[i].1 3).2) ∧ w.cell? ⟨g, i * 13 + 8, none⟩ = some (.int .i64 (xs[i].1 4).1) ∧ w.cell? ⟨g, i * 13 + 9, none⟩ = some (.int .i64 (xs[i].1 4).2) ∧ w.cell? ⟨g, i * 13 + 10, none⟩ = some (.int .i64 (xs[i].1 5).1) ∧ w.cell? ⟨g, i * 13 + 11, none⟩ = some (.int .i64 (xs[i].1 5).2) ∧ w.cell? ⟨g, i * 13 + 12, none⟩ = some (.int .u64 (xs[i].2 : Int)) :=
  ⟨OwnN.cell h encC_len i hi 0 _ rfl, OwnN.cell h encC_len i hi 1 _ rfl, OwnN.cell h encC_len i hi 2 _ rfl, OwnN.cell h encC_len i hi 3 _ rfl, OwnN.cell h encC_len i hi 4 _ rfl, OwnN.cell h encC_len i hi 5 _ rfl, OwnN.cell h encC_len i hi 6 _ rfl, OwnN.cell h encC_len i hi 7 _ rfl, OwnN.cell h encC_len i hi 8 _ rfl, OwnN.cell h encC_len i hi 9 _ rfl, OwnN.cell h encC_len i hi 10 _ rfl, OwnN.cell h encC_len i hi 11 _ rfl, OwnN.cell h encC_len i hi 12 _ rfl⟩
/-- A set of numbers in block M. -/
def SetAt (W : World) (M : Nat) (ks : List Nat) : Prop := ∃ (n : Nat) (D : DataW Unit), W.ownsMap Try.prog 48 unitElem M n D ∧ n ≤ ks.length ∧ ∀ f : Nat, f < 2 ^ 64 → Maps.has D (.int .u64 (f : Int)) = decide (f ∈ ks)
theorem keyedU : Keyed Try.prog 48 := int_keyed Try.underlying48
theorem keyU (f : Nat) (h : f < 2 ^ 64) : keyOf Try.prog 48 (.int .u64 (f : Int)) = some (.int .u64 (f : Int)) := by
  have e1 : IntKind.u64.min = 0 := by decide
  have e2 : IntKind.u64.max = 18446744073709551615 := by decide
  simp [keyOf, mapKey, Try.underlying48, Lit.wf, e1, e2]
  omega
theorem zeroU (w : World) : (zeroValue 121).run Try.prog w = .ok (.agg #[]) w := by
  have h : (Try.prog.info? 121).map (fun i => (i.zero, i.size, i.bytes)) = some (some (.agg #[]), 0, 0) := by kernel_rfl
  obtain ⟨i0, hi, hz0, hz1, hz2⟩ := info_parts h
  simp [zeroValue, typeInfo, hi, hz0]
theorem SetAt.new (w : World) : SetAt (w.alloc (.map #[] 0)) w.heap.size [] := ⟨0, .map [], World.ownsMap_made w _ _ _, by simp, fun f _ => by rw [has_eq]; simp⟩
theorem SetAt.blk {W W' : World} {M : Nat} {ks : List Nat} (h : SetAt W M ks) (hb : W'.heap[M]? = W.heap[M]?) : SetAt W' M ks := by
  obtain ⟨n, D, ⟨xs, clock, h1, r⟩, h2⟩ := h
  exact ⟨n, D, ⟨xs, clock, hb.trans h1, r⟩, h2⟩
theorem SetAt.lt {W : World} {M : Nat} {ks : List Nat} (h : SetAt W M ks) : M < W.heap.size := by obtain ⟨n, D, h1, _⟩ := h; exact h1.lt
theorem SetAt.look {W : World} {M : Nat} {ks : List Nat} (h : SetAt W M ks) (f : Nat) (hf : f < 2 ^ 64) : (Instr.lookup 120 (.map (some M)) (.int .u64 (f : Int)) true).run Try.prog W = .ok (.tuple #[.agg #[], .bool (decide (f ∈ ks))]) W := by
  obtain ⟨n, D, h1, h2, h3⟩ := h
  obtain ⟨v, ps, hr, hv⟩ := h1.look_ok keyedU Try.underlying120 (zeroU W) unitElem_mk (keyU f hf)
  obtain ⟨rfl, _⟩ := unitElem_inv hv
  rw [hr, h3 f hf]
theorem SetAt.put {W : World} {M : Nat} {ks : List Nat} (h : SetAt W M ks) (f : Nat) (hf : f < 2 ^ 64) (hl : ks.length ≤ 1000000) : ∃ W', (Instr.mapUpdate 120 (.map (some M)) (.int .u64 (f : Int)) (.agg #[])).run Try.prog W = .ok () W' ∧ SetAt W' M (ks ++ [f]) ∧ W.grownBy W' (some M) := by
  obtain ⟨n, D, h1, h2, h3⟩ := h
  obtain ⟨W', hr, ho, ht⟩ := h1.store keyedU Try.underlying120 (by unfold maxLen; omega) (keyU f hf) unitElem_mk
  refine ⟨W', hr, ⟨n + 1, _, ho, by simp; omega, fun g hg => ?_⟩, ht.grown⟩
  by_cases e : g = f
  · subst e
    rw [has_put_same h1.isMap (keyedU.key (keyU g hg))]
    simp
  · rw [has_put_other (by intro e2; apply e; have e3 : ((g : Int)) = (f : Int) := (by simpa using e2); omega), h3 g hg]
    simp [e]
end Go.Proofs.Ytdellfmkmbabhaa

namespace Go.Proofs.Ytdellfmkmbabhaa
open Go.RowKit Go.Maps
set_option linter.unusedVariables false
set_option maxRecDepth 10000

/-- Where 'narrow' stands. -/
structure NrSt (w W : World) (S : Nat) (v : Value) (R : List Cl) (ks : List Nat) : Prop where
  set : SetAt W S ks
  own : OwnC W (S + 1) v R
  bel : Below S w W
  sz : S + 1 ≤ W.heap.size
section
variable {w W W' : World} {S : Nat} {v : Value} {R : List Cl} {ks : List Nat}
theorem NrSt.below (h : NrSt w W S v R ks) (hb : Below W.heap.size W W') : NrSt w W' S v R ks :=
  ⟨h.set.blk (hb.block S (by have := h.sz; omega)), OwnN.below h.own hb, h.bel.trans (hb.mono (by have := h.sz; omega)), Nat.le_trans h.sz hb.size⟩
theorem NrSt.put {f : Nat} (h : NrSt w W S v R ks) (hs : SetAt W' S (ks ++ [f])) (hg : W.grownBy W' (some S)) : NrSt w W' S v R (ks ++ [f]) :=
  ⟨hs, OwnN.blk h.own (fun k hk => hg.block k (OwnN.block h.own k hk).2 (fun e => by have e := Option.some.inj e; have := (OwnN.block h.own k hk).1; omega)), h.bel.trans (grown_below hg (by have := h.sz; omega) (fun k hk => by have e := Option.some.inj hk; omega)), Nat.le_trans h.sz hg.size⟩
theorem NrSt.append {v' : Value} {c : Cl} {o : Obj} (h : NrSt w W S v R ks) (own : OwnC W' (S + 1) v' (R ++ [c])) (gr : (W.alloc o).grownBy W' v.ownBlock) : NrSt w W' S v' (R ++ [c]) ks := by
  have ha : Below W.heap.size W (W.alloc o) := (Below.refl _ _).alloc (Nat.le_refl _) _
  have hz : (W.alloc o).heap.size = W.heap.size + 1 := by simp
  have hlt := fun k hk => OwnN.block h.own k hk
  refine ⟨h.set.blk ?_, own, h.bel.trans ((ha.mono (by have := h.sz; omega)).trans (grown_below gr (by have := h.sz; omega) (fun k hk => by have := (hlt k hk).1; omega))), by have := gr.size; have := h.sz; omega⟩
  exact (gr.block S (by have := h.sz; omega) (fun e => by have := (hlt S e.symm).1; omega)).trans (ha.block S (by have := h.sz; omega))
theorem NrSt.new (w : World) : NrSt w (w.alloc (.map #[] 0)) w.heap.size (.slice none 0 0) [] [] :=
  ⟨SetAt.new w, OwnN.nil _ _, (Below.refl _ _).alloc (Nat.le_refl _) _, by simp⟩
end
/-- What is done behind k classes, and j stretches of the next. -/
structure NarP (l : List Cl) (n : Nat) (C : List St) (k j : Nat) (R : List Cl) : Prop where
  from' : ∀ c ∈ R, ∃ c0 ∈ l, ∃ s ∈ C, c.2 = c0.2 &&& s.2 ∧ c.1 = updB c0.1 n s.1
  all : ∀ i, i < k → ∀ (h : i < l.length), ∀ s ∈ C, ∃ c ∈ R, c.2 = l[i].2 &&& s.2
  part : ∀ (h : k < l.length), ∀ m, m < j → ∀ (h' : m < C.length), ∃ c ∈ R, c.2 = l[k].2 &&& C[m].2
  once : (R.map Prod.snd).Nodup
section
variable {l : List Cl} {n : Nat} {C : List St} {k j : Nat} {R : List Cl}
theorem NarP.new : NarP l n C 0 0 [] := ⟨(fun c h => by cases h), fun i h => absurd h (Nat.not_lt_zero _), fun _ m h => absurd h (Nat.not_lt_zero _), List.nodup_nil⟩
theorem NarP.skip (h : NarP l n C k j R) (hk : k < l.length) (hj : j < C.length) (hm : l[k].2 &&& C[j].2 ∈ R.map Prod.snd) : NarP l n C k (j + 1) R := by
  refine ⟨h.from', h.all, fun hk' m hm' h' => ?_, h.once⟩
  rcases Nat.lt_or_ge m j with h1 | h1
  · exact h.part hk' m h1 h'
  · have : m = j := by omega
    subst this
    obtain ⟨c, hc, e⟩ := List.mem_map.1 hm
    exact ⟨c, hc, e⟩
theorem NarP.add (h : NarP l n C k j R) (hk : k < l.length) (hj : j < C.length) (hm : ¬ l[k].2 &&& C[j].2 ∈ R.map Prod.snd) : NarP l n C k (j + 1) (R ++ [(updB l[k].1 n C[j].1, l[k].2 &&& C[j].2)]) := by
  refine ⟨?_, fun i hi hl s hs => ?_, fun hk' m hm' h' => ?_, ?_⟩
  · intro c hc
    rcases List.mem_append.1 hc with hc | hc
    · exact h.from' c hc
    · rw [List.mem_singleton] at hc
      subst hc
      exact ⟨l[k], List.getElem_mem hk, C[j], List.getElem_mem hj, rfl, rfl⟩
  · obtain ⟨c, hc, e⟩ := h.all i hi hl s hs
    exact ⟨c, List.mem_append_left _ hc, e⟩
  · rcases Nat.lt_or_ge m j with h1 | h1
    · obtain ⟨c, hc, e⟩ := h.part hk' m h1 h'
      exact ⟨c, List.mem_append_left _ hc, e⟩
    · have : m = j := by omega
      subst this
      exact ⟨_, List.mem_append_right _ (List.mem_singleton.2 rfl), rfl⟩
  · rw [List.map_append, List.nodup_append]
    refine ⟨h.once, by simp, fun a ha b hb => ?_⟩
    simp only [List.map_cons, List.map_nil, List.mem_singleton] at hb
    subst hb
    intro e
    subst e
    exact hm ha
theorem NarP.next (h : NarP l n C k C.length R) : NarP l n C (k + 1) 0 R := by
  refine ⟨h.from', fun i hi hl s hs => ?_, fun _ m hm => absurd hm (Nat.not_lt_zero _), h.once⟩
  rcases Nat.lt_or_ge i k with h1 | h1
  · exact h.all i h1 hl s hs
  · have : i = k := by omega
    subst this
    obtain ⟨m, hm, rfl⟩ := List.getElem_of_mem hs
    exact h.part hl m hm hm
theorem NarP.done (h : NarP l n C l.length j R) : NarIs l n C R := by
  refine ⟨h.from', fun c0 hc s hs => ?_, h.once⟩
  obtain ⟨i, hi, rfl⟩ := List.getElem_of_mem hc
  exact h.all i hi hi s hs
theorem NarP.len (h : NarP l n C k j R) (h8 : ∀ s ∈ C, s.2 < 256) : R.length ≤ 256 := by
  have h1 := nodup_len 256 (R.map Prod.snd) h.once (fun x hx => by
    obtain ⟨c, hc, rfl⟩ := List.mem_map.1 hx
    obtain ⟨c0, _, s, hs, e, _⟩ := h.from' c hc
    rw [e]
    exact Nat.lt_of_le_of_lt Nat.and_le_right (h8 s hs))
  rw [List.length_map] at h1
  exact h1
end
set_option maxHeartbeats 16000000 in
theorem narrow_any (v u : Value) (l : List Cl) (n : Nat) (C : List St) (b1 b2 : Nat) (w : World) (hl : OwnC w b1 v l) (hC : OwnSt w b2 u C) (hn : n < 6) (h8 : ∀ s ∈ C, s.2 < 256) (h64 : ∀ c ∈ l, c.2 < 2 ^ 64) (hl1 : l.length ≤ 1000) (hC1 : C.length ≤ 1000) :
    Calls Try.prog 40 #[v, .int .i64 (n : Int), u] w fun e w' => ∃ v' R, e = .returned v' ∧ OwnC w' w.heap.size v' R ∧ NarIs l n C R ∧ Below w.heap.size w w' := by
  obtain ⟨a1, c1, hv1⟩ := OwnN.len hl
  obtain ⟨a2, c2, hv2⟩ := OwnN.len hC
  obtain ⟨N, hN⟩ : ∃ N, l.length = N := ⟨_, rfl⟩
  obtain ⟨M, hM⟩ : ∃ M, C.length = M := ⟨_, rfl⟩
  rw [hN] at hv1 hl1
  rw [hM] at hv2 hC1
  subst hv1 hv2
  obtain ⟨Q, hQ⟩ : ∃ Q : Ending → World → Prop, Q = fun e w' => ∃ v' R, e = .returned v' ∧ OwnC w' w.heap.size v' R ∧ NarIs l n C R ∧ Below w.heap.size w w' := ⟨_, rfl⟩
  have HQ : Hid (∀ v' R w', OwnC w' w.heap.size v' R → NarIs l n C R → Below w.heap.size w w' → Q (.returned v') w') := by rw [hQ]; exact fun v' R w' h1 h2 h3 => ⟨v', R, rfl, h1, h2, h3⟩
  rw [← hQ]
  clear hQ
  have S0 := NrSt.new w
  obtain ⟨S, hS⟩ : ∃ S, w.heap.size = S := ⟨_, rfl⟩
  obtain ⟨W0, hW0⟩ : ∃ W0, w.alloc (.map #[] 0) = W0 := ⟨_, rfl⟩
  rw [hS, hW0] at S0
  rw [hS] at HQ
  have HS := hidE hS
  have HW0 := hidE hW0
  have HS0 := hidE S0
  have HL := hidE hl
  have HC := hidE hC
  have HN := hidE hN
  have HM := hidE hM
  have H8 := hidE h8
  have H64 := hidE h64
  clear hl hC hN hM h8 h64 S0 hW0 hS
  have hmm := @run_makeMap Try.prog
  go_enter Try.func40, Try.ntmps40
  go_upto_region 3 with fail
  rw [HW0.out, HS.out]
  clear HW0
  go_upto_region 4 with fail
  go_loopw [7, 10, 12, 13, 14, 15, 16, 20] (fun f _ _ _ _ _ _ i wr => ∃ (k : Nat) (R : List Cl), k ≤ N ∧ i = .int .i64 (k : Int) ∧ Hid (NrSt w wr S f R (R.map Prod.snd)) ∧ Hid (NarP l n C k 0 R)) (fun _ _ _ _ _ _ _ i _ => ((N : Int) - intOf i).toNat)
  case atStart => exact ⟨0, [], by omega, rfl, HS0.out, NarP.new⟩
  case round =>
    clear HS0
    obtain ⟨k, R, hk, rfl, HR, HP⟩ := hrel
    by_cases hkn : k < N
    · have j1 : (k : Int) < (N : Int) := by omega
      have j2 : (0 : Int) ≤ (k : Int) := by omega
      have hkl : k < l.length := by rw [HN.out]; exact hkn
      have hl2 : OwnC wr b1 (.slice a1 N c1) l := OwnN.below HL.out (by rw [HS.out]; exact HR.out.bel)
      obtain ⟨g, cap, hvv, hg1, hg2, hg3, hg4⟩ := OwnN.shape hl2 (by omega)
      rw [HN.out] at hvv
      simp only [Value.slice.injEq] at hvv
      obtain ⟨rfl, _, rfl⟩ := hvv
      have hco : c1 ≤ 9223372036854775807 := by unfold maxLen at hg4; omega
      obtain ⟨x0, x1, x2, x3, x4, x5, x6, x7, x8, x9, x10, x11, x12⟩ := OwnC.cells hl2 k hkl
      have h64k := H64.out l[k] (List.getElem_mem hkl)
      obtain ⟨c, hc⟩ : ∃ c, l[k] = c := ⟨_, rfl⟩
      have HCK := hidE (show ∃ h : k < l.length, l[k] = c from ⟨hkl, hc⟩)
      rw [hc] at x0 x1 x2 x3 x4 x5 x6 x7 x8 x9 x10 x11 x12 h64k
      have b3 : Below wr.heap.size wr (wr.alloc (.cells (encC c).toArray 76)) := (Below.refl _ _).alloc (Nat.le_refl _) _
      have n3 := heap_alloc_new wr (.cells (encC c).toArray 76)
      have z3 : (wr.alloc (.cells (encC c).toArray 76)).heap.size = wr.heap.size + 1 := by simp
      have R3 := HR.out.below b3
      have HLT := hidE (fun g (hg : u7.ownBlock = some g) => (OwnN.block HR.out.own g hg).2)
      obtain ⟨X, hX⟩ : ∃ X, wr.heap.size = X := ⟨_, rfl⟩
      rw [hX] at n3 z3 HLT
      obtain ⟨W3, hW3⟩ : ∃ W3, wr.alloc (.cells (encC c).toArray 76) = W3 := ⟨_, rfl⟩
      rw [hW3] at n3 z3 R3
      have HW3 : Hid (wr.alloc (.cells #[.int .i64 (c.1 0).1, .int .i64 (c.1 0).2, .int .i64 (c.1 1).1, .int .i64 (c.1 1).2, .int .i64 (c.1 2).1, .int .i64 (c.1 2).2, .int .i64 (c.1 3).1, .int .i64 (c.1 3).2, .int .i64 (c.1 4).1, .int .i64 (c.1 4).2, .int .i64 (c.1 5).1, .int .i64 (c.1 5).2, .int .u64 (c.2 : Int)] 76) = W3) := hW3
      have HX := hidE hX
      have HXS := hidE (show S < X by have := HR.out.sz; omega)
      have HR3 := hidE R3
      have HN3 := hidE n3
      have HZ3 := hidE z3
      have HOFF := hidE (show u7.ownBlock ≠ some X from fun e => Nat.lt_irrefl _ (HLT.out X e))
      clear hl2 hg1 hg2 hg3 hg4 hkl hc b3 n3 z3 R3 hW3 hX HR HLT
      go_upto_region 6 with fail
      rw [HW3.out, HX.out]
      clear x0 x1 x2 x3 x4 x5 x6 x7 x8 x9 x10 x11 x12 HW3
      go_upto_region 7 with fail
      go_loopw [7, 12, 13, 14, 15, 16, 26] (fun f _ _ _ _ _ i wr => ∃ (j : Nat) (R : List Cl), j ≤ M ∧ i = .int .i64 (j : Int) ∧ Hid (NrSt w wr S f R (R.map Prod.snd)) ∧ Hid (NarP l n C k j R) ∧ Hid (wr.heap[X]? = some (.cells (encC c).toArray 76 (0, 0))) ∧ Hid (X < wr.heap.size) ∧ Hid (f.ownBlock ≠ some X)) (fun _ _ _ _ _ _ i _ => ((M : Int) - intOf i).toNat)
      case atStart => exact ⟨0, R, by omega, rfl, HR3.out, HP.out, HN3.out, by rw [HZ3.out]; exact Nat.lt_succ_self _, HOFF.out⟩
      case round =>
        clear HR3 HP HN3 HZ3 HOFF
        obtain ⟨j, R, hj, rfl, HR, HP, HNX, HXL, HOFF⟩ := hrel
        by_cases hjm : j < M
        · have j3 : (j : Int) < (M : Int) := by omega
          have j4 : (0 : Int) ≤ (j : Int) := by omega
          have hjl : j < C.length := by rw [HM.out]; exact hjm
          have hC2 : OwnSt wr b2 (.slice a2 M c2) C := OwnN.below HC.out (by rw [HS.out]; exact HR.out.bel)
          obtain ⟨g2, cap2, hvv2, hg1, hg2', hg3, hg4⟩ := OwnN.shape hC2 (by omega)
          rw [HM.out] at hvv2
          simp only [Value.slice.injEq] at hvv2
          obtain ⟨rfl, _, rfl⟩ := hvv2
          have hco2 : c2 ≤ 9223372036854775807 := by unfold maxLen at hg4; omega
          have y0 := OwnN.cell hC2 encSt_len j hjl 0 _ rfl
          have y1 := OwnN.cell hC2 encSt_len j hjl 1 _ rfl
          have y2 := OwnN.cell hC2 encSt_len j hjl 2 _ rfl
          rw [Nat.add_zero] at y0
          have h8j := H8.out C[j] (List.getElem_mem hjl)
          have HST := hidE (show (c.2 &&& C[j].2 ∈ R.map Prod.snd → NarP l n C k (j + 1) R) ∧ (¬ c.2 &&& C[j].2 ∈ R.map Prod.snd → NarP l n C k (j + 1) (R ++ [(updB c.1 n C[j].1, c.2 &&& C[j].2)])) by
            obtain ⟨hkl, hc⟩ := HCK.out
            rw [← hc]
            exact ⟨fun h => HP.out.skip hkl hjl h, fun h => HP.out.add hkl hjl h⟩)
          have hlen := HP.out.len H8.out
          generalize C[j] = s at y0 y1 y2 h8j HST
          obtain ⟨⟨p, q⟩, f⟩ := s
          simp only at y0 y1 y2 h8j HST
          have hf64 : f < 2 ^ 64 := Nat.lt_trans h8j (by decide)
          have han := and64 h64k hf64
          have hF64 : c.2 &&& f < 2 ^ 64 := Nat.lt_of_le_of_lt Nat.and_le_left h64k
          obtain ⟨F, hF⟩ : ∃ F, c.2 &&& f = F := ⟨_, rfl⟩
          rw [hF] at han hF64 HST
          have b4 : Below wr.heap.size wr (wr.alloc (.cells #[.int .i64 p, .int .i64 q, .int .u64 (f : Int)] 54)) := (Below.refl _ _).alloc (Nat.le_refl _) _
          have n4 := heap_alloc_new wr (.cells #[.int .i64 p, .int .i64 q, .int .u64 (f : Int)] 54)
          have R4 := HR.out.below b4
          have nX4 := (b4.block X HXL.out).trans HNX.out
          obtain ⟨Y, hY⟩ : ∃ Y, wr.heap.size = Y := ⟨_, rfl⟩
          obtain ⟨W4, hW4⟩ : ∃ W4, wr.alloc (.cells #[.int .i64 p, .int .i64 q, .int .u64 (f : Int)] 54) = W4 := ⟨_, rfl⟩
          rw [hW4] at n4 R4 nX4
          rw [hY] at n4
          have hXY : X < Y := by have := HXL.out; omega
          have zY4 : Y < W4.heap.size := by rw [← hW4, ← hY]; simp
          obtain ⟨⟨e0, e1, e2⟩, _⟩ := row3 n4
          obtain ⟨d0, d1, d2, d3, d4, d5, d6, d7, d8, d9, d10, d11, d12⟩ := rowC nX4
          have hlk := R4.set.look F hF64
          have HW4 := hidE hW4
          have HY := hidE hY
          have HR4 := hidE R4
          have HN4 := hidE (And.intro n4 nX4)
          clear hC2 hg1 hg2' hg3 hg4 hjl hF b4 n4 R4 nX4 hW4 hY HR HNX HXL HP
          go_upto_region 9 with fail
          rw [HW4.out, HY.out]
          clear y0 y1 y2
          go_upto_region 11 with fail
          have b5 : Below W4.heap.size W4 (W4.alloc (.cells #[] 121)) := (Below.refl _ _).alloc (Nat.le_refl _) _
          have R5 := HR4.out.below b5
          have nY5 := (b5.block Y zY4).trans HN4.out.1
          have nX5 := (b5.block X (by omega)).trans HN4.out.2
          have zY5 : Y < (W4.alloc (.cells #[] 121)).heap.size := Nat.lt_of_lt_of_le zY4 b5.size
          obtain ⟨W5, hW5⟩ : ∃ W5, W4.alloc (.cells #[] 121) = W5 := ⟨_, rfl⟩
          rw [hW5] at R5 nY5 nX5 zY5 ⊢
          have HR5 := hidE R5
          have HN5 := hidE (And.intro nY5 nX5)
          have HZ5 := hidE zY5
          clear e0 e1 e2 d0 d1 d2 d3 d4 d5 d6 d7 d8 d9 d10 d11 d12 hlk HR4 HN4 zY4 b5 R5 nY5 nX5 zY5 hW5 han
          by_cases hin : F ∈ R.map Prod.snd
          · have hd : decide (F ∈ R.map Prod.snd) = true := by simpa using hin
            rw [hd]
            have HP2 := hidE (HST.out.1 hin)
            clear hin hd HST
            go_wp2_with fail
            go_roundw
            case rel => exact ⟨j + 1, R, by omega, by go_num, HR5.out, HP2.out, HN5.out.2, (by show X < W5.heap.size; have := HZ5.out; omega), HOFF.out⟩
            case measure => simp [intOf]; omega
          · have hd : decide (F ∈ R.map Prod.snd) = false := by simpa using hin
            rw [hd]
            have HP2 := hidE (HST.out.2 hin)
            obtain ⟨W6, hput, s6, g6⟩ := HR5.out.set.put F hF64 (by rw [List.length_map]; omega)
            have R6 := HR5.out.put s6 g6
            have hSX : S < X := HXS.out
            have nX6 := (g6.block X (by have := HZ5.out; omega) (fun e => by have e := Option.some.inj e; omega)).trans HN5.out.2
            have nY6 := (g6.block Y HZ5.out (fun e => by have e := Option.some.inj e; omega)).trans HN5.out.1
            have zY6 : Y < W6.heap.size := Nat.lt_of_lt_of_le HZ5.out g6.size
            have b7 : Below W6.heap.size W6 (W6.alloc (.cells (encB c.1).toArray 74)) := (Below.refl _ _).alloc (Nat.le_refl _) _
            have n7 := heap_alloc_new W6 (.cells (encB c.1).toArray 74)
            have R7 := R6.below b7
            have nX7 := (b7.block X (by omega)).trans nX6
            have nY7 := (b7.block Y zY6).trans nY6
            have z7 : (W6.alloc (.cells (encB c.1).toArray 74)).heap.size = W6.heap.size + 1 := by simp
            obtain ⟨Z, hZ⟩ : ∃ Z, W6.heap.size = Z := ⟨_, rfl⟩
            obtain ⟨W7, hW7⟩ : ∃ W7, W6.alloc (.cells (encB c.1).toArray 74) = W7 := ⟨_, rfl⟩
            rw [hW7] at n7 R7 nX7 nY7 z7
            rw [hZ] at n7 z7 zY6
            have HW7 : Hid (W6.alloc (.cells #[.int .i64 (c.1 0).1, .int .i64 (c.1 0).2, .int .i64 (c.1 1).1, .int .i64 (c.1 1).2, .int .i64 (c.1 2).1, .int .i64 (c.1 2).2, .int .i64 (c.1 3).1, .int .i64 (c.1 3).2, .int .i64 (c.1 4).1, .int .i64 (c.1 4).2, .int .i64 (c.1 5).1, .int .i64 (c.1 5).2] 74) = W7) := hW7
            have HZ := hidE hZ
            obtain ⟨d0, d1, d2, d3, d4, d5, d6, d7, d8, d9, d10, d11, d12⟩ := rowC nX6
            obtain ⟨W8, hW8, n8, o8, b8, z8⟩ := setB n7 hn p q
            have R8 : NrSt w W8 S u7 R (R.map Prod.snd ++ [F]) := by
              have hb := R7.own
              refine ⟨R7.set.blk (o8 S (by omega)), OwnN.blk R7.own (fun g hg => o8 g (fun e => ?_)), R7.bel.trans (b8.mono (by omega)), by rw [z8]; exact R7.sz⟩
              have h1 := (OwnN.block R6.own g hg).2
              omega
            have nX8 := (o8 X (by omega)).trans nX7
            obtain ⟨⟨e0, e1, e2⟩, _⟩ := row3 nY7
            obtain ⟨t0, t1⟩ := sideB n7 hn
            have fz0 : W7.frozen? ⟨Z, n * 2, none⟩ = false := frozen_of_row _ _ _ _ _ n7
            have fz1 : W7.frozen? ⟨Z, n * 2 + 1, none⟩ = false := frozen_of_row _ _ _ _ _ n7
            have hW8a : (W7.setCell ⟨Z, n * 2, none⟩ (.int .i64 p)).cell? ⟨Z, n * 2 + 1, none⟩ = some (.int .i64 ((c.1 n).2)) ∧ (W7.setCell ⟨Z, n * 2, none⟩ (.int .i64 p)).frozen? ⟨Z, n * 2 + 1, none⟩ = false := by
              have h := heap_setCell_same W7 Z (n * 2) _ _ (.int .i64 p) n7
              refine ⟨?_, frozen_of_row _ _ _ _ _ h⟩
              rw [cell_of_row _ _ _ _ _ _ h]
              rw [cell_of_row _ _ _ _ _ _ n7] at t1
              rw [Array.getElem?_setIfInBounds_ne (by omega)]
              exact t1
            have HW8 := hidE hW8
            obtain ⟨B', hB'⟩ : ∃ B', updB c.1 n (p, q) = B' := ⟨_, rfl⟩
            rw [hB'] at n8 HP2
            obtain ⟨q0, q1, q2, q3, q4, q5, q6, q7, q8, q9, q10, q11⟩ := rowB n8
            have own8 := R8.own
            have hb8 := R8.sz
            have hl8 : R.length ≤ 1000000 := by omega
            have HR8 := hidE R8
            have HN8 := hidE nX8
            have hz8 : Z < W8.heap.size := by omega
            obtain ⟨m1, m2⟩ := hW8a
            clear hin hd HST s6 g6 R6 R7 nX6 nY6 b7 n7 nX7 nY7 z7 hZ hW7 hW8 n8 o8 b8 z8 R8 nX8 hB' HR5 HN5
            go_upto_region 14 with fail
            rw [HW7.out, HZ.out]
            clear d0 d1 d2 d3 d4 d5 d6 d7 d8 d9 d10 d11 d12
            go_upto_region 15 with fail
            rw [HW8.out]
            clear t0 t1 e0 e1 e2 fz0 fz1 m1 m2 hput
            go_wp2_with (at_builtin; refine wpList_append_cl (base := S + 1) rfl (.tmp 51) (.tmp 55) rfl rfl own8 (B', F) rfl hl8 hb8 ?_; intro v9 W9 own9 gr9 lie9)
            have R9 := HR8.out.append own9 gr9
            have b9 : Below W8.heap.size W8 (W8.alloc (.cells (encC (B', F)).toArray 76)) := (Below.refl _ _).alloc (Nat.le_refl _) _
            have nX9 := (gr9.block X (by have := b9.size; omega) (fun e => HOFF.out e.symm)).trans ((b9.block X (by omega)).trans HN8.out)
            have hX9 : X < W9.heap.size := by have := gr9.size; have := b9.size; omega
            have hO9 : v9.ownBlock ≠ some X := by
              rcases lie9 with e | e
              · rw [e]; exact HOFF.out
              · rw [e]; intro e2; have e2 := Option.some.inj e2; omega
            have hks : R.map Prod.snd ++ [F] = (R ++ [(B', F)]).map Prod.snd := by simp
            rw [hks] at R9
            go_roundw
            case rel => exact ⟨j + 1, R ++ [(B', F)], by omega, by go_num, R9, HP2.out, nX9, hX9, hO9⟩
            case measure => simp [intOf]; omega
        · have j3 : ¬ (j : Int) < (M : Int) := by omega
          have hje : j = C.length := by rw [HM.out]; omega
          rw [hje] at HP
          have HP2 := hidE HP.out.next
          clear hje HP
          go_wp2
          go_roundw
          case rel => exact ⟨k + 1, R, by omega, by go_num, HR.out, HP2.out⟩
          case measure => simp [intOf]; omega
    · have j1 : ¬ (k : Int) < (N : Int) := by omega
      have hke : k = l.length := by rw [HN.out]; omega
      rw [hke] at HP
      have HF := hidE (HQ.out u7 R wr (OwnN.rebase HR.out.own (Nat.le_succ _)) HP.out.done HR.out.bel)
      clear hke HP HR HQ
      go_wp2
      exact HF.out
end Go.Proofs.Ytdellfmkmbabhaa

namespace Go.Proofs.Ytdellfmkmbabhaa
open Go.RowKit Go.Maps
set_option linter.unusedVariables false
set_option maxRecDepth 10000

theorem OwnC.one {w : World} {g base : Nat} {c : Cl} (h : w.heap[g]? = some (.cells (encC c).toArray 76 (0, 0))) (hb : base ≤ g) : OwnC w base (.slice (some ⟨g, 0, none⟩) 1 1) [c] := by
  refine ⟨?_, .inr ⟨g, 1, _, rfl, hb, h, Nat.le_refl _, by unfold maxLen; omega, ?_, ?_⟩⟩
  · rfl
  · rfl
  · simp [encC]
theorem Try.infoStS : (Try.prog.info? 57).map (fun i => (i.zero, i.size, i.bytes)) = some (some (.slice none 0 0), 1, 24) := by kernel_rfl
theorem cut_idx {cv : Nat → Value} {i : Nat} (hi : i < 6) (W : World) : (Instr.index 59 (.agg #[cv 0, cv 1, cv 2, cv 3, cv 4, cv 5]) (.int .i64 (i : Int))).run Try.prog W = .ok (cv i) W := by
  obtain ⟨i0, hi0, hz0, hz1, hz2⟩ := info_parts Try.infoStS
  match i, hi with
  | 0, _ => simp [Instr.index, asIntOf, run_underlying Try.underlying59, run_underlying Try.underlying57, sizeOf, typeInfo, hi0, hz1, part, isAgg]
  | 1, _ => simp [Instr.index, asIntOf, run_underlying Try.underlying59, run_underlying Try.underlying57, sizeOf, typeInfo, hi0, hz1, part, isAgg]
  | 2, _ => simp [Instr.index, asIntOf, run_underlying Try.underlying59, run_underlying Try.underlying57, sizeOf, typeInfo, hi0, hz1, part, isAgg]
  | 3, _ => simp [Instr.index, asIntOf, run_underlying Try.underlying59, run_underlying Try.underlying57, sizeOf, typeInfo, hi0, hz1, part, isAgg]
  | 4, _ => simp [Instr.index, asIntOf, run_underlying Try.underlying59, run_underlying Try.underlying57, sizeOf, typeInfo, hi0, hz1, part, isAgg]
  | 5, _ => simp [Instr.index, asIntOf, run_underlying Try.underlying59, run_underlying Try.underlying57, sizeOf, typeInfo, hi0, hz1, part, isAgg]
theorem cut_small {i : Nat} {RS : List Rl} {C : List St} (ok : CutOk (sideLo i) (sideHi i) (askL RS i) C) (h8 : RS.length ≤ 8) : ∀ s ∈ C, s.2 < 256 := by
  intro s hs
  obtain ⟨m, hm, rfl⟩ := List.getElem_of_mem hs
  rw [← ok.fit m hm _ (Int.le_refl _) (ok.some' m hm)]
  have := fitV_lt (askL RS i) C[m].1.1
  rw [show (askL RS i).length = RS.length from by unfold askL; rw [List.length_map]] at this
  have h2 : 2 ^ RS.length ≤ 2 ^ 8 := Nat.pow_le_pow_right (by omega) h8
  omega
set_option maxHeartbeats 16000000 in
theorem classes_any (w0 W : World) (P : Nat) (RS : List Rl) (dv : Value) (cv : Nat → Value) (Cs : Nat → List St) (hL : LaySt w0 W P 6 RS dv cv Cs) (h8 : RS.length ≤ 8) :
    Calls Try.prog 19 #[.pointer (some ⟨P, 0, none⟩)] W fun e W' => ∃ v' R, e = .returned v' ∧ OwnC W' W.heap.size v' R ∧ (∀ c ∈ R, ClOk RS 6 c) ∧ ClAll RS 6 R ∧ R.length ≤ 256 ∧ Below W.heap.size W W' := by
  obtain ⟨Q, hQ⟩ : ∃ Q : Ending → World → Prop, Q = fun e W' => ∃ v' R, e = .returned v' ∧ OwnC W' W.heap.size v' R ∧ (∀ c ∈ R, ClOk RS 6 c) ∧ ClAll RS 6 R ∧ R.length ≤ 256 ∧ Below W.heap.size W W' := ⟨_, rfl⟩
  have HQ : Hid (∀ v' R W', OwnC W' W.heap.size v' R → (∀ c ∈ R, ClOk RS 6 c) → ClAll RS 6 R → R.length ≤ 256 → Below W.heap.size W W' → Q (.returned v') W') := by rw [hQ]; exact fun v' R W' h1 h2 h3 h4 h5 => ⟨v', R, rfl, h1, h2, h3, h4, h5⟩
  rw [← hQ]
  clear hQ
  have hwh := whole_plan W
  unfold wholeA at hwh
  have HL := hidE hL
  have H8 := hidE h8
  clear hL h8
  go_enter Try.func19, Try.ntmps19
  go_upto_region 2 with (go_at_call 24; go_must (refine hwh.mono ?_; rintro e w1 ⟨rfl, b1⟩))
  have b2 : Below w1.heap.size w1 (w1.alloc (.cells (encC (wholeB, 18446744073709551615)).toArray 76)) := (Below.refl _ _).alloc (Nat.le_refl _) _
  have n2 := heap_alloc_new w1 (.cells (encC (wholeB, 18446744073709551615)).toArray 76)
  have O2 := OwnC.one (base := W.heap.size) n2 b1.size
  have L2 := (HL.out.below b1).below b2
  have B2 := b1.trans (b2.mono b1.size)
  obtain ⟨W2, hW2⟩ : ∃ W2, w1.alloc (.cells (encC (wholeB, 18446744073709551615)).toArray 76) = W2 := ⟨_, rfl⟩
  rw [hW2] at O2 L2 B2
  have HW2 : Hid (w1.alloc (.cells #[.int .i64 1, .int .i64 2, .int .i64 0, .int .i64 15, .int .i64 0, .int .i64 4294967295, .int .i64 0, .int .i64 65535, .int .i64 0, .int .i64 4294967295, .int .i64 0, .int .i64 65535, .int .u64 18446744073709551615] 76) = W2) := hW2
  rw [HW2.out]
  obtain ⟨S2, hS2⟩ : ∃ S2, w1.heap.size = S2 := ⟨_, rfl⟩
  rw [hS2] at O2 ⊢
  have r0 := (L2.at (i := 0) (by omega)).1
  have r1 := (L2.at (i := 1) (by omega)).1
  have r2 := (L2.at (i := 2) (by omega)).1
  have r3 := (L2.at (i := 3) (by omega)).1
  have r4 := (L2.at (i := 4) (by omega)).1
  have r5 := (L2.at (i := 5) (by omega)).1
  have HL2 := hidE L2
  have HO2 := hidE O2
  have HB2 := hidE B2
  have hidx := fun i (hi : i < 6) W => cut_idx (cv := cv) hi W
  have HIX := hidE hidx
  clear hwh b1 b2 n2 O2 L2 B2 hW2 HW2 hS2 HL hidx
  go_upto_region 3 with fail
  generalize Value.agg #[cv 0, cv 1, cv 2, cv 3, cv 4, cv 5] = AA at HIX ⊢
  clear r0 r1 r2 r3 r4 r5
  go_loopw [3, 4, 5, 13] (fun f _ _ i wr => ∃ (n : Nat) (R : List Cl), n ≤ 6 ∧ i = .int .i64 (n : Int) ∧ Hid (OwnC wr W.heap.size f R) ∧ Hid (∀ c ∈ R, ClOk RS n c) ∧ Hid (ClAll RS n R) ∧ Hid (R.length ≤ 256) ∧ Hid (LaySt w0 wr P 6 RS dv cv Cs) ∧ Hid (Below W.heap.size W wr)) (fun _ _ _ i _ => ((6 : Int) - intOf i).toNat)
  case atStart => exact ⟨0, [(wholeB, 18446744073709551615)], by omega, rfl, HO2.out, (fun c hc => by rw [List.mem_singleton] at hc; subst hc; exact whole_ok RS), whole_all RS, (by show 1 ≤ 256; omega), HL2.out, HB2.out⟩
  case round =>
    clear HO2 HL2 HB2
    obtain ⟨n, R, hn6, rfl, HO, HK, HA, HN, HL, HB⟩ := hrel
    by_cases hlt : n < 6
    · have j1 : (n : Int) < 6 := by omega
      have j2 : (0 : Int) ≤ (n : Int) := by omega
      have hix := HIX.out n hlt
      obtain ⟨o1, o2, o3⟩ := HL.out.cut n hlt
      have hna := narrow_any _ (cv n) R n (Cs n) W.heap.size (P + 1) wr HO.out o1 hlt (cut_small o2 H8.out) (fun c hc => by rw [(HK.out c hc).2]; exact atV_lt RS _ n) (by have := HN.out; omega) o3
      have HST := hidE (fun R' (h : NarIs R n (Cs n) R') => And.intro (h.ok hlt o2 HK.out) (And.intro (h.full hlt o2 HA.out) (h.len hlt o2 HK.out H8.out)))
      obtain ⟨a1, k1, hc1⟩ := OwnN.len o1
      generalize cv n = cvn at hix hna hc1
      subst hc1
      obtain ⟨a3, k3, hf3⟩ := OwnN.len HO.out
      generalize R.length = m3 at hf3
      subst hf3
      generalize (Cs n).length = m1 at hix hna
      clear o1 o2 o3 HIX HO HK HA HN
      go_wp2_with (go_at_call 40; go_must (refine hna.mono ?_; rintro e w3 ⟨v3, R3, rfl, O3, N3, b3⟩))
      obtain ⟨s1, s2, s3⟩ := HST.out R3 N3
      have O3' := OwnN.rebase O3 (b' := W.heap.size) HB.out.size
      go_roundw
      case rel => exact ⟨n + 1, R3, by omega, by go_num, O3', s1, s2, s3, HL.out.below b3, HB.out.trans (b3.mono HB.out.size)⟩
      case measure => simp [intOf]; omega
    · have j1 : ¬ (n : Int) < 6 := by omega
      have e6 : n = 6 := by omega
      subst e6
      have HF := hidE (HQ.out _ R wr HO.out HK.out HA.out HN.out HB.out)
      clear HO HK HA HN HL HB HQ HIX
      go_wp2
      exact HF.out
set_option maxHeartbeats 4000000 in
theorem lowest_any0 (a0 a1 a2 a3 a4 a5 a6 a7 a8 a9 a10 a11 : Int) (w : World) : Calls Try.prog 41 #[.agg #[.int .i64 a0, .int .i64 a1, .int .i64 a2, .int .i64 a3, .int .i64 a4, .int .i64 a5, .int .i64 a6, .int .i64 a7, .int .i64 a8, .int .i64 a9, .int .i64 a10, .int .i64 a11]] w fun e w' => e = .returned (.tuple #[.agg #[.int .i64 a2, .int .i64 a4, .int .i64 a6, .int .i64 a8, .int .i64 a10], .int .i64 a0]) ∧ Below w.heap.size w w' := by
  have hb : Below w.heap.size w (((w.alloc (.cells #[.int .i64 a0, .int .i64 a1, .int .i64 a2, .int .i64 a3, .int .i64 a4, .int .i64 a5, .int .i64 a6, .int .i64 a7, .int .i64 a8, .int .i64 a9, .int .i64 a10, .int .i64 a11] 74)).alloc (.cells #[.int .i64 a2, .int .i64 a4, .int .i64 a6, .int .i64 a8, .int .i64 a10] 24)).alloc (.cells #[.int .i64 a2, .int .i64 a4, .int .i64 a6, .int .i64 a8, .int .i64 a10] 24)) := (((Below.refl _ _).alloc (Nat.le_refl _) _).alloc (by simp) _).alloc (by simp; omega) _
  go_enter Try.func41, Try.ntmps41
  go_upto_region 2 with fail
  go_region
  all_goals
    go_wp2
    exact bodyPost_ret (v := .tuple #[.agg #[.int .i64 a2, .int .i64 a4, .int .i64 a6, .int .i64 a8, .int .i64 a10], .int .i64 a0]) (by simp [results, Try.results41, go_sem]) rfl ⟨rfl, hb.drew⟩
theorem lowest_any (b : Bx) (w : World) : Calls Try.prog 41 #[.agg #[.int .i64 (b 0).1, .int .i64 (b 0).2, .int .i64 (b 1).1, .int .i64 (b 1).2, .int .i64 (b 2).1, .int .i64 (b 2).2, .int .i64 (b 3).1, .int .i64 (b 3).2, .int .i64 (b 4).1, .int .i64 (b 4).2, .int .i64 (b 5).1, .int .i64 (b 5).2]] w fun e w' => e = .returned (.tuple #[keyV (keyAt fun i => (b i).1), .int .i64 (b 0).1]) ∧ Below w.heap.size w w' := lowest_any0 _ _ _ _ _ _ _ _ _ _ _ _ w
end Go.Proofs.Ytdellfmkmbabhaa

namespace Go.Proofs.Ytdellfmkmbabhaa
open Go.RowKit Go.Maps
set_option linter.unusedVariables false
set_option maxRecDepth 10000

/-- What a closure over bits does. -/
def IsF (W0 : World) (fn : Nat) (caps : Array Value) (pr : Nat → Bool) : Prop := ∀ (F : Nat) (W : World), F < 2 ^ 64 → Below W0.heap.size W0 W → Calls Try.prog fn (#[.int .u64 (F : Int)] ++ caps) W fun e w' => e = .returned (.bool (pr F)) ∧ Below W.heap.size W w'
/-- What is told: a key whose bits are looked for; or none is. -/
def FstR (RS : List Rl) (pr : Nat → Bool) (e : Ending) : Prop := (∃ k way, keyB k way = true ∧ pr (atV RS (ptS k way) 6) = true ∧ e = .returned (.tuple #[keyV k, .int .i64 way, .nilIface])) ∨ ((∀ k way, keyB k way = true → pr (atV RS (ptS k way) 6) = false) ∧ e = .returned (.tuple #[keyV ⟨0, 0, 0, 0, 0⟩, .int .i64 0, .iface 62 (.int .i64 5)]))
theorem cl_key {RS : List Rl} {c : Cl} (h : ClOk RS 6 c) : keyB (keyAt fun i => (c.1 i).1) (c.1 0).1 = true ∧ atV RS (ptS (keyAt fun i => (c.1 i).1) (c.1 0).1) 6 = c.2 := by
  constructor
  · refine keyB_ok.2 (fun i hi => ?_)
    have := h.1 i hi
    have e := ptS_keyAt (fun i => (c.1 i).1) hi
    rw [show ptS (keyAt fun i => (c.1 i).1) (c.1 0).1 i = (c.1 i).1 from e]
    omega
  · rw [h.2]
    refine atV_same (fun i hi => ?_)
    have e := ptS_keyAt (fun i => (c.1 i).1) hi
    rw [show ptS (keyAt fun i => (c.1 i).1) (c.1 0).1 i = (c.1 i).1 from e]
theorem set5 {W : World} {g : Nat} {a0 a1 a2 a3 a4 : Value} {t : TypeId} (h : W.heap[g]? = some (.cells #[a0, a1, a2, a3, a4] t (0, 0))) (x0 x1 x2 x3 x4 : Value) :
    ∃ W', ((((W.setCell ⟨g, 0, none⟩ x0).setCell ⟨g, 1, none⟩ x1).setCell ⟨g, 2, none⟩ x2).setCell ⟨g, 3, none⟩ x3).setCell ⟨g, 4, none⟩ x4 = W' ∧ W'.heap[g]? = some (.cells #[x0, x1, x2, x3, x4] t (0, 0)) ∧ Below g W W' := by
  have e0 := heap_setCell_same W g 0 _ _ x0 h
  have b0 := (Below.refl g W).setCell (p := ⟨g, 0, none⟩) (Nat.le_refl _) x0
  generalize W.setCell ⟨g, 0, none⟩ x0 = W1 at e0 b0 ⊢
  have e1 := heap_setCell_same W1 g 1 _ _ x1 e0
  have b1 := b0.setCell (p := ⟨g, 1, none⟩) (Nat.le_refl _) x1
  generalize W1.setCell ⟨g, 1, none⟩ x1 = W2 at e1 b1 ⊢
  have e2 := heap_setCell_same W2 g 2 _ _ x2 e1
  have b2 := b1.setCell (p := ⟨g, 2, none⟩) (Nat.le_refl _) x2
  generalize W2.setCell ⟨g, 2, none⟩ x2 = W3 at e2 b2 ⊢
  have e3 := heap_setCell_same W3 g 3 _ _ x3 e2
  have b3 := b2.setCell (p := ⟨g, 3, none⟩) (Nat.le_refl _) x3
  generalize W3.setCell ⟨g, 3, none⟩ x3 = W4 at e3 b3 ⊢
  have e4 := heap_setCell_same W4 g 4 _ _ x4 e3
  exact ⟨_, rfl, e4, b3.setCell (p := ⟨g, 4, none⟩) (Nat.le_refl _) x4⟩
theorem row5 {W : World} {g : Nat} {a0 a1 a2 a3 a4 : Value} {t : TypeId} (h : W.heap[g]? = some (.cells #[a0, a1, a2, a3, a4] t (0, 0))) : (W.cell? ⟨g, 0, none⟩ = some a0 ∧ W.cell? ⟨g, 1, none⟩ = some a1 ∧ W.cell? ⟨g, 2, none⟩ = some a2 ∧ W.cell? ⟨g, 3, none⟩ = some a3 ∧ W.cell? ⟨g, 4, none⟩ = some a4) ∧ (∀ j, W.frozen? ⟨g, j, none⟩ = false) :=
  ⟨⟨by rw [cell_of_row _ _ _ _ _ _ h]; rfl, by rw [cell_of_row _ _ _ _ _ _ h]; rfl, by rw [cell_of_row _ _ _ _ _ _ h]; rfl, by rw [cell_of_row _ _ _ _ _ _ h]; rfl, by rw [cell_of_row _ _ _ _ _ _ h]; rfl⟩, fun j => frozen_of_row _ _ _ _ _ h⟩
set_option maxHeartbeats 16000000 in
theorem first_any (w0 W : World) (P : Nat) (RS : List Rl) (dv : Value) (cv : Nat → Value) (Cs : Nat → List St) (fn : Nat) (caps : Array Value) (pr : Nat → Bool) (hL : LaySt w0 W P 6 RS dv cv Cs) (h8 : RS.length ≤ 8) (hf : IsF W fn caps pr) (eg : ∀ args w, (callFunc fn args).run Try.prog w = .ok (.enter fn args) w) :
    Calls Try.prog 20 #[.pointer (some ⟨P, 0, none⟩), .func (.func fn) #[] caps] W fun e W' => FstR RS pr e ∧ Below W.heap.size W W' := by
  obtain ⟨Q, hQ⟩ : ∃ Q : Ending → World → Prop, Q = fun e W' => FstR RS pr e ∧ Below W.heap.size W W' := ⟨_, rfl⟩
  have HQ : Hid (∀ e W', FstR RS pr e → Below W.heap.size W W' → Q e W') := by rw [hQ]; exact fun e W' h1 h2 => ⟨h1, h2⟩
  rw [← hQ]
  clear hQ
  have b0 : Below W.heap.size W (W.alloc (.cells #[.int .i64 0, .int .i64 0, .int .i64 0, .int .i64 0, .int .i64 0] 24)) := (Below.refl _ _).alloc (Nat.le_refl _) _
  have n0 := heap_alloc_new W (.cells #[.int .i64 0, .int .i64 0, .int .i64 0, .int .i64 0, .int .i64 0] 24)
  have z0 : (W.alloc (.cells #[.int .i64 0, .int .i64 0, .int .i64 0, .int .i64 0, .int .i64 0] 24)).heap.size = W.heap.size + 1 := by simp
  have hcl := classes_any w0 _ P RS dv cv Cs (hL.below b0) h8
  obtain ⟨W0, hW0⟩ : ∃ W0, W.alloc (.cells #[.int .i64 0, .int .i64 0, .int .i64 0, .int .i64 0, .int .i64 0] 24) = W0 := ⟨_, rfl⟩
  rw [hW0] at b0 n0 z0 hcl
  obtain ⟨S, hS⟩ : ∃ S, W.heap.size = S := ⟨_, rfl⟩
  rw [hS] at b0 n0 z0 HQ
  have HS := hidE hS
  have HW0 := hidE hW0
  have HB0 := hidE b0
  have HN0 := hidE n0
  have HZ0 := hidE z0
  have HF := hidE hf
  have hcl' := hcl.mono (R' := fun e w' => ∃ a m c R, e = .returned (.slice a m c) ∧ R.length = m ∧ OwnC w' W0.heap.size (.slice a m c) R ∧ (∀ c ∈ R, ClOk RS 6 c) ∧ ClAll RS 6 R ∧ R.length ≤ 256 ∧ Below W0.heap.size W0 w') (fun e w' h => by
    obtain ⟨v', R, rfl, h1, h2, h3, h4, h5⟩ := h
    obtain ⟨a, c, rfl⟩ := OwnN.len h1
    exact ⟨a, _, c, R, rfl, rfl, h1, h2, h3, h4, h5⟩)
  clear hL h8 hf b0 n0 z0 hW0 hS hcl
  go_enter Try.func20, Try.ntmps20
  go_upto_region 1 with fail
  rw [HW0.out, HS.out]
  clear HW0
  go_upto_region 2 with (go_at_call 19; go_must (refine hcl'.mono ?_; rintro e w1 ⟨a1, M, c1, R, rfl, hM, O1, K1, A1, hM2, b1⟩))
  have HN1 := hidE ((b1.block S (by have := HZ0.out; omega)).trans HN0.out)
  have HB1 := hidE (HB0.out.trans (b1.mono (by have := HZ0.out; omega)))
  have HO1 := hidE O1
  have HK := hidE K1
  have HA := hidE A1
  have HM := hidE hM
  have hM3 : M ≤ 256 := by omega
  have HZ1 := hidE (show S + 1 ≤ w1.heap.size by have := b1.size; have := HZ0.out; omega)
  clear hcl' O1 K1 A1 hM hM2 b1 HN0 HB0
  go_loopw [8, 9, 10, 14] (fun _ _ _ i wr => ∃ k : Nat, k ≤ M ∧ i = .int .i64 (k : Int) ∧ Hid (Below w1.heap.size w1 wr) ∧ Hid (∀ i (h : i < R.length), i < k → pr R[i].2 = false)) (fun _ _ _ i _ => ((M : Int) - intOf i).toNat)
  case atStart => exact ⟨0, by omega, rfl, Below.refl _ _, fun i h h2 => absurd h2 (Nat.not_lt_zero _)⟩
  case round =>
    obtain ⟨k, hk, rfl, HB, HNO⟩ := hrel
    have HBW := hidE (HB1.out.trans (HB.out.mono (by have := HZ1.out; omega)))
    have hnS := (HB.out.block S (by have := HZ1.out; omega)).trans HN1.out
    have HZW := hidE (Nat.le_trans HZ1.out HB.out.size)
    by_cases hkn : k < M
    · have j1 : (k : Int) < (M : Int) := by omega
      have j2 : (0 : Int) ≤ (k : Int) := by omega
      have hkl : k < R.length := by rw [HM.out]; exact hkn
      have hO2 : OwnC wr W0.heap.size (.slice a1 M c1) R := OwnN.below HO1.out HB.out
      obtain ⟨g, cap, hvv, hg1, hg2, hg3, hg4⟩ := OwnN.shape hO2 (by omega)
      rw [HM.out] at hvv
      simp only [Value.slice.injEq] at hvv
      obtain ⟨rfl, _, rfl⟩ := hvv
      have hco : c1 ≤ 9223372036854775807 := by unfold maxLen at hg4; omega
      obtain ⟨x0, x1, x2, x3, x4, x5, x6, x7, x8, x9, x10, x11, x12⟩ := OwnC.cells hO2 k hkl
      have hck := HK.out R[k] (List.getElem_mem hkl)
      have HNX := hidE (show pr R[k].2 = false → ∀ i (h : i < R.length), i < k + 1 → pr R[i].2 = false from fun hf i h hi => by
        rcases Nat.lt_or_ge i k with h1 | h1
        · exact HNO.out i h h1
        · have : i = k := by omega
          subst this; exact hf)
      obtain ⟨c, hc⟩ : ∃ c, R[k] = c := ⟨_, rfl⟩
      rw [hc] at x0 x1 x2 x3 x4 x5 x6 x7 x8 x9 x10 x11 x12 hck HNX
      have hF64 : c.2 < 2 ^ 64 := by rw [hck.2]; exact atV_lt RS _ 6
      have b3 : Below wr.heap.size wr (wr.alloc (.cells (encC c).toArray 76)) := (Below.refl _ _).alloc (Nat.le_refl _) _
      have n3 := heap_alloc_new wr (.cells (encC c).toArray 76)
      have hnS3 := (b3.block S (by have := HZW.out; omega)).trans hnS
      have B3 := HB.out.trans (b3.mono HB.out.size)
      obtain ⟨X, hX⟩ : ∃ X, wr.heap.size = X := ⟨_, rfl⟩
      obtain ⟨W3, hW3⟩ : ∃ W3, wr.alloc (.cells (encC c).toArray 76) = W3 := ⟨_, rfl⟩
      have z3 : X < W3.heap.size := by rw [← hW3, ← hX]; simp
      rw [hW3] at n3 hnS3 B3
      rw [hX] at n3
      have HW3 : Hid (wr.alloc (.cells #[.int .i64 (c.1 0).1, .int .i64 (c.1 0).2, .int .i64 (c.1 1).1, .int .i64 (c.1 1).2, .int .i64 (c.1 2).1, .int .i64 (c.1 2).2, .int .i64 (c.1 3).1, .int .i64 (c.1 3).2, .int .i64 (c.1 4).1, .int .i64 (c.1 4).2, .int .i64 (c.1 5).1, .int .i64 (c.1 5).2, .int .u64 (c.2 : Int)] 76) = W3) := hW3
      have HX := hidE hX
      have hff := HF.out c.2 W3 hF64 (by rw [HS.out]; exact HB1.out.trans (B3.mono (by have := HZ1.out; omega)))
      obtain ⟨d0, d1, d2, d3, d4, d5, d6, d7, d8, d9, d10, d11, d12⟩ := rowC n3
      have HN3 := hidE (And.intro n3 hnS3)
      have HB3 := hidE B3
      have hXS : S < X := by have := HZW.out; omega
      clear hO2 hg1 hg2 hg3 hg4 hkl hc b3 n3 hnS3 B3 hX hW3 hnS HB HNO HF
      go_upto_region 4 with fail
      rw [HW3.out, HX.out]
      clear x0 x1 x2 x3 x4 x5 x6 x7 x8 x9 x10 x11 x12 HW3
      rcases hp : pr c.2 with _ | _
      · rw [hp] at hff
        have HN2 := hidE (HNX.out hp)
        clear hp HNX
        go_wp2_with (refine hff.mono ?_; rintro e w4 ⟨rfl, b4⟩)
        go_roundw
        case rel => exact ⟨k + 1, by omega, by go_num, HB3.out.trans (b4.mono HB3.out.size), HN2.out⟩
        case measure => simp [intOf]; omega
      · rw [hp] at hff
        obtain ⟨ck1, ck2⟩ := cl_key hck
        have HFR := hidE (show FstR RS pr (.returned (.tuple #[keyV (keyAt fun i => (c.1 i).1), .int .i64 (c.1 0).1, .nilIface])) from .inl ⟨_, _, ck1, by rw [ck2]; exact hp, rfl⟩)
        clear hp HNX ck1 ck2 hck d0 d1 d2 d3 d4 d5 d6 d7 d8 d9 d10 d11
        go_upto_region 5 with (refine hff.mono ?_; rintro e w4 ⟨rfl, b4⟩)
        have n4 := (b4.block X z3).trans HN3.out.1
        have s4 := (b4.block S (by omega)).trans HN3.out.2
        have B4 := HB3.out.trans (b4.mono HB3.out.size)
        have z4 : X < w4.heap.size := Nat.lt_of_lt_of_le z3 b4.size
        obtain ⟨d0, d1, d2, d3, d4, d5, d6, d7, d8, d9, d10, d11, d13⟩ := rowC n4
        have hlw := lowest_any c.1 w4
        have HS4 := hidE s4
        have HB4 := hidE B4
        unfold keyV keyAt at hlw HFR
        simp only at hlw HFR
        clear hff b4 n4 s4 B4 d12 d13
        go_upto_region 6 with (go_at_call 41; go_must (refine hlw.mono ?_; rintro e w5 ⟨rfl, b5⟩))
        have b6 : Below w5.heap.size w5 (w5.alloc (.cells #[.int .i64 (c.1 1).1, .int .i64 (c.1 2).1, .int .i64 (c.1 3).1, .int .i64 (c.1 4).1, .int .i64 (c.1 5).1] 24)) := (Below.refl _ _).alloc (Nat.le_refl _) _
        have n6 := heap_alloc_new w5 (.cells #[.int .i64 (c.1 1).1, .int .i64 (c.1 2).1, .int .i64 (c.1 3).1, .int .i64 (c.1 4).1, .int .i64 (c.1 5).1] 24)
        have s6 := (b6.block S (by have := b5.size; omega)).trans ((b5.block S (by omega)).trans HS4.out)
        have B5 := HB4.out.trans (b5.mono HB4.out.size)
        have B6 := B5.trans (b6.mono B5.size)
        obtain ⟨Y, hY⟩ : ∃ Y, w5.heap.size = Y := ⟨_, rfl⟩
        obtain ⟨W6, hW6⟩ : ∃ W6, w5.alloc (.cells #[.int .i64 (c.1 1).1, .int .i64 (c.1 2).1, .int .i64 (c.1 3).1, .int .i64 (c.1 4).1, .int .i64 (c.1 5).1] 24) = W6 := ⟨_, rfl⟩
        rw [hW6] at n6 s6 B6 ⊢
        rw [hY] at n6 ⊢
        obtain ⟨⟨f0, f1, f2, f3, f4⟩, _⟩ := row5 n6
        obtain ⟨⟨g0, g1, g2, g3, g4⟩, gz⟩ := row5 s6
        have gz0 := gz 0
        have gz1 := gz 1
        have gz2 := gz 2
        have gz3 := gz 3
        have gz4 := gz 4
        obtain ⟨W9, hW9, n9, b9⟩ := set5 s6 (.int .i64 (c.1 1).1) (.int .i64 (c.1 2).1) (.int .i64 (c.1 3).1) (.int .i64 (c.1 4).1) (.int .i64 (c.1 5).1)
        obtain ⟨⟨q0, q1, q2, q3, q4⟩, _⟩ := row5 n9
        have HQ9 := hidE (And.intro q0 (And.intro q1 (And.intro q2 (And.intro q3 q4))))
        have HW9 := hidE hW9
        have HB9 := hidE ((HB1.out.trans (B6.mono (by have := HZ1.out; omega))).trans b9)
        have HF9 := hidE (HQ.out _ W9 HFR.out HB9.out)
        clear hlw b5 b6 n6 s6 B5 B6 hY hW6 gz hW9 n9 b9 q0 q1 q2 q3 q4 d0 d1 d2 d3 d4 d5 d6 d7 d8 d9 d10 d11
        go_wp2_with fail
        rw [HW9.out]
        obtain ⟨q0, q1, q2, q3, q4⟩ := HQ9.out
        exact bodyPost_ret (v := .tuple #[.agg #[.int .i64 (c.1 1).1, .int .i64 (c.1 2).1, .int .i64 (c.1 3).1, .int .i64 (c.1 4).1, .int .i64 (c.1 5).1], .int .i64 (c.1 0).1, .nilIface]) (by simp [results, Try.results20, go_sem, q0, q1, q2, q3, q4]) rfl HF9.out
    · have j1 : ¬ (k : Int) < (M : Int) := by omega
      have HFR := hidE (show FstR RS pr (.returned (.tuple #[.agg #[.int .i64 0, .int .i64 0, .int .i64 0, .int .i64 0, .int .i64 0], .int .i64 0, .iface 62 (.int .i64 5)])) from .inr ⟨fun kk way hk' => by
        obtain ⟨c, hc, e⟩ := HA.out (ptS kk way) (fun i hi => keyB_ok.1 hk' i hi)
        obtain ⟨i, hi, rfl⟩ := List.getElem_of_mem hc
        rw [← e]
        exact HNO.out i hi (by have := HM.out; omega), rfl⟩)
      obtain ⟨⟨g0, g1, g2, g3, g4⟩, gz⟩ := row5 hnS
      have gz0 := gz 0
      have gz1 := gz 1
      have gz2 := gz 2
      have gz3 := gz 3
      have gz4 := gz 4
      obtain ⟨W9, hW9, n9, b9⟩ := set5 hnS (.int .i64 0) (.int .i64 0) (.int .i64 0) (.int .i64 0) (.int .i64 0)
      obtain ⟨⟨q0, q1, q2, q3, q4⟩, _⟩ := row5 n9
      have HQ9 := hidE (And.intro q0 (And.intro q1 (And.intro q2 (And.intro q3 q4))))
      have HW9 := hidE hW9
      have HF9 := hidE (HQ.out _ W9 HFR.out (HBW.out.trans b9))
      clear hnS gz hW9 n9 b9 q0 q1 q2 q3 q4 HB HNO HF HK HA HO1
      go_wp2_with fail
      rw [HW9.out]
      obtain ⟨q0, q1, q2, q3, q4⟩ := HQ9.out
      exact bodyPost_ret (v := .tuple #[.agg #[.int .i64 0, .int .i64 0, .int .i64 0, .int .i64 0, .int .i64 0], .int .i64 0, .iface 62 (.int .i64 5)]) (by simp [results, Try.results20, go_sem, q0, q1, q2, q3, q4]) rfl HF9.out
end Go.Proofs.Ytdellfmkmbabhaa
