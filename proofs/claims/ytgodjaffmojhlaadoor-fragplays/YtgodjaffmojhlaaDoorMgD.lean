/- A map whose elements are held as they are, told as the list of its entries in whatever order ('MapIs'): look-up, store, delete, len, what is struck by a predicate; a map stays while other blocks turn. No program is named. -/
import Derived.Maps.RangeWalk
import Derived.Maps.OwnSet
import Derived.Maps.OwnOps
import Derived.Maps.Ext
import Derived.Lib.SlMapFilter
import Derived.Test.YtgodjaffmojhlaaDoorMgB
import Derived.Test.YtgodjaffmojhlaaDoorProg
import Derived.DeepKeys4
import Derived.WalkKit
import Derived.Test.YtgodjaffmojhlaaDoorMgC
namespace Go.Proofs.YtgodjaffmojhlaaDoor
open Go.RowKit Go.Maps
set_option linter.unusedVariables false

/-- An element, held as it is. -/
def rawR (v : Value) : Option (DataW Value × List MemPlace) := some (.held v, [])
def heldL (l : List (Lit × Value)) : List (Lit × DataW Value) := l.map fun x => (x.1, .held x.2)
/-- Block b is a map with just these entries, in whatever order. -/
def MapIs (P : Program) (k : TypeId) (w : World) (b : Nat) (l : List (Lit × Value)) : Prop :=
  ∃ es, w.ownsMap P k rawR b l.length (.map es) ∧ es.Perm (heldL l)

section
variable {P : Program} {k t e : TypeId} {w : World} {b n : Nat} {l : List (Lit × Value)}
theorem ownsMap_exact {es : List (Lit × DataW Value)} (h : w.ownsMap P k rawR b n (.map es)) : w.ownsMap P k rawR b es.length (.map es) := by
  obtain ⟨xs, clock, hb, F, hs, hD⟩ := h
  refine ⟨xs, clock, hb, F, ?_, hD⟩
  injection hD with hD
  rw [hD, length_sorted]; simp
theorem mapIs_of {es : List (Lit × DataW Value)} (h : w.ownsMap P k rawR b n (.map es)) (hp : es.Perm (heldL l)) : MapIs P k w b l := by
  have e : es.length = l.length := by rw [hp.length_eq]; simp [heldL]
  exact ⟨es, e ▸ ownsMap_exact h, hp⟩
theorem MapIs.perm {l' : List (Lit × Value)} (h : MapIs P k w b l) (hp : l.Perm l') : MapIs P k w b l' := by
  obtain ⟨es, h1, h2⟩ := h
  exact mapIs_of h1 (h2.trans (hp.map _))
theorem MapIs.made (P : Program) (k : TypeId) (w : World) : MapIs P k (w.alloc (.map #[] 0)) w.heap.size [] := ⟨[], World.ownsMap_made w P k rawR, .refl _⟩
theorem MapIs.lt (h : MapIs P k w b l) : b < w.heap.size := by obtain ⟨es, h1, _⟩ := h; exact h1.lt
theorem MapIs.kept {w' : World} {row : Option Nat} (h : MapIs P k w b l) (hg : w.grownBy w' row) (hne : some b ≠ row) : MapIs P k w' b l := by
  obtain ⟨es, h1, h2⟩ := h; exact ⟨es, h1.kept hg hne, h2⟩
theorem MapIs.block {w' : World} (h : MapIs P k w b l) (hb : w'.heap[b]? = w.heap[b]?) : MapIs P k w' b l := by
  obtain ⟨es, ⟨xs, clock, h1, r⟩, h2⟩ := h; exact ⟨es, ⟨xs, clock, hb.trans h1, r⟩, h2⟩
theorem MapIs.not_cells {cs : Array Value} {T : TypeId} {z : Nat × Nat} (h : MapIs P k w b l) (hc : w.heap[b]? = some (.cells cs T z)) : False := by
  obtain ⟨es, ⟨xs, clock, h1, r⟩, h2⟩ := h; rw [hc] at h1; cases h1
theorem heldL_mem {x : Lit × Value} : (x.1, DataW.held x.2) ∈ heldL l ↔ x ∈ l := by
  unfold heldL
  simp only [List.mem_map, Prod.mk.injEq, DataW.held.injEq]
  constructor
  · rintro ⟨y, hy, h1, h2⟩; rw [show x = y from Prod.ext h1.symm h2.symm]; exact hy
  · intro h; exact ⟨x, h, rfl, rfl⟩
/-- No key is there twice. -/
theorem MapIs.apart (h : MapIs P k w b l) (K : Keyed P k) : l.Pairwise (fun p q => p.1 ≠ q.1) := by
  obtain ⟨es, h1, h2⟩ := h
  obtain ⟨es', e, hp⟩ := h1.tidy K
  injection e with e
  subst e
  have := (h2.pairwise_iff (R := fun p q : Lit × DataW Value => p.1 ≠ q.1) (fun {_ _} h => Ne.symm h)).1 hp
  unfold heldL at this
  rw [List.pairwise_map] at this
  exact this
theorem MapIs.isKey (h : MapIs P k w b l) (K : Keyed P k) : ∀ x ∈ l, WideAt.IsKeyLit x.1 := by
  intro x hx
  obtain ⟨es, h1, h2⟩ := h
  obtain ⟨es', e, _, hk⟩ := h1.entries K
  injection e with e
  subst e
  exact hk _ (h2.mem_iff.2 (heldL_mem.2 hx))
theorem apart_unique {l : List (Lit × Value)} (h : l.Pairwise (fun p q => p.1 ≠ q.1)) {x y : Lit × Value} (hx : x ∈ l) (hy : y ∈ l) (e : x.1 = y.1) : x = y := by
  induction l with
  | nil => cases hx
  | cons a r ih =>
    rw [List.pairwise_cons] at h
    rcases List.mem_cons.1 hx with rfl | hx' <;> rcases List.mem_cons.1 hy with rfl | hy'
    · rfl
    · exact absurd e (h.1 _ hy')
    · exact absurd e.symm (h.1 _ hx')
    · exact ih h.2 hx' hy'
theorem atKey_mem {es : List (Lit × DataW Value)} {kl : Lit} {z d : DataW Value} (hk : WideAt.IsKeyLit kl) (ha : es.Pairwise (fun p q => p.1 ≠ q.1)) (hm : (kl, d) ∈ es) : (DataW.map es).atKey kl z = d := by
  unfold DataW.atKey
  simp only
  induction es with
  | nil => cases hm
  | cons a r ih =>
    rw [List.pairwise_cons] at ha
    by_cases hc : a.1.sameKey kl = true
    · rw [List.find?_cons_of_pos (p := fun p : Lit × DataW Value => p.1.sameKey kl) hc]
      have e := WideAt.sameKey_eq hc
      rcases List.mem_cons.1 hm with h | h
      · rw [← h]
      · exact absurd e (ha.1 _ h)
    · rw [List.find?_cons_of_neg (p := fun p : Lit × DataW Value => p.1.sameKey kl) hc]
      rcases List.mem_cons.1 hm with h | h
      · exfalso; apply hc; rw [← h]; exact WideAt.sameKey_self hk
      · exact ih ha.2 h
theorem atKey_none {es : List (Lit × DataW Value)} {kl : Lit} {z : DataW Value} (hm : ∀ p ∈ es, p.1 ≠ kl) : (DataW.map es).atKey kl z = z := by
  unfold DataW.atKey
  simp only
  rw [List.find?_eq_none.2 (fun p hp hc => hm p hp (WideAt.sameKey_eq hc))]
theorem MapIs.look (h : MapIs P k w b l) (K : Keyed P k) (ht : P.underlying t = some (.map k e)) {z : Value} (hz : (zeroValue e).run P w = .ok z w) {key : Value} {kl : Lit} (hkey : keyOf P k key = some kl) {v : Value} (hv : (kl, v) ∈ l) :
    (Instr.lookup t (.map (some b)) key false).run P w = .ok v w := by
  obtain ⟨es, h1, h2⟩ := h
  obtain ⟨u, ps, hr, hR⟩ := h1.lookup K ht hz (zd := .held z) (zp := []) rfl hkey
  obtain ⟨es', e, hp⟩ := h1.tidy K
  injection e with e
  subst e
  rw [atKey_mem (K.key hkey) hp (h2.mem_iff.2 (heldL_mem (x := (kl, v)).2 hv))] at hR
  unfold rawR at hR
  simp only [Option.some.injEq, Prod.mk.injEq, DataW.held.injEq] at hR
  rw [hr, hR.1]
theorem MapIs.look_no (h : MapIs P k w b l) (K : Keyed P k) (ht : P.underlying t = some (.map k e)) {z : Value} (hz : (zeroValue e).run P w = .ok z w) {key : Value} {kl : Lit} (hkey : keyOf P k key = some kl) (hv : ∀ x ∈ l, x.1 ≠ kl) :
    (Instr.lookup t (.map (some b)) key false).run P w = .ok z w := by
  obtain ⟨es, h1, h2⟩ := h
  obtain ⟨u, ps, hr, hR⟩ := h1.lookup K ht hz (zd := .held z) (zp := []) rfl hkey
  rw [atKey_none (fun p hp => by
    have := h2.mem_iff.1 hp
    unfold heldL at this
    obtain ⟨x, hx, rfl⟩ := List.mem_map.1 this
    exact hv x hx)] at hR
  unfold rawR at hR
  simp only [Option.some.injEq, Prod.mk.injEq, DataW.held.injEq] at hR
  rw [hr, hR.1]
theorem heldL_filter (f : Lit → Bool) (l : List (Lit × Value)) : (heldL l).filter (fun p => f p.1) = heldL (l.filter fun x => f x.1) := by
  unfold heldL; rw [List.filter_map]; rfl
theorem MapIs.store (h : MapIs P k w b l) (K : Keyed P k) (ht : P.underlying t = some (.map k e)) (hn : l.length < maxLen) {key : Value} {kl : Lit} (hkey : keyOf P k key = some kl) (v : Value) :
    ∃ w', (Instr.mapUpdate t (.map (some b)) key v).run P w = .ok () w' ∧ MapIs P k w' b ((kl, v) :: l.filter fun x => !x.1.sameKey kl) ∧ w.grownBy w' (some b) := by
  obtain ⟨es, h1, h2⟩ := h
  obtain ⟨w', hr, ho, hg⟩ := h1.update K ht hn hkey (val := v) (d := .held v) (ps := []) rfl
  refine ⟨w', hr, mapIs_of ho ?_, hg⟩
  refine (WideShapes.insert_perm _ _).trans ?_
  refine List.Perm.cons _ ((h2.filter _).trans ?_)
  rw [heldL_filter (fun x => !x.sameKey kl)]
  exact .refl _
theorem MapIs.drop (h : MapIs P k w b l) (K : Keyed P k) (ht : P.underlying t = some (.map k e)) {key : Value} {kl : Lit} (hkey : keyOf P k key = some kl) (ty : TypeId) :
    ∃ w', (Builtin.delete_ #[t, k] ty #[.map (some b), key]).run P w = .ok (.tuple #[]) w' ∧ MapIs P k w' b (l.filter fun x => !x.1.sameKey kl) ∧ w.grownBy w' (some b) := by
  obtain ⟨es, h1, h2⟩ := h
  obtain ⟨w', hr, ho, hg⟩ := h1.drop K ht hkey ty
  refine ⟨w', hr, mapIs_of ho ?_, hg.grown⟩
  refine (h2.filter _).trans ?_
  rw [heldL_filter (fun x => !x.sameKey kl)]
theorem MapIs.len (h : MapIs P k w b l) (ht : P.underlying t = some (.map k e)) (ty : TypeId) : (Builtin.len_ #[t] ty #[.map (some b)]).run P w = .ok (.int .i64 l.length) w := by
  obtain ⟨es, h1, h2⟩ := h
  rw [h1.len ht ty]
  have e : Maps.size (DataW.map es) = l.length := by show es.length = _; rw [h2.length_eq]; simp [heldL]
  rw [e]
theorem MapIs.struck {w' : World} {n : Nat} {pd : Lit → DataW Value → Bool} {es : List (Lit × DataW Value)} (hp : es.Perm (heldL l)) (h : w'.ownsMap P k rawR b n (Lib.deleteFuncD pd (.map es))) : MapIs P k w' b (l.filter fun x => !pd x.1 (.held x.2)) := by
  refine mapIs_of h ((hp.filter _).trans ?_)
  unfold heldL; rw [List.filter_map]; exact .refl _
end

section
variable {P : Program} (w : World) {ops : Array Oper} {rest : List Oper} {o : Oper} {a : Act} {Q : Exit → Act → World → Prop}
theorem wpList_mapStore (hg : o.guard = none) (m x v : Operand) (t : TypeId) (hop : o.op = Op.mapUpdate t m x v) (k e : TypeId) (K : Keyed P k) (ht : P.underlying t = some (.map k e)) (b : Nat) (l : List (Lit × Value))
    (hm : a.eval m = .map (some b)) (h : MapIs P k w b l) (hn : l.length < maxLen) (key val : Value) (kl : Lit) (hx : a.eval x = key) (hv : a.eval v = val) (hkey : keyOf P k key = some kl)
    (hK : ∀ w', MapIs P k w' b ((kl, val) :: l.filter fun x => !x.1.sameKey kl) → w.grownBy w' (some b) → wpList P ops Q rest (a.put o.dst undef) w') : wpList P ops Q (o :: rest) a w := by
  refine wpList_plain hg fun K' hK' => ?_
  obtain ⟨w', hrun, r1, r2⟩ := h.store K ht hn hkey val
  unfold Oper.wp
  simp [execOp, hop, hm, hx, hv, hrun, Result.andThen]
  exact hK' _ _ (hK w' r1 r2)
theorem wpList_mapDrop (hg : o.guard = none) (m x : Operand) (t k : TypeId) (hop : o.op = Op.call { callee := Callee.builtin Builtin.delete, args := #[m, x], argTypes := #[t, k] })
    (e : TypeId) (K : Keyed P k) (ht : P.underlying t = some (.map k e)) (b : Nat) (l : List (Lit × Value))
    (hm : a.eval m = .map (some b)) (h : MapIs P k w b l) (key : Value) (kl : Lit) (hx : a.eval x = key) (hkey : keyOf P k key = some kl)
    (hK : ∀ w', MapIs P k w' b (l.filter fun x => !x.1.sameKey kl) → w.grownBy w' (some b) → wpList P ops Q rest (a.put o.dst (.tuple #[])) w') : wpList P ops Q (o :: rest) a w := by
  refine wpList_plain hg fun K' hK' => ?_
  obtain ⟨w', hrun, r1, r2⟩ := h.drop K ht hkey o.type
  unfold Oper.wp
  simp [execOp, hop, resolve, invoke, builtin, hm, hx, hrun, Result.andThen]
  exact hK' _ _ (hK w' r1 r2)
end
end Go.Proofs.YtgodjaffmojhlaaDoor

namespace Go.Proofs.YtgodjaffmojhlaaDoor
set_option linter.unusedVariables false

/-! ### as many numbers as there is room for are all of them -/
theorem room_le : ∀ (n : Nat) (l : List Nat), l.Nodup → (∀ x ∈ l, x < n) → l.length ≤ n ∧ (l.length = n → ∀ k, k < n → k ∈ l)
  | 0, l, _, h => by
      have : l = [] := List.eq_nil_iff_forall_not_mem.2 (fun x hx => by have := h x hx; omega)
      subst this; exact ⟨by simp, fun _ k hk => by omega⟩
  | n + 1, l, hn, h => by
      by_cases hm : n ∈ l
      · have h1 : (l.erase n).Nodup := hn.erase n
        have h2 : ∀ x ∈ l.erase n, x < n := fun x hx => by
          obtain ⟨h3, h4⟩ := (List.Nodup.mem_erase_iff hn).1 hx
          have := h x h4; omega
        have h5 := List.length_erase_of_mem hm
        have h6 : 0 < l.length := List.length_pos_of_mem hm
        obtain ⟨i1, i2⟩ := room_le n (l.erase n) h1 h2
        refine ⟨by omega, fun e k hk => ?_⟩
        by_cases hkn : k = n
        · rw [hkn]; exact hm
        · exact List.mem_of_mem_erase (i2 (by omega) k (by omega))
      · have h2 : ∀ x ∈ l, x < n := fun x hx => by
          have := h x hx
          have : x ≠ n := fun e => hm (e ▸ hx)
          omega
        obtain ⟨i1, i2⟩ := room_le n l hn h2
        exact ⟨by omega, fun e => by omega⟩
theorem room_ge : ∀ (n : Nat) (l : List Nat), (∀ k, k < n → k ∈ l) → n ≤ l.length
  | 0, l, _ => Nat.zero_le _
  | n + 1, l, h => by
      have hm := h n (by omega)
      have h5 := List.length_erase_of_mem hm
      have h6 : 0 < l.length := List.length_pos_of_mem hm
      have := room_ge n (l.erase n) (fun k hk => (List.mem_erase_of_ne (by omega)).2 (h k (by omega)))
      omega

/-! ### pieces -/
def loP (x : Pk) : Nat := (8 * x.pos).toNat
def hiP (x : Pk) : Nat := loP x + x.body.length
/-- Two pieces go together. -/
def FitP (y x : Pk) : Prop := (hiP y ≤ loP x ∨ hiP x ≤ loP y) ∧ (y.more = false → x.more = true ∧ hiP x ≤ hiP y) ∧ (x.more = false → y.more = true ∧ hiP y ≤ hiP x)
/-- A piece by itself. -/
def OneP (x : Pk) : Prop := 0 ≤ x.pos ∧ 0 < x.body.length ∧ (x.more = true → x.body.length % 8 = 0) ∧ hiP x ≤ 4000
structure GoodP (l : List Pk) : Prop where
  one : ∀ x ∈ l, OneP x
  fit : l.Pairwise FitP
/-- Is a piece wrong, by those that are there? -/
def wrongY (x y : Pk) : Bool :=
  (decide (8 * x.pos < 8 * y.pos + y.body.length) && decide (8 * y.pos < 8 * x.pos + x.body.length)) || (!y.more && (!x.more || decide (8 * x.pos + x.body.length > 8 * y.pos + y.body.length))) || (!x.more && decide (8 * y.pos + y.body.length > 8 * x.pos + x.body.length))
def wrongB (l : List Pk) (x : Pk) : Bool :=
  decide (x.body.length = 0) || (x.more && decide (¬ x.body.length % 8 = 0)) || decide (4000 < 8 * x.pos + x.body.length) || l.any (wrongY x)
def heldN (l : List Pk) : Nat := (l.map fun x => x.body.length).sum
def finN (l : List Pk) : Nat := match l.find? (fun x => !x.more) with | some x => hiP x | none => 0
def reachN : List Pk → Nat
  | [] => 0
  | x :: l => max (hiP x) (reachN l)
def ttlF (t : Int) (l : List Pk) : Int := l.foldl (fun t y => if y.ttl < t then y.ttl else t) t
def ttlM : List Pk → Int
  | [] => 0
  | x :: l => ttlF x.ttl l
def coverB (i : Nat) (x : Pk) : Bool := decide (loP x ≤ i) && decide (i < hiP x)
def byteAt (l : List Pk) (i : Nat) : Int := match l.find? (coverB i) with | some x => x.body.getD (i - loP x) 0 | none => 0
/-- What pieces make, up to a place. -/
def wholeN (l : List Pk) (n : Nat) : List Int := (List.range n).map (byteAt l)
def posL (l : List Pk) : List Nat := l.flatMap fun x => List.range' (loP x) x.body.length

theorem FitP.symm {y x : Pk} (h : FitP y x) : FitP x y := ⟨h.1.symm, h.2.2, h.2.1⟩
theorem loP_int {x : Pk} (h : 0 ≤ x.pos) : ((loP x : Nat) : Int) = 8 * x.pos := by unfold loP; omega
theorem wrongB_no {l : List Pk} {x : Pk} (hl : ∀ y ∈ l, OneP y) (hx : 0 ≤ x.pos) (h : wrongB l x = false) : OneP x ∧ ∀ y ∈ l, FitP y x := by
  unfold wrongB at h
  simp only [Bool.or_eq_false_iff, Bool.and_eq_false_iff, decide_eq_false_iff_not, List.any_eq_false] at h
  obtain ⟨⟨⟨h1, h2⟩, h3⟩, h4⟩ := h
  have ex := loP_int hx
  refine ⟨⟨hx, by omega, fun hm => ?_, by unfold hiP; omega⟩, fun y hy => ?_⟩
  · rcases h2 with h2 | h2
    · rw [hm] at h2; cases h2
    · exact Classical.not_not.1 h2
  · have h5 := h4 y hy
    unfold wrongY at h5
    obtain ⟨y0, _, _, _⟩ := hl y hy
    have ey := loP_int y0
    simp only [Bool.or_eq_true, Bool.and_eq_true, Bool.not_eq_true', decide_eq_true_eq, not_or, not_and] at h5
    obtain ⟨⟨a, b⟩, c⟩ := h5
    refine ⟨?_, fun hm => ?_, fun hm => ?_⟩
    · unfold hiP
      by_cases ha : 8 * x.pos < 8 * y.pos + y.body.length
      · have := a ha; right; omega
      · left; omega
    · obtain ⟨b1, b2⟩ := b hm
      refine ⟨by simpa using b1, by unfold hiP; omega⟩
    · have c1 := c hm
      refine ⟨?_, by unfold hiP; omega⟩
      rcases hy' : y.more with _ | _
      · obtain ⟨b1, _⟩ := b hy'
        exact absurd hm b1
      · rfl
theorem wrongB_yes {l : List Pk} {x : Pk} (hl : ∀ y ∈ l, OneP y) (h1 : OneP x) (h2 : ∀ y ∈ l, FitP y x) : wrongB l x = false := by
  obtain ⟨hx, h3, h4, h5⟩ := h1
  have ex := loP_int hx
  unfold hiP at h5
  unfold wrongB
  simp only [Bool.or_eq_false_iff, Bool.and_eq_false_iff, decide_eq_false_iff_not, List.any_eq_false]
  refine ⟨⟨⟨by omega, ?_⟩, by omega⟩, fun y hy => ?_⟩
  · rcases hm : x.more with _ | _
    · exact .inl rfl
    · exact .inr (fun h => h (h4 hm))
  · obtain ⟨y0, _, _, _⟩ := hl y hy
    have ey := loP_int y0
    obtain ⟨a, b, c⟩ := h2 y hy
    unfold hiP at a b c
    unfold wrongY
    simp only [Bool.or_eq_true, Bool.and_eq_true, Bool.not_eq_true', decide_eq_true_eq, not_or, not_and]
    refine ⟨⟨fun h => by rcases a with a | a <;> omega, fun hm => ?_⟩, fun hm => ?_⟩
    · obtain ⟨b1, b2⟩ := b hm
      exact ⟨by rw [b1]; simp, by omega⟩
    · obtain ⟨c1, c2⟩ := c hm
      omega
theorem GoodP.nil : GoodP [] := ⟨fun x hx => (by cases hx), .nil⟩
theorem GoodP.snoc {l : List Pk} {x : Pk} (h : GoodP l) (hx : 0 ≤ x.pos) (hw : wrongB l x = false) : GoodP (l ++ [x]) := by
  obtain ⟨h1, h2⟩ := wrongB_no h.one hx hw
  refine ⟨fun y hy => ?_, ?_⟩
  · rcases List.mem_append.1 hy with h' | h'
    · exact h.one y h'
    · rw [List.mem_singleton.1 h']; exact h1
  · rw [List.pairwise_append]
    refine ⟨h.fit, List.pairwise_singleton _ _, fun y hy z hz => ?_⟩
    rw [List.mem_singleton.1 hz]; exact h2 y hy
theorem GoodP.apart {l : List Pk} (h : GoodP l) {x y : Pk} (hx : x ∈ l) (hy : y ∈ l) (i : Nat) (h1 : loP x ≤ i ∧ i < hiP x) (h2 : loP y ≤ i ∧ i < hiP y) : x = y := by
  have hp := h.fit
  clear h
  induction l with
  | nil => cases hx
  | cons a r ih =>
    rw [List.pairwise_cons] at hp
    rcases List.mem_cons.1 hx with rfl | hx' <;> rcases List.mem_cons.1 hy with rfl | hy'
    · rfl
    · have := (hp.1 _ hy').1; omega
    · have := (hp.1 _ hx').1; omega
    · exact ih hx' hy' hp.2
theorem posL_mem {l : List Pk} {i : Nat} : i ∈ posL l ↔ ∃ x ∈ l, loP x ≤ i ∧ i < hiP x := by
  unfold posL hiP
  simp only [List.mem_flatMap, List.mem_range'_1]
theorem posL_len (l : List Pk) : (posL l).length = heldN l := by
  unfold posL heldN
  rw [List.length_flatMap]; simp
theorem posL_nodup {l : List Pk} (h : GoodP l) : (posL l).Nodup := by
  unfold posL List.Nodup
  rw [List.pairwise_flatMap]
  refine ⟨fun x _ => List.nodup_range', h.fit.imp (fun {a b} hf x hx y hy e => ?_)⟩
  subst e
  simp only [List.mem_range'_1] at hx hy
  have := hf.1
  unfold hiP at this
  omega
theorem fin_spec (l : List Pk) : (finN l = 0 ∧ ∀ x ∈ l, x.more = true) ∨ ∃ z ∈ l, z.more = false ∧ finN l = hiP z := by
  unfold finN
  rcases hf : l.find? (fun x => !x.more) with _ | z
  · left
    refine ⟨by rw [hf], fun x hx => ?_⟩
    have := List.find?_eq_none.1 hf x hx
    simpa using this
  · right
    have h1 := List.find?_some hf
    exact ⟨z, List.mem_of_find?_eq_some hf, by simpa using h1, by rw [hf]⟩
theorem pair_of {l : List Pk} (h : l.Pairwise FitP) {x y : Pk} (hx : x ∈ l) (hy : y ∈ l) : x = y ∨ FitP x y := by
  induction l with
  | nil => cases hx
  | cons a r ih =>
    rw [List.pairwise_cons] at h
    rcases List.mem_cons.1 hx with rfl | hx' <;> rcases List.mem_cons.1 hy with rfl | hy'
    · exact .inl rfl
    · exact .inr (h.1 _ hy')
    · exact .inr (h.1 _ hx').symm
    · exact ih h.2 hx' hy'
theorem GoodP.under {l : List Pk} (h : GoodP l) {z : Pk} (hz : z ∈ l) (hm : z.more = false) : ∀ x ∈ l, hiP x ≤ hiP z := by
  intro x hx
  rcases pair_of h.fit hz hx with rfl | hf
  · exact Nat.le_refl _
  · exact (hf.2.1 hm).2
theorem GoodP.fin {l : List Pk} (h : GoodP l) {z : Pk} (hz : z ∈ l) (hm : z.more = false) : finN l = hiP z := by
  rcases fin_spec l with ⟨_, h2⟩ | ⟨y, hy, hym, e⟩
  · have := h2 z hz; rw [hm] at this; cases this
  · rw [e]
    exact Nat.le_antisymm (h.under hz hm y hy) (h.under hy hym z hz)
/-- Pieces have no more bytes than there is room for; and if as many, they leave no gap. -/
theorem GoodP.held {l : List Pk} (h : GoodP l) {z : Pk} (hz : z ∈ l) (hm : z.more = false) : heldN l ≤ finN l ∧ (heldN l = finN l → ∀ i, i < finN l → ∃ x ∈ l, loP x ≤ i ∧ i < hiP x) := by
  have h1 := room_le (finN l) (posL l) (posL_nodup h) (fun i hi => by
    obtain ⟨x, hx, _, h2⟩ := posL_mem.1 hi
    have := h.under hz hm x hx
    rw [h.fin hz hm]; omega)
  rw [posL_len] at h1
  exact ⟨h1.1, fun e i hi => posL_mem.1 (h1.2 e i hi)⟩
theorem GoodP.full {l : List Pk} (h : GoodP l) {z : Pk} (hz : z ∈ l) (hm : z.more = false) (hc : ∀ i, i < finN l → ∃ x ∈ l, loP x ≤ i ∧ i < hiP x) : heldN l = finN l := by
  have h1 := room_ge (finN l) (posL l) (fun i hi => posL_mem.2 (hc i hi))
  rw [posL_len] at h1
  have := (h.held hz hm).1
  omega
theorem heldN_pos {l : List Pk} (h : GoodP l) {x : Pk} (hx : x ∈ l) : 0 < heldN l := by
  have h1 : loP x ∈ posL l := posL_mem.2 ⟨x, hx, Nat.le_refl _, by have := (h.one x hx).2.1; unfold hiP; omega⟩
  have h2 := List.length_pos_of_mem h1
  rw [posL_len] at h2; exact h2
/-- A place where pieces begin, or one ends. -/
def EdgeP (l : List Pk) (n : Nat) : Prop := n = 0 ∨ ∃ x ∈ l, hiP x = n ∧ x.more = true
/-- Where there is no gap, a piece begins at each edge. -/
theorem GoodP.next {l : List Pk} (h : GoodP l) {n : Nat} (he : EdgeP l n) {y : Pk} (hy : y ∈ l) (h1 : loP y ≤ n) (h2 : n < hiP y) : loP y = n := by
  rcases he with rfl | ⟨x, hx, e, _⟩
  · omega
  · by_cases hc : loP y = n
    · exact hc
    · exfalso
      have hx0 := (h.one x hx).2.1
      have hle : loP x ≤ n - 1 ∧ n - 1 < hiP x := by unfold hiP at e ⊢; omega
      have := h.apart hx hy (n - 1) hle (by omega)
      subst this
      omega
theorem GoodP.edge8 {l : List Pk} (h : GoodP l) {n : Nat} (he : EdgeP l n) : n % 8 = 0 := by
  rcases he with rfl | ⟨x, hx, e, hm⟩
  · rfl
  · have h1 := (h.one x hx).2.2.1 hm
    have h0 := loP_int (h.one x hx).1
    unfold hiP at e
    omega
theorem byteAt_of {l : List Pk} (h : GoodP l) {x : Pk} (hx : x ∈ l) {i : Nat} (h1 : loP x ≤ i) (h2 : i < hiP x) : byteAt l i = x.body.getD (i - loP x) 0 := by
  unfold byteAt
  rcases hf : l.find? (coverB i) with _ | y
  · have := List.find?_eq_none.1 hf x hx
    simp [coverB, h1, h2] at this
  · have hy := List.mem_of_find?_eq_some hf
    have hc := List.find?_some hf
    simp only [coverB, Bool.and_eq_true, decide_eq_true_eq] at hc
    have := h.apart hx hy i ⟨h1, h2⟩ hc
    subst this; rfl
theorem wholeN_len (l : List Pk) (n : Nat) : (wholeN l n).length = n := by simp [wholeN]
theorem wholeN_step {l : List Pk} (h : GoodP l) {x : Pk} (hx : x ∈ l) : wholeN l (loP x) ++ x.body = wholeN l (hiP x) := by
  unfold wholeN
  have e : List.range (hiP x) = List.range (loP x) ++ (List.range x.body.length).map (loP x + ·) := by unfold hiP; rw [List.range_add]
  rw [e, List.map_append, List.map_map]
  congr 1
  refine List.ext_getElem (by simp) (fun i h1 h2 => ?_)
  have hi : i < x.body.length := h1
  simp only [List.getElem_map, List.getElem_range, Function.comp]
  rw [byteAt_of h hx (by omega) (by unfold hiP; omega), Nat.add_sub_cancel_left]
  simp [List.getD, hi]
/-- A step: the edge moves on. -/
theorem EdgeP.step {l : List Pk} {x : Pk} (hx : x ∈ l) (hm : x.more = true) : EdgeP l (hiP x) := .inr ⟨x, hx, rfl, hm⟩

theorem heldN_snoc (l : List Pk) (x : Pk) : heldN (l ++ [x]) = heldN l + x.body.length := by simp [heldN]
theorem reachN_snoc (l : List Pk) (x : Pk) : reachN (l ++ [x]) = max (reachN l) (hiP x) := by
  induction l with
  | nil => simp [reachN]
  | cons a r ih => show max (hiP a) (reachN (r ++ [x])) = max (max (hiP a) (reachN r)) (hiP x); rw [ih]; omega
theorem reachN_ge {l : List Pk} {x : Pk} (h : x ∈ l) : hiP x ≤ reachN l := by
  induction l with
  | nil => cases h
  | cons a r ih =>
    show _ ≤ max (hiP a) (reachN r)
    rcases List.mem_cons.1 h with rfl | h
    · omega
    · have := ih h; omega
theorem reachN_in {l : List Pk} (h : 0 < reachN l) : ∃ x ∈ l, hiP x = reachN l := by
  induction l with
  | nil => simp [reachN] at h
  | cons a r ih =>
    have e : reachN (a :: r) = max (hiP a) (reachN r) := rfl
    by_cases hc : reachN r ≤ hiP a
    · exact ⟨a, List.mem_cons_self, by omega⟩
    · obtain ⟨x, hx, ex⟩ := ih (by omega)
      exact ⟨x, List.mem_cons_of_mem _ hx, by omega⟩
theorem finN_snoc {l : List Pk} {x : Pk} (h : GoodP (l ++ [x])) : finN (l ++ [x]) = if x.more then finN l else hiP x := by
  rcases hm : x.more with _ | _
  · simp only [Bool.false_eq_true, if_false]; exact h.fin (List.mem_append_right _ (List.mem_singleton.2 rfl)) hm
  · simp only [if_true]
    unfold finN
    rw [List.find?_append]
    rcases hf : l.find? (fun x => !x.more) with _ | z
    · simp [hf, hm]
    · simp [hf]
theorem ttlM_snoc (l : List Pk) (x : Pk) : ttlM (l ++ [x]) = if l = [] ∨ x.ttl < ttlM l then x.ttl else ttlM l := by
  match l with
  | [] => simp [ttlM, ttlF]
  | a :: r => simp [ttlM, ttlF, List.foldl_append]
theorem ttlF_spec (l : List Pk) : ∀ t, ttlF t l ≤ t ∧ (∀ y ∈ l, ttlF t l ≤ y.ttl) ∧ (ttlF t l = t ∨ ∃ y ∈ l, ttlF t l = y.ttl) := by
  induction l with
  | nil => intro t; exact ⟨Int.le_refl _, fun y hy => (by cases hy), .inl rfl⟩
  | cons a r ih =>
    intro t
    have e : ttlF t (a :: r) = ttlF (if a.ttl < t then a.ttl else t) r := rfl
    obtain ⟨h1, h2, h3⟩ := ih (if a.ttl < t then a.ttl else t)
    rw [e]
    refine ⟨?_, fun y hy => ?_, ?_⟩
    · exact Int.le_trans h1 (by split <;> omega)
    · rcases List.mem_cons.1 hy with rfl | hy
      · exact Int.le_trans h1 (by split <;> omega)
      · exact h2 y hy
    · rcases h3 with h3 | ⟨y, hy, h3⟩
      · by_cases hc : a.ttl < t
        · rw [if_pos hc] at h3 ⊢; exact .inr ⟨a, List.mem_cons_self, h3⟩
        · rw [if_neg hc] at h3 ⊢; exact .inl h3
      · exact .inr ⟨y, List.mem_cons_of_mem _ hy, h3⟩
/-- Whichever one begins, the least is the least. -/
theorem ttlF_any {l : List Pk} {x : Pk} (hx : x ∈ l) : ttlF x.ttl l = ttlM l := by
  match l, hx with
  | a :: r, hx =>
    have e : ttlM (a :: r) = ttlF a.ttl (a :: r) := by simp [ttlM, ttlF]
    rw [e]
    obtain ⟨h1, h2, h3⟩ := ttlF_spec (a :: r) x.ttl
    obtain ⟨k1, k2, k3⟩ := ttlF_spec (a :: r) a.ttl
    refine Int.le_antisymm ?_ ?_
    · rcases k3 with k3 | ⟨y, hy, k3⟩
      · rw [k3]; exact h2 a List.mem_cons_self
      · rw [k3]; exact h2 y hy
    · rcases h3 with h3 | ⟨y, hy, h3⟩
      · rw [h3]; exact k2 x hx
      · rw [h3]; exact k2 y hy

/-! ### a pool -/
structure Nm where
  kind : Int
  src : Int
  dst : Int
  ident : Int
deriving DecidableEq
def nmOf (p : Pk) : Nm := ⟨p.kind, p.src, p.dst, p.ident⟩
/-- What has come of one packet. -/
structure Hp where
  name : Nm
  began : Int
  bad : Bool
  all : List Pk
structure Po where
  life : Int
  now : Int
  l : List Hp
def tickE (s : Po) (now : Int) : Int := if now < 0 ∨ 1000000 < now then 1 else if now < s.now then 6 else 0
def oldB (life now : Int) (h : Hp) : Bool := decide (life ≤ now - h.began)
def tickS (s : Po) (now : Int) : Po := if tickE s now = 0 then { life := s.life, now := now, l := s.l.filter fun h => !oldB s.life now h } else s
def getH (l : List Hp) (n : Nm) : Option Hp := l.find? fun h => decide (h.name = n)
def setH (l : List Hp) (h : Hp) : List Hp := if (getH l h.name).isSome then l.map (fun g => if g.name = h.name then h else g) else l ++ [h]
def delH (l : List Hp) (n : Nm) : List Hp := l.filter fun h => decide (¬ h.name = n)
def madeP (x : Pk) (all : List Pk) : Pk := { x with ttl := ttlM all, pos := 0, more := false, body := wholeN all (finN all) }
def orNew (o : Option Hp) (n : Nm) (now : Int) : Hp := o.getD { name := n, began := now, bad := false, all := [] }
/-- What is done with a piece of a packet that is there, or begins. -/
def addH (s : Po) (h : Hp) (x : Pk) : Po × Pk × Bool × Int :=
  if h.bad then (s, zeroK, false, 6) else
  if wrongB h.all x then ({ s with l := setH s.l { h with bad := true, all := [] } }, zeroK, false, 3) else
  if heldN (h.all ++ [x]) = finN (h.all ++ [x]) then ({ s with l := delH s.l h.name }, madeP x (h.all ++ [x]), true, 0) else
  ({ s with l := setH s.l { h with all := h.all ++ [x] } }, zeroK, false, 0)
def addA (s : Po) (x : Pk) (now : Int) : Po × Pk × Bool × Int :=
  if ¬ pkErr x = 0 then (s, zeroK, false, pkErr x) else
  if ¬ tickE s now = 0 then (s, zeroK, false, tickE s now) else
  if x.pos = 0 ∧ x.more = false then (tickS s now, x, true, 0) else
  if getH (tickS s now).l (nmOf x) = none ∧ 8 ≤ (tickS s now).l.length then (tickS s now, zeroK, false, 4) else
  addH (tickS s now) (orNew (getH (tickS s now).l (nmOf x)) (nmOf x) now) x
/-- A pool as it may be. -/
structure OkH (h : Hp) : Prop where
  good : GoodP h.all
  none_ : h.bad = true → h.all = []
  kin : ∀ x ∈ h.all, nmOf x = h.name ∧ pkErr x = 0
structure OkP (s : Po) : Prop where
  each : ∀ h ∈ s.l, OkH h
  apart : s.l.Pairwise (fun g h => g.name ≠ h.name)
  few : s.l.length ≤ 8
theorem getH_some {l : List Hp} {n : Nm} {h : Hp} (e : getH l n = some h) : h ∈ l ∧ h.name = n := by
  unfold getH at e
  have h1 := List.find?_some e
  exact ⟨List.mem_of_find?_eq_some e, by simpa using h1⟩
theorem getH_none {l : List Hp} {n : Nm} (e : getH l n = none) : ∀ h ∈ l, h.name ≠ n := by
  intro h hh
  have := List.find?_eq_none.1 e h hh
  simpa using this
theorem OkP.tick {s : Po} (h : OkP s) (now : Int) : OkP (tickS s now) := by
  unfold tickS
  split
  · exact ⟨fun g hg => h.each g (List.mem_filter.1 hg).1, h.apart.filter _, Nat.le_trans (List.length_filter_le _ _) h.few⟩
  · exact h
theorem tickS_len (s : Po) (now : Int) : (tickS s now).l.length ≤ s.l.length := by
  unfold tickS
  split
  · exact List.length_filter_le _ _
  · exact Nat.le_refl _
theorem setH_old {l : List Hp} {h g : Hp} (e : getH l h.name = some g) : setH l h = l.map (fun g => if g.name = h.name then h else g) := by unfold setH; rw [e]; rfl
theorem setH_new {l : List Hp} {h : Hp} (e : getH l h.name = none) : setH l h = l ++ [h] := by unfold setH; rw [e]; rfl
theorem setH_mem {l : List Hp} {h g : Hp} (hg : g ∈ setH l h) : g = h ∨ (g ∈ l ∧ g.name ≠ h.name) := by
  unfold setH at hg
  split at hg
  · obtain ⟨k, hk, rfl⟩ := List.mem_map.1 hg
    by_cases hn : k.name = h.name
    · rw [if_pos hn]; exact .inl rfl
    · rw [if_neg hn]; exact .inr ⟨hk, hn⟩
  · rename_i hs
    have hn : getH l h.name = none := by
      rcases hx : getH l h.name with _ | y
      · rfl
      · rw [hx] at hs; simp at hs
    rcases List.mem_append.1 hg with h' | h'
    · exact .inr ⟨h', getH_none hn g h'⟩
    · exact .inl (List.mem_singleton.1 h')
theorem setH_apart {l : List Hp} {h : Hp} (ha : l.Pairwise (fun g h => g.name ≠ h.name)) : (setH l h).Pairwise (fun g h => g.name ≠ h.name) := by
  unfold setH
  split
  · rw [List.pairwise_map]
    refine ha.imp (fun {a b} hab => ?_)
    by_cases h1 : a.name = h.name <;> by_cases h2 : b.name = h.name
    · exact absurd (h1.trans h2.symm) hab
    · rw [if_pos h1, if_neg h2]; exact fun e => h2 e.symm
    · rw [if_neg h1, if_pos h2]; exact h1
    · rw [if_neg h1, if_neg h2]; exact hab
  · rename_i hs
    have hn : getH l h.name = none := by
      rcases hx : getH l h.name with _ | y
      · rfl
      · rw [hx] at hs; simp at hs
    rw [List.pairwise_append]
    refine ⟨ha, List.pairwise_singleton _ _, fun g hg k hk => ?_⟩
    rw [List.mem_singleton.1 hk]; exact getH_none hn g hg
theorem setH_len {l : List Hp} {h : Hp} : (setH l h).length = if getH l h.name = none then l.length + 1 else l.length := by
  unfold setH
  rcases hx : getH l h.name with _ | y <;> simp
end Go.Proofs.YtgodjaffmojhlaaDoor

namespace Go.Proofs.YtgodjaffmojhlaaDoor
open Go.RowKit Go.Maps
set_option linter.unusedVariables false

def nmV (n : Nm) : Value := .agg #[.int .i64 n.kind, .int .i64 n.src, .int .i64 n.dst, .int .i64 n.ident]
def NmOk (n : Nm) : Prop := (0 ≤ n.kind ∧ n.kind ≤ 4294967295) ∧ (0 ≤ n.src ∧ n.src ≤ 4294967295) ∧ (0 ≤ n.dst ∧ n.dst ≤ 4294967295) ∧ (0 ≤ n.ident ∧ n.ident ≤ 4294967295)
theorem nmOk_of {p : Pk} (h : pkErr p = 0) : NmOk (nmOf p) := by
  obtain ⟨a, _, b, c, d, _⟩ := of_pkIn (pkErr_ok h).1
  unfold NmOk nmOf
  simp only
  omega
theorem Tryd.laidOutN : laidOutB Tryd.prog = true := by kernel_rfl
theorem Tryd.rowName : (61 : TypeId) < Tryd.prog.types.size := of_decide_eq_true (by kernel_rfl)
theorem Tryd.cellsName : Tryd.prog.cellsOf 61 = 4 := by kernel_rfl
theorem Tryd.cellsInt : Tryd.prog.cellsOf 3 = 1 := by kernel_rfl
theorem Tryd.deepName : Tryd.prog.keyType 61 = true := by kernel_rfl
theorem Tryd.wideName : (match Tryd.prog.underlying 61 with | some (.array _ _) | some (.struct _) => true | _ => false) = true := by kernel_rfl
set_option maxRecDepth 100000 in
theorem lawN : Keyed Tryd.prog 61 := Keyed.of_law (deep_law_laid Tryd.laidOutN (m := 2) (by omega) Tryd.rowName (by kernel_rfl) Tryd.wideName)
theorem lawI : Keyed Tryd.prog 3 := int_keyed Tryd.underlying3
theorem Tryd.someTypes : 1 ≤ Tryd.prog.types.size := Nat.lt_of_le_of_lt (Nat.zero_le _) Tryd.rowName
theorem wf_small {n : Int} (h0 : 0 ≤ n) (h1 : n ≤ 4294967295) : (Lit.int .i64 n).wf = true := WalkArith.wf_i64 (by omega)
theorem keyN_ex {n : Nm} (h : NmOk n) : ∃ l, keyOf Tryd.prog 61 (nmV n) = some l := by
  obtain ⟨⟨a0, a1⟩, ⟨b0, b1⟩, ⟨c0, c1⟩, ⟨d0, d1⟩⟩ := h
  have wa := wf_small a0 a1
  have wb := wf_small b0 b1
  have wc := wf_small c0 c1
  have wd := wf_small d0 d1
  have hf : (nmV n).formed Tryd.prog 61 = true := by
    simp [nmV, Value.formed, Tryd.underlying61, Tryd.cellsName]
  have hint : ∀ (d : Nat) (x : Int), (Lit.int .i64 x).wf = true → Tryd.prog.keyLits (d + 1) 3 [.int .i64 x] = some [.int .i64 x] := by
    intro d x hx
    unfold Program.keyLits
    rw [Tryd.underlying3]
    simp [hx]
  have hst : ∀ d : Nat, Tryd.prog.keyLits (d + 1 + 1) 61 [.int .i64 n.kind, .int .i64 n.src, .int .i64 n.dst, .int .i64 n.ident] = some [.int .i64 n.kind, .int .i64 n.src, .int .i64 n.dst, .int .i64 n.ident] := by
    intro d
    unfold Program.keyLits
    rw [Tryd.underlying61]
    simp [Tryd.cellsName, Tryd.cellsInt, hint d _ wa, hint d _ wb, hint d _ wc, hint d _ wd]
  have hl : ∃ ls, Tryd.prog.keyLits (Tryd.prog.types.size + 1) 61 (nmV n).cells.toList = some ls := by
    have e : Tryd.prog.types.size + 1 = Tryd.prog.types.size - 1 + 1 + 1 := by have := Tryd.someTypes; omega
    rw [e]
    exact ⟨_, hst _⟩
  obtain ⟨ls, hl⟩ := hl
  refine ⟨.string (keyBytes ls), ?_⟩
  unfold keyOf
  rw [Tryd.underlying61]
  simp only [Tryd.deepName, hf, Bool.and_self, if_true, hl, Option.map_some]
noncomputable def litN (n : Nm) : Lit := (keyOf Tryd.prog 61 (nmV n)).getD .nil
theorem keyN {n : Nm} (h : NmOk n) : keyOf Tryd.prog 61 (nmV n) = some (litN n) := by
  obtain ⟨l, hl⟩ := keyN_ex h
  unfold litN; rw [hl]; rfl
theorem nmV_inj {a b : Nm} (h : nmV a = nmV b) : a = b := by
  obtain ⟨a1, a2, a3, a4⟩ := a
  obtain ⟨b1, b2, b3, b4⟩ := b
  simpa [nmV] using h
theorem litN_inj {a b : Nm} (ha : NmOk a) (hb : NmOk b) (h : litN a = litN b) : a = b := by
  have h1 := keyN ha
  have h2 := keyN hb
  rw [h] at h1
  exact nmV_inj (lawN.inj h1 h2)
end Go.Proofs.YtgodjaffmojhlaaDoor

namespace Go.Proofs.YtgodjaffmojhlaaDoor
set_option linter.unusedVariables false

def touchY (x y : Pk) : Bool := decide (8 * x.pos < 8 * y.pos + y.body.length) && decide (8 * y.pos < 8 * x.pos + x.body.length)
def touchB (l : List Pk) (x : Pk) : Bool := l.any (touchY x)
def endI (x : Pk) : Int := 8 * x.pos + x.body.length
theorem any_or {α : Type} (f g : α → Bool) (l : List α) : l.any (fun y => f y || g y) = (l.any f || l.any g) := by
  induction l with
  | nil => rfl
  | cons a r ih => simp only [List.any_cons, ih]; cases f a <;> cases g a <;> cases r.any f <;> rfl
theorem endI_hi {x : Pk} (h : 0 ≤ x.pos) : endI x = (hiP x : Int) := by
  have := loP_int h; unfold endI hiP; omega
theorem wrongB_parts {l : List Pk} (h : GoodP l) {x : Pk} (hx : 0 ≤ x.pos) :
    wrongB l x = (decide (x.body.length = 0) || decide (4000 < endI x) || (x.more && decide (¬ x.body.length % 8 = 0)) || (decide (0 < finN l) && (!x.more || decide ((finN l : Int) < endI x))) || (!x.more && decide (endI x < (reachN l : Int))) || touchB l x) := by
  have hany : l.any (wrongY x) = (touchB l x || (decide (0 < finN l) && (!x.more || decide ((finN l : Int) < endI x))) || (!x.more && decide (endI x < (reachN l : Int)))) := by
    have e1 : l.any (wrongY x) = (l.any (touchY x) || l.any (fun y => !y.more && (!x.more || decide (8 * x.pos + x.body.length > 8 * y.pos + y.body.length))) || l.any (fun y => !x.more && decide (8 * y.pos + y.body.length > 8 * x.pos + x.body.length))) := by
      rw [← any_or, ← any_or]; rfl
    have e2 : l.any (fun y => !y.more && (!x.more || decide (8 * x.pos + x.body.length > 8 * y.pos + y.body.length))) = (decide (0 < finN l) && (!x.more || decide ((finN l : Int) < endI x))) := by
      rcases fin_spec l with ⟨h1, h2⟩ | ⟨z, hz, hzm, ez⟩
      · rw [h1]
        simp only [Nat.lt_irrefl, decide_false, Bool.false_and]
        rw [List.any_eq_false]
        intro y hy
        simp [h2 y hy]
      · have hpos : 0 < finN l := by rw [ez]; have := (h.one z hz).2.1; unfold hiP; omega
        rw [decide_eq_true hpos, Bool.true_and, Bool.eq_iff_iff, List.any_eq_true]
        constructor
        · rintro ⟨y, hy, hc⟩
          simp only [Bool.and_eq_true, Bool.not_eq_true', Bool.or_eq_true, decide_eq_true_eq] at hc ⊢
          obtain ⟨hym, hc⟩ := hc
          rcases hc with hc | hc
          · exact .inl hc
          · right
            have := endI_hi (h.one y hy).1
            unfold endI at this ⊢
            rw [h.fin hy hym]; omega
        · intro hc
          refine ⟨z, hz, ?_⟩
          simp only [Bool.and_eq_true, Bool.not_eq_true', Bool.or_eq_true, decide_eq_true_eq] at hc ⊢
          refine ⟨hzm, ?_⟩
          rcases hc with hc | hc
          · exact .inl hc
          · right
            have := endI_hi (h.one z hz).1
            unfold endI at this hc
            rw [ez] at hc; omega
    have e3 : l.any (fun y => !x.more && decide (8 * y.pos + y.body.length > 8 * x.pos + x.body.length)) = (!x.more && decide (endI x < (reachN l : Int))) := by
      rw [Bool.eq_iff_iff, List.any_eq_true]
      constructor
      · rintro ⟨y, hy, hc⟩
        simp only [Bool.and_eq_true, Bool.not_eq_true', decide_eq_true_eq] at hc ⊢
        refine ⟨hc.1, ?_⟩
        have h1 := endI_hi (h.one y hy).1
        have h2 := reachN_ge hy
        unfold endI at h1 ⊢
        omega
      · intro hc
        simp only [Bool.and_eq_true, Bool.not_eq_true', decide_eq_true_eq] at hc
        have hpos : 0 < reachN l := by have := endI_hi hx; omega
        obtain ⟨y, hy, ey⟩ := reachN_in hpos
        refine ⟨y, hy, ?_⟩
        simp only [Bool.and_eq_true, Bool.not_eq_true', decide_eq_true_eq]
        refine ⟨hc.1, ?_⟩
        have h1 := endI_hi (h.one y hy).1
        have h2 := hc.2
        unfold endI at h1 h2
        omega
    rw [e1, e2, e3]; rfl
  unfold wrongB
  rw [hany]
  have e4 : (4000 < 8 * x.pos + (x.body.length : Int)) = (4000 < endI x) := rfl
  simp only [e4]
  cases decide (x.body.length = 0) <;> cases decide (4000 < endI x) <;> cases (x.more && decide (¬ x.body.length % 8 = 0)) <;> cases touchB l x <;> cases (decide (0 < finN l) && (!x.more || decide ((finN l : Int) < endI x))) <;> cases (!x.more && decide (endI x < (reachN l : Int))) <;> rfl
/-- What a piece that is right makes of the numbers that a group keeps. -/
theorem fin_kept {l : List Pk} {x : Pk} (h : GoodP (l ++ [x])) : finN (l ++ [x]) = if x.more then finN l else reachN (l ++ [x]) := by
  rw [finN_snoc h]
  rcases hm : x.more with _ | _
  · simp only [Bool.false_eq_true, if_false]
    have hx : x ∈ l ++ [x] := List.mem_append_right _ (List.mem_singleton.2 rfl)
    have h0 : 0 < reachN (l ++ [x]) := by have := reachN_ge hx; have := (h.one x hx).2.1; unfold hiP at *; omega
    obtain ⟨y, hy, ey⟩ := reachN_in h0
    have h1 := h.under hx hm y hy
    have h2 := reachN_ge hx
    omega
  · rfl
theorem bounds_kept {l : List Pk} (h : GoodP l) : heldN l ≤ 4000 ∧ reachN l ≤ 4000 ∧ finN l ≤ 4000 := by
  have hr : reachN l ≤ 4000 := by
    rcases Nat.eq_zero_or_pos (reachN l) with h0 | h0
    · omega
    · obtain ⟨x, hx, ex⟩ := reachN_in h0
      have := (h.one x hx).2.2.2; omega
  refine ⟨?_, hr, ?_⟩
  · have := (room_le 4000 (posL l) (posL_nodup h) (fun i hi => by
      obtain ⟨x, hx, _, h2⟩ := posL_mem.1 hi
      have := (h.one x hx).2.2.2; omega)).1
    rw [posL_len] at this; exact this
  · rcases fin_spec l with ⟨h1, _⟩ | ⟨z, hz, _, ez⟩
    · omega
    · rw [ez]; exact (h.one z hz).2.2.2
/-- From edge to edge, where they have as many bytes as the last one's end asks for. -/
theorem whole_next {l : List Pk} (h : GoodP l) (hne : l ≠ []) (hd : heldN l = finN l) {n : Nat} (he : EdgeP l n) (hn : n < finN l) : ∃ x ∈ l, loP x = n ∧ hiP x ≤ finN l ∧ (x.more = false → hiP x = finN l) := by
  rcases fin_spec l with ⟨h1, _⟩ | ⟨z, hz, hzm, ez⟩
  · omega
  · obtain ⟨x, hx, a, b⟩ := (h.held hz hzm).2 hd n hn
    refine ⟨x, hx, h.next he hx a b, ?_, fun hm => (h.fin hx hm).symm⟩
    rw [ez]; exact h.under hz hzm x hx
theorem edge_in {l : List Pk} (h : GoodP l) (hne : l ≠ []) (hd : heldN l = finN l) {n : Nat} (he : EdgeP l n) : n < finN l := by
  obtain ⟨x0, hx0⟩ := List.exists_mem_of_ne_nil _ hne
  have hpos := heldN_pos h hx0
  rcases fin_spec l with ⟨h1, _⟩ | ⟨z, hz, hzm, ez⟩
  · omega
  · rcases he with rfl | ⟨x, hx, ex, hm⟩
    · omega
    · have hle := h.under hz hzm x hx
      rcases Nat.lt_or_ge n (finN l) with hc | hc
      · exact hc
      · exfalso
        have hxz : x ≠ z := fun e => by rw [e, hzm] at hm; cases hm
        rcases pair_of h.fit hx hz with e | hf
        · exact hxz e
        · have h1 := hf.1
          have h2 := (h.one x hx).2.1
          have h3 := (h.one z hz).2.1
          unfold hiP at h1 ex ez hle
          omega
theorem chain_no {l : List Pk} (h : GoodP l) (hne : l ≠ []) {n : Nat} (he : EdgeP l n) (hno : ∀ x ∈ l, loP x ≠ n) : ¬ heldN l = finN l := by
  intro hd
  obtain ⟨x, hx, e, _⟩ := whole_next h hne hd he (edge_in h hne hd he)
  exact hno x hx e
theorem chain_yes {l : List Pk} (h : GoodP l) {x : Pk} (hx : x ∈ l) (hm : x.more = false) (hc : ∀ i, i < loP x → ∃ y ∈ l, loP y ≤ i ∧ i < hiP y) : heldN l = finN l ∧ finN l = hiP x := by
  have hf := h.fin hx hm
  refine ⟨h.full hx hm (fun i hi => ?_), hf⟩
  by_cases hl : i < loP x
  · exact hc i hl
  · exact ⟨x, hx, by omega, by omega⟩
end Go.Proofs.YtgodjaffmojhlaaDoor

namespace Go.Proofs.YtgodjaffmojhlaaDoor
open Go.RowKit
set_option linter.unusedVariables false

section
variable {F G : Nat → Prop} {w w' w'' : World}
theorem Turn.same (h : Turn F w w') (hs : Same w' w'') : Turn F w w'' := by obtain ⟨n, rfl⟩ := hs; exact h.drewN n
theorem Turn.bytes (h : Turn F w w') {v : Value} {zs : List Int} {base : Nat} (hv : OwnB w base v zs) (hF : ∀ k, v.ownBlock = some k → ¬ F k) : OwnB w' base v zs := by
  refine ⟨⟨hv.1.1, ?_⟩, hv.2⟩
  rcases hv.1.2 with h2 | ⟨g, cap, cur, e, hg, hh, hr⟩
  · exact .inl h2
  · refine .inr ⟨g, cap, cur, e, hg, ?_, hr⟩
    have hlt : g < w.heap.size := by
      rcases Nat.lt_or_ge g w.heap.size with h1 | h1
      · exact h1
      · simp [Array.getElem?_eq_none h1] at hh
    rw [h.block g hlt (hF g (by rw [e]; rfl))]; exact hh
end
theorem OwnB.blk {w w' : World} {v : Value} {zs : List Int} {base : Nat} (hv : OwnB w base v zs) (hF : ∀ k, v.ownBlock = some k → w'.heap[k]? = w.heap[k]?) : OwnB w' base v zs := by
  refine ⟨⟨hv.1.1, ?_⟩, hv.2⟩
  rcases hv.1.2 with h2 | ⟨g, cap, cur, e, hg, hh, hr⟩
  · exact .inl h2
  · refine .inr ⟨g, cap, cur, e, hg, ?_, hr⟩
    rw [hF g (by rw [e]; rfl)]; exact hh
end Go.Proofs.YtgodjaffmojhlaaDoor

namespace Go.Proofs.YtgodjaffmojhlaaDoor
set_option linter.unusedVariables false

/-- How many pieces there are ahead of the last one. -/
def fK (len size : Nat) : Nat := (len - size + 8 * (size / 8) - 1) / (8 * (size / 8))
def pcK (p : Pk) (s k : Nat) : Pk := { p with pos := p.pos + (k : Int) * s, more := true, body := (p.body.drop (k * (8 * s))).take (8 * s) }
def lsK (p : Pk) (s k : Nat) : Pk := { p with pos := p.pos + (k : Int) * s, body := p.body.drop (k * (8 * s)) }
/-- The pieces. -/
def cutL (p : Pk) (size : Nat) : List Pk := (List.range (fK p.body.length size)).map (pcK p (size / 8)) ++ [lsK p (size / 8) (fK p.body.length size)]
/-- What is wrong with a packet that is to be cut. -/
def splitE (p : Pk) (size : Int) : Int :=
  if size < 8 ∨ 4000 < size then 1 else if ¬ pkErr p = 0 then pkErr p else if 32767 < p.pos + (fK p.body.length size.toNat : Int) * (size.toNat / 8 : Nat) then 1 else 0
def splitL (p : Pk) (size : Int) : List Pk := if splitE p size = 0 then cutL p size.toNat else []

theorem fK_lt {len size k : Nat} (h8 : 8 ≤ size) : k < fK len size ↔ k * (8 * (size / 8)) + size < len := by
  have hs : 0 < 8 * (size / 8) := by omega
  unfold fK
  rw [← Nat.succ_le_iff, Nat.le_div_iff_mul_le hs, Nat.succ_mul]
  omega
theorem fK_zero {len size : Nat} (h8 : 8 ≤ size) (h : len ≤ size) : fK len size = 0 := by
  rcases Nat.eq_zero_or_pos (fK len size) with h0 | h0
  · exact h0
  · have := (fK_lt h8).1 h0; omega
theorem fK_end {len size : Nat} (h8 : 8 ≤ size) : len ≤ fK len size * (8 * (size / 8)) + size := by
  have := mt (fK_lt (len := len) (k := fK len size) h8).2 (Nat.lt_irrefl _)
  omega
theorem fK_le {len size k : Nat} (h8 : 8 ≤ size) (hk : k < fK len size) : k * (8 * (size / 8)) + 8 * (size / 8) < len := by
  have := (fK_lt h8).1 hk; omega
theorem fK_small {len size : Nat} (h8 : 8 ≤ size) : fK len size * 8 ≤ len := by
  rcases Nat.eq_zero_or_pos (fK len size) with h0 | h0
  · omega
  · have h1 := fK_le (k := fK len size - 1) h8 (show fK len size - 1 < fK len size by omega)
    have h2 : (fK len size - 1) * 8 ≤ (fK len size - 1) * (8 * (size / 8)) := Nat.mul_le_mul_left _ (by omega)
    omega
theorem cutL_length (p : Pk) (size : Nat) : (cutL p size).length = fK p.body.length size + 1 := by simp [cutL]
theorem cutL_get (p : Pk) (size i : Nat) (h : i < (cutL p size).length) : (cutL p size)[i] = if i < fK p.body.length size then pcK p (size / 8) i else lsK p (size / 8) i := by
  have h' := h
  rw [cutL_length] at h'
  by_cases hi : i < fK p.body.length size
  · rw [if_pos hi]
    have e : (cutL p size)[i]? = some (pcK p (size / 8) i) := by
      unfold cutL
      rw [List.getElem?_append_left (by simpa using hi)]
      simp [hi]
    rw [List.getElem?_eq_getElem h] at e
    exact Option.some.inj e
  · rw [if_neg hi]
    have ei : i = fK p.body.length size := by omega
    have e : (cutL p size)[i]? = some (lsK p (size / 8) i) := by
      unfold cutL
      rw [List.getElem?_append_right (by simp; omega), ei]
      simp
    rw [List.getElem?_eq_getElem h] at e
    exact Option.some.inj e
/-- A piece that is not too long is its own only piece. -/
theorem splitE_bad {p : Pk} {size : Int} (h : size < 8 ∨ 4000 < size) : splitE p size = 1 := by unfold splitE; rw [if_pos h]
theorem splitE_err {p : Pk} {size : Int} (h : ¬ (size < 8 ∨ 4000 < size)) (he : ¬ pkErr p = 0) : splitE p size = pkErr p := by unfold splitE; rw [if_neg h, if_pos he]
theorem splitE_far {p : Pk} {size : Int} (h : ¬ (size < 8 ∨ 4000 < size)) (he : pkErr p = 0) (hf : 32767 < p.pos + (fK p.body.length size.toNat : Int) * (size.toNat / 8 : Nat)) : splitE p size = 1 := by
  unfold splitE; rw [if_neg h, if_neg (by simpa using he), if_pos hf]
theorem splitE_ok {p : Pk} {size : Int} (h : ¬ (size < 8 ∨ 4000 < size)) (he : pkErr p = 0) (hf : ¬ 32767 < p.pos + (fK p.body.length size.toNat : Int) * (size.toNat / 8 : Nat)) : splitE p size = 0 := by
  unfold splitE; rw [if_neg h, if_neg (by simpa using he), if_neg hf]
theorem of_splitE {p : Pk} {size : Int} (h : splitE p size = 0) : 8 ≤ size ∧ size ≤ 4000 ∧ pkErr p = 0 ∧ p.pos + (fK p.body.length size.toNat : Int) * (size.toNat / 8 : Nat) ≤ 32767 := by
  unfold splitE at h
  split at h
  · cases h
  · split at h
    · exact absurd h ‹_›
    · split at h
      · cases h
      · refine ⟨by omega, by omega, Classical.not_not.1 ‹_›, by omega⟩
theorem pkErr_part {p : Pk} (he : pkErr p = 0) {q : Pk} (h1 : q.kind = p.kind) (h2 : q.ttl = p.ttl) (h3 : q.ident = p.ident) (h4 : q.src = p.src) (h5 : q.dst = p.dst) (h6 : 0 ≤ q.pos ∧ q.pos ≤ 32767) (h7 : q.body.length ≤ p.body.length) : pkErr q = 0 := by
  obtain ⟨hin, hl⟩ := pkErr_ok he
  unfold pkErr
  rw [if_neg, if_neg (by omega)]
  unfold pkIn at hin ⊢
  rw [h1, h2, h3, h4, h5, upB_yes h6.1 h6.2]
  simp only [Bool.and_eq_true] at hin
  obtain ⟨⟨⟨⟨⟨a, b⟩, c⟩, d⟩, e⟩, f⟩ := hin
  rw [a, b, c, d, e]; simp
theorem splitL_self {p : Pk} {size : Int} (h8 : 8 ≤ size) (h4 : size ≤ 4000) (he : pkErr p = 0) (hl : (p.body.length : Int) ≤ size) : splitE p size = 0 ∧ splitL p size = [p] := by
  have hK : fK p.body.length size.toNat = 0 := fK_zero (by omega) (by omega)
  have hp := (of_pkIn (pkErr_ok he).1).2.2.2.2.2
  have e0 : splitE p size = 0 := splitE_ok (by omega) he (by rw [hK]; simp; omega)
  refine ⟨e0, ?_⟩
  unfold splitL cutL
  rw [if_pos e0, hK]
  simp [lsK]
/-- What each piece is. -/
structure PieceOf (p : Pk) (size : Int) (n i : Nat) (x : Pk) : Prop where
  at8 : 8 * (x.pos - p.pos) = ((i * (8 * (size.toNat / 8)) : Nat) : Int)
  small : (x.body.length : Int) ≤ size
  more : i + 1 < n → x.more = true ∧ x.body.length = 8 * (size.toNat / 8)
  last : i + 1 = n → x.more = p.more
  kind : x.kind = p.kind
  ttl : x.ttl = p.ttl
  ident : x.ident = p.ident
  src : x.src = p.src
  dst : x.dst = p.dst
  good : pkErr x = 0
  body : x.body = if i + 1 < n then (p.body.drop (i * (8 * (size.toNat / 8)))).take (8 * (size.toNat / 8)) else p.body.drop (i * (8 * (size.toNat / 8)))
theorem pieceOf {p : Pk} {size : Int} (h : splitE p size = 0) (i : Nat) (hi : i < (splitL p size).length) : PieceOf p size (splitL p size).length i (splitL p size)[i] := by
  obtain ⟨h8, h4, he, hf⟩ := of_splitE h
  have hp := (of_pkIn (pkErr_ok he).1).2.2.2.2.2
  have hL : splitL p size = cutL p size.toNat := by unfold splitL; rw [if_pos h]
  have h8' : 8 ≤ size.toNat := by omega
  have hlen := cutL_length p size.toNat
  have key : ∀ x n, n = (cutL p size.toNat).length → i < n → x = (if i < fK p.body.length size.toNat then pcK p (size.toNat / 8) i else lsK p (size.toNat / 8) i) → PieceOf p size n i x := by
    intro x n hn hin hx
    have hpos : (i : Int) * ((size.toNat / 8 : Nat) : Int) ≤ (fK p.body.length size.toNat : Int) * ((size.toNat / 8 : Nat) : Int) := Int.mul_le_mul_of_nonneg_right (by omega) (by omega)
    have hpos0 : 0 ≤ (i : Int) * ((size.toNat / 8 : Nat) : Int) := Int.mul_nonneg (by omega) (by omega)
    have e8 : ((i * (8 * (size.toNat / 8)) : Nat) : Int) = 8 * ((i : Int) * ((size.toNat / 8 : Nat) : Int)) := by
      rw [Nat.mul_left_comm]; simp
    by_cases hk : i < fK p.body.length size.toNat
    · rw [if_pos hk] at hx
      have hle := fK_le h8' hk
      have hbl : x.body.length = 8 * (size.toNat / 8) := by rw [hx]; simp only [pcK, List.length_take, List.length_drop]; omega
      have hx5 : x.pos = p.pos + (i : Int) * ((size.toNat / 8 : Nat) : Int) := by rw [hx]; rfl
      exact ⟨by rw [e8, hx5]; omega, by omega, fun _ => ⟨by rw [hx]; rfl, hbl⟩, fun hc => by omega, by rw [hx]; rfl, by rw [hx]; rfl, by rw [hx]; rfl, by rw [hx]; rfl, by rw [hx]; rfl,
        pkErr_part he (by rw [hx]; rfl) (by rw [hx]; rfl) (by rw [hx]; rfl) (by rw [hx]; rfl) (by rw [hx]; rfl) (by rw [hx5]; omega) (by omega), by rw [if_pos (by omega), hx]; rfl⟩
    · rw [if_neg hk] at hx
      have ei : i = fK p.body.length size.toNat := by omega
      have hle := fK_end (len := p.body.length) h8'
      rw [← ei] at hle
      have hbl : x.body.length = p.body.length - i * (8 * (size.toNat / 8)) := by rw [hx]; simp only [lsK, List.length_drop]
      have hx5 : x.pos = p.pos + (i : Int) * ((size.toNat / 8 : Nat) : Int) := by rw [hx]; rfl
      exact ⟨by rw [e8, hx5]; omega, by omega, fun hc => by omega, fun _ => by rw [hx]; rfl, by rw [hx]; rfl, by rw [hx]; rfl, by rw [hx]; rfl, by rw [hx]; rfl, by rw [hx]; rfl,
        pkErr_part he (by rw [hx]; rfl) (by rw [hx]; rfl) (by rw [hx]; rfl) (by rw [hx]; rfl) (by rw [hx]; rfl) (by rw [hx5]; omega) (by omega), by rw [if_neg (by omega), hx]; rfl⟩
  have hi' : i < (cutL p size.toNat).length := by rw [← hL]; exact hi
  have := key ((cutL p size.toNat)[i]) _ rfl hi' (cutL_get p size.toNat i hi')
  simp only [hL]
  exact this
/-- The bodies of the first i pieces, one behind the other. -/
theorem bodies_take {p : Pk} {size : Int} (h : splitE p size = 0) : ∀ i, i ≤ (splitL p size).length → (((splitL p size).take i).map Pk.body).flatten = if i < (splitL p size).length then p.body.take (i * (8 * (size.toNat / 8))) else p.body := by
  intro i
  induction i with
  | zero =>
    intro _
    have : 0 < (splitL p size).length := by unfold splitL; rw [if_pos h, cutL_length]; omega
    rw [if_pos this]; simp
  | succ i ih =>
    intro hi
    have e := ih (by omega)
    rw [if_pos (by omega)] at e
    rw [List.take_succ_eq_append_getElem (by omega), List.map_append, List.flatten_append, e]
    have hp := pieceOf h i (by omega)
    have hb := hp.body
    simp only [List.map_cons, List.map_nil, List.flatten_cons, List.flatten_nil, List.append_nil]
    rw [hb]
    by_cases hc : i + 1 < (splitL p size).length
    · rw [if_pos hc, if_pos hc, show (i + 1) * (8 * (size.toNat / 8)) = i * (8 * (size.toNat / 8)) + 8 * (size.toNat / 8) from Nat.succ_mul _ _]
      generalize 8 * (size.toNat / 8) = c
      rw [← List.take_add]
    · rw [if_neg hc, if_neg hc, List.take_append_drop]
end Go.Proofs.YtgodjaffmojhlaaDoor

namespace Go.Proofs.YtgodjaffmojhlaaDoor
open Go.RowKit
set_option linter.unusedVariables false

set_option maxHeartbeats 1000000 in
theorem ffresh_any (v : Value) (zs : List Int) (w : World) (h : Bytes w v zs) (hl : zs.length ≤ 140737488355328) :
    Calls Tryd.prog 20 #[v] w fun e w' => ∃ v', e = .returned v' ∧ OwnB w' w.heap.size v' zs ∧ Below w.heap.size w w' := by
  have hn := OwnB.nil w w.heap.size
  go_enter Tryd.func20, Tryd.ntmps20
  go_wp2_with (at_builtin; refine wpList_append_bytes rfl (.const (.slice none 0 0)) (.tmp 3) rfl w.heap.size _ [] rfl hn _ zs rfl h (by simpa using hl) (Nat.le_refl _) ?_; intro v1 w1 own1 grow1)
  go_ret
  rw [List.nil_append] at own1
  exact ⟨_, rfl, own1, (Below.refl _ _).grown grow1 (Nat.le_refl _) (fun k hk => by cases hk)⟩

/-- What Split's answer is. -/
def Splits (p : Pk) (size : Int) (w : World) (e : Ending) (w' : World) : Prop :=
  ∃ v qs, e = .returned (.tuple #[v, errV (splitE p size)]) ∧ qs.map Prod.fst = splitL p size ∧ OwnK w' w.heap.size v qs ∧ Bods w' w.heap.size v qs ∧ Below w.heap.size w w'
theorem splits_no {p : Pk} {size : Int} {w w' : World} {n : Int} (hn : ¬ n = 0) (hE : splitE p size = n) (hw : Below w.heap.size w w') : Splits p size w (.returned (.tuple #[.slice none 0 0, .iface 48 (.int .i64 n)])) w' := by
  refine ⟨.slice none 0 0, [], ?_, ?_, OwnK.nil _ _, Bods.nil _ _ _, hw⟩
  · rw [hE]; unfold errV; rw [if_neg hn]
  · unfold splitL; rw [hE, if_neg hn]; rfl

theorem len_body' {w : World} {v : Value} {zs : List Int} {n : Nat} (h : Bytes w v zs) (hn : zs.length = n) : ∃ a c, v = .slice a n c := by subst hn; exact len_body h
theorem bytes_take {w : World} {b off len cap : Nat} {zs : List Int} (n : Nat) (h : Row w b off zs) (hl : len ≤ cap) (hm : cap ≤ maxLen) (h62 : len < 2 ^ 62) (hz : zs.length = len) (hn : n ≤ len) : Bytes w (.slice (some ⟨b, off, none⟩) n cap) (zs.take n) :=
  .inr ⟨b, off, n, cap, rfl, by omega, hm, by omega, by simp; omega, by have := h.part 0 n (by omega); simpa using this⟩
theorem pkBoxed (w : World) (p : Pk) (bv : Value) (hb : Bytes w bv p.body) : ∀ w1, Below (w.alloc (.cells #[.int .i64 p.kind, .int .i64 p.ttl, .int .i64 p.ident, .int .i64 p.src, .int .i64 p.dst, .int .i64 p.pos, .bool p.more, bv] 40)).heap.size (w.alloc (.cells #[.int .i64 p.kind, .int .i64 p.ttl, .int .i64 p.ident, .int .i64 p.src, .int .i64 p.dst, .int .i64 p.pos, .bool p.more, bv] 40)) w1 →
    PkAt w1 w.heap.size p bv ∧ Bytes w1 bv p.body ∧ Below w.heap.size w w1 ∧ w.heap.size + 1 ≤ w1.heap.size := by
  intro w1 h
  have hP := PkAt.new w p bv
  have hB : Below w.heap.size w (w.alloc (.cells #[.int .i64 p.kind, .int .i64 p.ttl, .int .i64 p.ident, .int .i64 p.src, .int .i64 p.dst, .int .i64 p.pos, .bool p.more, bv] 40)) := (Below.refl _ _).alloc (Nat.le_refl _) _
  refine ⟨hP.below hP.lt h, (hb.alloc _).below (Nat.le_refl _) h, hB.trans (h.mono hB.size), ?_⟩
  have := h.size; simpa using this
theorem PkAt.put5 {w : World} {b : Nat} {p : Pk} {bv : Value} (h : PkAt w b p bv) (o : Int) : PkAt (w.setCell ⟨b, 5, none⟩ (.int .i64 o)) b { p with pos := o } bv := by
  have e := heap_setCell_same w b 5 _ _ (.int .i64 o) h
  rw [set8_5] at e; exact e
theorem PkAt.put6 {w : World} {b : Nat} {p : Pk} {bv : Value} (h : PkAt w b p bv) (m : Bool) : PkAt (w.setCell ⟨b, 6, none⟩ (.bool m)) b { p with more := m } bv := by
  have e := heap_setCell_same w b 6 _ _ (.bool m) h
  rw [set8_6] at e; exact e
theorem PkAt.put7 {w : World} {b : Nat} {p : Pk} {bv : Value} (h : PkAt w b p bv) (v : Value) (zs : List Int) : PkAt (w.setCell ⟨b, 7, none⟩ v) b { p with body := zs } v := by
  have e := heap_setCell_same w b 7 _ _ v h
  rw [set8_7] at e; exact e
theorem PkAt.grown {w w' : World} {b : Nat} {p : Pk} {bv : Value} {row : Option Nat} (h : PkAt w b p bv) (hg : w.grownBy w' row) (hne : row ≠ some b) : PkAt w' b p bv := by
  unfold PkAt; rw [hg.block b h.lt (fun e => hne e.symm)]; exact h
theorem Bods.off {w w' : World} {base g : Nat} {v : Value} {qs : List (Pk × Value)} (h : Bods w base v qs) (hne : ∀ q ∈ qs, q.2.ownBlock ≠ some g) (ho : Only g w w') : Bods w' base v qs := fun q hq => ⟨(h q hq).1.only (hne q hq) ho, (h q hq).2⟩
theorem Bods.lt {w : World} {base : Nat} {v : Value} {qs : List (Pk × Value)} (h : Bods w base v qs) : ∀ q ∈ qs, q.2.ownBlock ≠ some w.heap.size := fun q hq e => by have := ((h q hq).1.1.lt _ e).2; omega
/-- The loop's state: k pieces are cut off. -/
structure Cut (p : Pk) (s c : Nat) (w : World) (k : Nat) (v : Value) (wr : World) : Prop where
  row : ∃ qs, OwnK wr (w.heap.size + 1) v qs ∧ Bods wr (w.heap.size + 1) v qs ∧ qs.map Prod.fst = (List.range k).map (pcK p s)
  var : ∃ bk, PkAt wr w.heap.size (lsK p s k) bk ∧ Bytes w bk (p.body.drop (k * c))
  fit : p.pos + (k : Int) * s ≤ 32767
  below : Below w.heap.size w wr
  size : w.heap.size + 1 ≤ wr.heap.size
end Go.Proofs.YtgodjaffmojhlaaDoor
