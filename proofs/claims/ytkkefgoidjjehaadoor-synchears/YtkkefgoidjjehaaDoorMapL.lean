/- A map whose elements are held as they are, told as the list of its entries in whatever order ('MapIs'): look-up, store, delete, len, what is struck by a predicate; a map stays while other blocks turn. No program is named. -/
import Derived.Maps.RangeWalk
import Derived.Maps.OwnSet
import Derived.Maps.OwnOps
import Derived.Maps.Ext
import Derived.Lib.SlMapFilter
namespace Go.Proofs.YtkkefgoidjjehaaDoor
open Go.RowKit Go.Maps
set_option linter.unusedVariables false

/-- An element, held as it is. -/
def rawR (v : Value) : Option (DataW Value × List MemPlace) := some (.held v, [])
def heldL (l : List (Lit × Value)) : List (Lit × DataW Value) := l.map fun x => (x.1, .held x.2)
/-- Block b is a map with just these entries, in whatever order. -/
def MapIs (P : Program) (k : TypeId) (w : World) (b : Nat) (l : List (Lit × Value)) : Prop :=
  ∃ es, w.ownsMap P k rawR b l.length (.map es) ∧ es.Perm (heldL l)

section
variable {P : Program} {k t e : TypeId} {w : World} {b n : Nat} {l : List (Lit × Value)}
theorem ownsMap_exact {es : List (Lit × DataW Value)} (h : w.ownsMap P k rawR b n (.map es)) : w.ownsMap P k rawR b es.length (.map es) := by
  obtain ⟨xs, clock, hb, F, hs, hD⟩ := h
  refine ⟨xs, clock, hb, F, ?_, hD⟩
  injection hD with hD
  rw [hD, length_sorted]; simp
theorem mapIs_of {es : List (Lit × DataW Value)} (h : w.ownsMap P k rawR b n (.map es)) (hp : es.Perm (heldL l)) : MapIs P k w b l := by
  have e : es.length = l.length := by rw [hp.length_eq]; simp [heldL]
  exact ⟨es, e ▸ ownsMap_exact h, hp⟩
theorem MapIs.perm {l' : List (Lit × Value)} (h : MapIs P k w b l) (hp : l.Perm l') : MapIs P k w b l' := by
  obtain ⟨es, h1, h2⟩ := h
  exact mapIs_of h1 (h2.trans (hp.map _))
theorem MapIs.made (P : Program) (k : TypeId) (w : World) : MapIs P k (w.alloc (.map #[] 0)) w.heap.size [] := ⟨[], World.ownsMap_made w P k rawR, .refl _⟩
theorem MapIs.lt (h : MapIs P k w b l) : b < w.heap.size := by obtain ⟨es, h1, _⟩ := h; exact h1.lt
theorem MapIs.kept {w' : World} {row : Option Nat} (h : MapIs P k w b l) (hg : w.grownBy w' row) (hne : some b ≠ row) : MapIs P k w' b l := by
  obtain ⟨es, h1, h2⟩ := h; exact ⟨es, h1.kept hg hne, h2⟩
theorem MapIs.block {w' : World} (h : MapIs P k w b l) (hb : w'.heap[b]? = w.heap[b]?) : MapIs P k w' b l := by
  obtain ⟨es, ⟨xs, clock, h1, r⟩, h2⟩ := h; exact ⟨es, ⟨xs, clock, hb.trans h1, r⟩, h2⟩
theorem MapIs.not_cells {cs : Array Value} {T : TypeId} {z : Nat × Nat} (h : MapIs P k w b l) (hc : w.heap[b]? = some (.cells cs T z)) : False := by
  obtain ⟨es, ⟨xs, clock, h1, r⟩, h2⟩ := h; rw [hc] at h1; cases h1
theorem heldL_mem {x : Lit × Value} : (x.1, DataW.held x.2) ∈ heldL l ↔ x ∈ l := by
  unfold heldL
  simp only [List.mem_map, Prod.mk.injEq, DataW.held.injEq]
  constructor
  · rintro ⟨y, hy, h1, h2⟩; rw [show x = y from Prod.ext h1.symm h2.symm]; exact hy
  · intro h; exact ⟨x, h, rfl, rfl⟩
/-- No key is there twice. -/
theorem MapIs.apart (h : MapIs P k w b l) (K : Keyed P k) : l.Pairwise (fun p q => p.1 ≠ q.1) := by
  obtain ⟨es, h1, h2⟩ := h
  obtain ⟨es', e, hp⟩ := h1.tidy K
  injection e with e
  subst e
  have := (h2.pairwise_iff (R := fun p q : Lit × DataW Value => p.1 ≠ q.1) (fun {_ _} h => Ne.symm h)).1 hp
  unfold heldL at this
  rw [List.pairwise_map] at this
  exact this
theorem MapIs.isKey (h : MapIs P k w b l) (K : Keyed P k) : ∀ x ∈ l, WideAt.IsKeyLit x.1 := by
  intro x hx
  obtain ⟨es, h1, h2⟩ := h
  obtain ⟨es', e, _, hk⟩ := h1.entries K
  injection e with e
  subst e
  exact hk _ (h2.mem_iff.2 (heldL_mem.2 hx))
theorem apart_unique {l : List (Lit × Value)} (h : l.Pairwise (fun p q => p.1 ≠ q.1)) {x y : Lit × Value} (hx : x ∈ l) (hy : y ∈ l) (e : x.1 = y.1) : x = y := by
  induction l with
  | nil => cases hx
  | cons a r ih =>
    rw [List.pairwise_cons] at h
    rcases List.mem_cons.1 hx with rfl | hx' <;> rcases List.mem_cons.1 hy with rfl | hy'
    · rfl
    · exact absurd e (h.1 _ hy')
    · exact absurd e.symm (h.1 _ hx')
    · exact ih h.2 hx' hy'
theorem atKey_mem {es : List (Lit × DataW Value)} {kl : Lit} {z d : DataW Value} (hk : WideAt.IsKeyLit kl) (ha : es.Pairwise (fun p q => p.1 ≠ q.1)) (hm : (kl, d) ∈ es) : (DataW.map es).atKey kl z = d := by
  unfold DataW.atKey
  simp only
  induction es with
  | nil => cases hm
  | cons a r ih =>
    rw [List.pairwise_cons] at ha
    by_cases hc : a.1.sameKey kl = true
    · rw [List.find?_cons_of_pos (p := fun p : Lit × DataW Value => p.1.sameKey kl) hc]
      have e := WideAt.sameKey_eq hc
      rcases List.mem_cons.1 hm with h | h
      · rw [← h]
      · exact absurd e (ha.1 _ h)
    · rw [List.find?_cons_of_neg (p := fun p : Lit × DataW Value => p.1.sameKey kl) hc]
      rcases List.mem_cons.1 hm with h | h
      · exfalso; apply hc; rw [← h]; exact WideAt.sameKey_self hk
      · exact ih ha.2 h
theorem atKey_none {es : List (Lit × DataW Value)} {kl : Lit} {z : DataW Value} (hm : ∀ p ∈ es, p.1 ≠ kl) : (DataW.map es).atKey kl z = z := by
  unfold DataW.atKey
  simp only
  rw [List.find?_eq_none.2 (fun p hp hc => hm p hp (WideAt.sameKey_eq hc))]
theorem MapIs.look (h : MapIs P k w b l) (K : Keyed P k) (ht : P.underlying t = some (.map k e)) {z : Value} (hz : (zeroValue e).run P w = .ok z w) {key : Value} {kl : Lit} (hkey : keyOf P k key = some kl) {v : Value} (hv : (kl, v) ∈ l) :
    (Instr.lookup t (.map (some b)) key false).run P w = .ok v w := by
  obtain ⟨es, h1, h2⟩ := h
  obtain ⟨u, ps, hr, hR⟩ := h1.lookup K ht hz (zd := .held z) (zp := []) rfl hkey
  obtain ⟨es', e, hp⟩ := h1.tidy K
  injection e with e
  subst e
  rw [atKey_mem (K.key hkey) hp (h2.mem_iff.2 (heldL_mem (x := (kl, v)).2 hv))] at hR
  unfold rawR at hR
  simp only [Option.some.injEq, Prod.mk.injEq, DataW.held.injEq] at hR
  rw [hr, hR.1]
theorem MapIs.look_no (h : MapIs P k w b l) (K : Keyed P k) (ht : P.underlying t = some (.map k e)) {z : Value} (hz : (zeroValue e).run P w = .ok z w) {key : Value} {kl : Lit} (hkey : keyOf P k key = some kl) (hv : ∀ x ∈ l, x.1 ≠ kl) :
    (Instr.lookup t (.map (some b)) key false).run P w = .ok z w := by
  obtain ⟨es, h1, h2⟩ := h
  obtain ⟨u, ps, hr, hR⟩ := h1.lookup K ht hz (zd := .held z) (zp := []) rfl hkey
  rw [atKey_none (fun p hp => by
    have := h2.mem_iff.1 hp
    unfold heldL at this
    obtain ⟨x, hx, rfl⟩ := List.mem_map.1 this
    exact hv x hx)] at hR
  unfold rawR at hR
  simp only [Option.some.injEq, Prod.mk.injEq, DataW.held.injEq] at hR
  rw [hr, hR.1]
theorem heldL_filter (f : Lit → Bool) (l : List (Lit × Value)) : (heldL l).filter (fun p => f p.1) = heldL (l.filter fun x => f x.1) := by
  unfold heldL; rw [List.filter_map]; rfl
theorem MapIs.store (h : MapIs P k w b l) (K : Keyed P k) (ht : P.underlying t = some (.map k e)) (hn : l.length < maxLen) {key : Value} {kl : Lit} (hkey : keyOf P k key = some kl) (v : Value) :
    ∃ w', (Instr.mapUpdate t (.map (some b)) key v).run P w = .ok () w' ∧ MapIs P k w' b ((kl, v) :: l.filter fun x => !x.1.sameKey kl) ∧ w.grownBy w' (some b) := by
  obtain ⟨es, h1, h2⟩ := h
  obtain ⟨w', hr, ho, hg⟩ := h1.update K ht hn hkey (val := v) (d := .held v) (ps := []) rfl
  refine ⟨w', hr, mapIs_of ho ?_, hg⟩
  refine (WideShapes.insert_perm _ _).trans ?_
  refine List.Perm.cons _ ((h2.filter _).trans ?_)
  rw [heldL_filter (fun x => !x.sameKey kl)]
  exact .refl _
theorem MapIs.drop (h : MapIs P k w b l) (K : Keyed P k) (ht : P.underlying t = some (.map k e)) {key : Value} {kl : Lit} (hkey : keyOf P k key = some kl) (ty : TypeId) :
    ∃ w', (Builtin.delete_ #[t, k] ty #[.map (some b), key]).run P w = .ok (.tuple #[]) w' ∧ MapIs P k w' b (l.filter fun x => !x.1.sameKey kl) ∧ w.grownBy w' (some b) := by
  obtain ⟨es, h1, h2⟩ := h
  obtain ⟨w', hr, ho, hg⟩ := h1.drop K ht hkey ty
  refine ⟨w', hr, mapIs_of ho ?_, hg.grown⟩
  refine (h2.filter _).trans ?_
  rw [heldL_filter (fun x => !x.sameKey kl)]
theorem MapIs.len (h : MapIs P k w b l) (ht : P.underlying t = some (.map k e)) (ty : TypeId) : (Builtin.len_ #[t] ty #[.map (some b)]).run P w = .ok (.int .i64 l.length) w := by
  obtain ⟨es, h1, h2⟩ := h
  rw [h1.len ht ty]
  have e : Maps.size (DataW.map es) = l.length := by show es.length = _; rw [h2.length_eq]; simp [heldL]
  rw [e]
theorem MapIs.struck {w' : World} {n : Nat} {pd : Lit → DataW Value → Bool} {es : List (Lit × DataW Value)} (hp : es.Perm (heldL l)) (h : w'.ownsMap P k rawR b n (Lib.deleteFuncD pd (.map es))) : MapIs P k w' b (l.filter fun x => !pd x.1 (.held x.2)) := by
  refine mapIs_of h ((hp.filter _).trans ?_)
  unfold heldL; rw [List.filter_map]; exact .refl _
end

section
variable {P : Program} (w : World) {ops : Array Oper} {rest : List Oper} {o : Oper} {a : Act} {Q : Exit → Act → World → Prop}
theorem wpList_mapStore (hg : o.guard = none) (m x v : Operand) (t : TypeId) (hop : o.op = Op.mapUpdate t m x v) (k e : TypeId) (K : Keyed P k) (ht : P.underlying t = some (.map k e)) (b : Nat) (l : List (Lit × Value))
    (hm : a.eval m = .map (some b)) (h : MapIs P k w b l) (hn : l.length < maxLen) (key val : Value) (kl : Lit) (hx : a.eval x = key) (hv : a.eval v = val) (hkey : keyOf P k key = some kl)
    (hK : ∀ w', MapIs P k w' b ((kl, val) :: l.filter fun x => !x.1.sameKey kl) → w.grownBy w' (some b) → wpList P ops Q rest (a.put o.dst undef) w') : wpList P ops Q (o :: rest) a w := by
  refine wpList_plain hg fun K' hK' => ?_
  obtain ⟨w', hrun, r1, r2⟩ := h.store K ht hn hkey val
  unfold Oper.wp
  simp [execOp, hop, hm, hx, hv, hrun, Result.andThen]
  exact hK' _ _ (hK w' r1 r2)
theorem wpList_mapDrop (hg : o.guard = none) (m x : Operand) (t k : TypeId) (hop : o.op = Op.call { callee := Callee.builtin Builtin.delete, args := #[m, x], argTypes := #[t, k] })
    (e : TypeId) (K : Keyed P k) (ht : P.underlying t = some (.map k e)) (b : Nat) (l : List (Lit × Value))
    (hm : a.eval m = .map (some b)) (h : MapIs P k w b l) (key : Value) (kl : Lit) (hx : a.eval x = key) (hkey : keyOf P k key = some kl)
    (hK : ∀ w', MapIs P k w' b (l.filter fun x => !x.1.sameKey kl) → w.grownBy w' (some b) → wpList P ops Q rest (a.put o.dst (.tuple #[])) w') : wpList P ops Q (o :: rest) a w := by
  refine wpList_plain hg fun K' hK' => ?_
  obtain ⟨w', hrun, r1, r2⟩ := h.drop K ht hkey o.type
  unfold Oper.wp
  simp [execOp, hop, resolve, invoke, builtin, hm, hx, hrun, Result.andThen]
  exact hK' _ _ (hK w' r1 r2)
end
end Go.Proofs.YtkkefgoidjjehaaDoor
