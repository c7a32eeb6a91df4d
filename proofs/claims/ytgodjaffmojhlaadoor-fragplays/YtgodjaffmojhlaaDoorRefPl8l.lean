/- What the rest of Add of the reference's pool is told by: a chain of pieces, a pool that has one piece more; and what is left of Add's code from a region on. -/
import Derived.Test.YtgodjaffmojhlaaDoorRefPl6
import Derived.Test.YtgodjaffmojhlaaDoorPoolAdd6
import Derived.Deep.RegionLaw
import Derived.Deep.RegionHeld3
import Derived.Deep.RegionHeldLaw
import Derived.Deep.CutBlock
namespace Go.Proofs.YtgodjaffmojhlaaDoor
open Go.RowKit
set_option linter.unusedVariables false

def lenV : Value → Nat
  | .slice _ n _ => n
  | _ => 0
def moreN : Value → Nat
  | .bool true => 1
  | _ => 0
/-- How far a chain of pieces goes. -/
structure ChainI (l : List Pk) (n : Nat) (dn mr : Bool) : Prop where
  edge : dn = false → EdgeP l n
  full : ∀ i, i < n → ∃ y ∈ l, loP y ≤ i ∧ i < hiP y
  done : dn = true → heldN l = finN l ∧ finN l = n
  none_ : mr = false → ∀ x ∈ l, loP x ≠ n
  more : dn = true → mr = true
theorem ChainI.zero (l : List Pk) : ChainI l 0 false true := ⟨fun _ => .inl rfl, fun i hi => by omega, fun h => (by cases h), fun h => (by cases h), fun h => (by cases h)⟩
theorem ChainI.step {l : List Pk} (hg : GoodP l) {n : Nat} (h : ChainI l n false true) {x : Pk} (hx : x ∈ l) (hn : loP x = n) : ChainI l (hiP x) (!x.more) true := by
  have hf : ∀ i, i < hiP x → ∃ y ∈ l, loP y ≤ i ∧ i < hiP y := fun i hi => by
    by_cases hc : i < n
    · exact h.full i hc
    · exact ⟨x, hx, by omega, hi⟩
  refine ⟨fun e => EdgeP.step hx (by simpa using e), hf, fun e => ?_, fun e => (by cases e), fun _ => rfl⟩
  exact chain_yes hg hx (by simpa using e) (fun i hi => hf i (by unfold hiP; omega))
theorem ChainI.stop {l : List Pk} {n : Nat} (h : ChainI l n false true) (hno : ∀ x ∈ l, loP x ≠ n) : ChainI l n false false := ⟨h.edge, h.full, h.done, fun _ => hno, fun e => (by cases e)⟩
theorem ttlF_snoc (t : Int) (l : List Pk) (x : Pk) : ttlF t (l ++ [x]) = if x.ttl < ttlF t l then x.ttl else ttlF t l := by unfold ttlF; rw [List.foldl_append]; rfl
theorem len_held {l : List Pk} (h : ∀ x ∈ l, OneP x) : l.length ≤ heldN l := by
  induction l with
  | nil => simp [heldN]
  | cons a r ih =>
    have := ih (fun x hx => h x (List.mem_cons_of_mem _ hx))
    have h1 := (h a List.mem_cons_self).2.1
    simp only [heldN, List.map_cons, List.sum_cons, List.length_cons] at this ⊢
    omega
def KeptSt (w0 : World) (F : Nat → Prop) (pb : Nat) (t : Po) (p : Pk) (bv : Value) (w : World) (A : List Rh) (r : Rh) (B : List Rh) (lv v2 : Value) (ww : World) : Prop :=
  RpIn w0 ww (Plus2 F w ww) pb { life := t.life, now := t.now, l := setH t.l { r.h with all := r.h.all ++ [p] } } lv (A ++ moreR r p v2 bv :: B) ∧
    Turn F w ww ∧ PkAt ww w.heap.size p bv ∧ PkAt ww (w.heap.size + 1) zeroK (.slice none 0 0) ∧ GoodP (r.h.all ++ [p])
section
variable {w0 : World} {F : Nat → Prop} {pb : Nat} {t : Po} {p : Pk} {bv : Value} {w : World} {A : List Rh} {r : Rh} {B : List Rh} {lv : Value} {ww : World}
theorem KeptSt.cells {g2 n2 cap2 : Nat} (h : KeptSt w0 F pb t p bv w A r B lv (.slice (some ⟨g2, 0, none⟩) n2 cap2) ww) (hbad : r.h.bad = false) (hn : n2 = (r.h.all ++ [p]).length) :
    g2 < ww.heap.size ∧ n2 ≤ cap2 ∧ cap2 ≤ 9223372036854775807 ∧ ∀ k (hk : k < (r.h.all ++ [p]).length), ∃ bk, PkCells ww g2 (k * 8) (r.h.all ++ [p])[k] bk := by
  have hrm : moreR r p (.slice (some ⟨g2, 0, none⟩) n2 cap2) bv ∈ A ++ moreR r p (.slice (some ⟨g2, 0, none⟩) n2 cap2) bv :: B := List.mem_append_right _ List.mem_cons_self
  obtain ⟨ho, hl⟩ := h.1.all _ hrm hbad
  have hbd := h.1.body _ hrm hbad
  have ho' : OwnK ww 0 (.slice (some ⟨g2, 0, none⟩) n2 cap2) ((r.h.all ++ [p]).zip (r.vs ++ [bv])) := ho
  have hl' : (r.vs ++ [bv]).length = (r.h.all ++ [p]).length := hl
  have hzl : ((r.h.all ++ [p]).zip (r.vs ++ [bv])).length = (r.h.all ++ [p]).length := by rw [List.length_zip]; omega
  have hpos : 0 < (r.h.all ++ [p]).length := by simp
  obtain ⟨g', cap', hv, _, h2, h3, h4⟩ := ho'.shape (by omega)
  simp only [Value.slice.injEq, Option.some.injEq, Addr.mk.injEq] at hv
  obtain ⟨⟨rfl, _⟩, _, rfl⟩ := hv
  refine ⟨h2, by omega, by unfold maxLen at h4; exact h4, fun k hk => ?_⟩
  have hc := ho'.cells k (by omega) ((hbd _ (by exact List.getElem_mem (l := (r.h.all ++ [p]).zip (r.vs ++ [bv])) (by omega))).below (Nat.le_refl _) h.1.bel)
  rw [List.getElem_zip] at hc
  exact ⟨_, hc⟩
theorem KeptSt.heap {g cap M : Nat} {v2 : Value} (h : KeptSt w0 F pb t p bv w A r B (.slice (some ⟨g, 0, none⟩) M cap) v2 ww) : ww.cell? ⟨g, A.length * 11 + 10, none⟩ = some v2 := by
  have hC := h.1.row.cells A.length (by simp)
  have e9 : (A ++ moreR r p v2 bv :: B)[A.length]'(by simp) = moreR r p v2 bv := by simp
  rw [e9] at hC
  exact hC.all.2.2.2.2.2.2.2.2.2.2
end
theorem cell_alloc {W : World} {q : Addr} {u : Value} (h : W.cell? q = some u) (o : Obj) : (W.alloc o).cell? q = some u := (World.cell?_alloc_some W q o (by rw [h]; rfl)).trans h
theorem s27_alloc {W : World} {pb x : Nat} {lv : Value} {p : Pk} {a : Option Addr} {L c : Nat} (h : (W).cell? ⟨pb, 2, none⟩ = some lv ∧ (W).cell? ⟨x, 0, none⟩ = some (.int .i64 p.kind) ∧ (W).cell? ⟨x, 1, none⟩ = some (.int .i64 p.ttl) ∧ (W).cell? ⟨x, 2, none⟩ = some (.int .i64 p.ident) ∧ (W).cell? ⟨x, 3, none⟩ = some (.int .i64 p.src) ∧ (W).cell? ⟨x, 4, none⟩ = some (.int .i64 p.dst) ∧ (W).cell? ⟨x, 5, none⟩ = some (.int .i64 p.pos) ∧ (W).cell? ⟨x, 6, none⟩ = some (.bool p.more) ∧ (W).cell? ⟨x, 7, none⟩ = some (.slice a L c)) (o : Obj) : (W.alloc o).cell? ⟨pb, 2, none⟩ = some lv ∧ (W.alloc o).cell? ⟨x, 0, none⟩ = some (.int .i64 p.kind) ∧ (W.alloc o).cell? ⟨x, 1, none⟩ = some (.int .i64 p.ttl) ∧ (W.alloc o).cell? ⟨x, 2, none⟩ = some (.int .i64 p.ident) ∧ (W.alloc o).cell? ⟨x, 3, none⟩ = some (.int .i64 p.src) ∧ (W.alloc o).cell? ⟨x, 4, none⟩ = some (.int .i64 p.dst) ∧ (W.alloc o).cell? ⟨x, 5, none⟩ = some (.int .i64 p.pos) ∧ (W.alloc o).cell? ⟨x, 6, none⟩ = some (.bool p.more) ∧ (W.alloc o).cell? ⟨x, 7, none⟩ = some (.slice a L c) := by
  obtain ⟨b, c0, c1, c2, c3, c4, c5, c6, c7⟩ := h
  exact ⟨cell_alloc b o, cell_alloc c0 o, cell_alloc c1 o, cell_alloc c2 o, cell_alloc c3 o, cell_alloc c4 o, cell_alloc c5 o, cell_alloc c6 o, cell_alloc c7 o⟩
theorem s27_set {W : World} {pb x g o : Nat} {u lv : Value} {p : Pk} {a : Option Addr} {L c : Nat} (h1 : pb ≠ g) (h2 : x ≠ g) (h : (W).cell? ⟨pb, 2, none⟩ = some lv ∧ (W).cell? ⟨x, 0, none⟩ = some (.int .i64 p.kind) ∧ (W).cell? ⟨x, 1, none⟩ = some (.int .i64 p.ttl) ∧ (W).cell? ⟨x, 2, none⟩ = some (.int .i64 p.ident) ∧ (W).cell? ⟨x, 3, none⟩ = some (.int .i64 p.src) ∧ (W).cell? ⟨x, 4, none⟩ = some (.int .i64 p.dst) ∧ (W).cell? ⟨x, 5, none⟩ = some (.int .i64 p.pos) ∧ (W).cell? ⟨x, 6, none⟩ = some (.bool p.more) ∧ (W).cell? ⟨x, 7, none⟩ = some (.slice a L c)) : (W.setCell ⟨g, o, none⟩ u).cell? ⟨pb, 2, none⟩ = some lv ∧ (W.setCell ⟨g, o, none⟩ u).cell? ⟨x, 0, none⟩ = some (.int .i64 p.kind) ∧ (W.setCell ⟨g, o, none⟩ u).cell? ⟨x, 1, none⟩ = some (.int .i64 p.ttl) ∧ (W.setCell ⟨g, o, none⟩ u).cell? ⟨x, 2, none⟩ = some (.int .i64 p.ident) ∧ (W.setCell ⟨g, o, none⟩ u).cell? ⟨x, 3, none⟩ = some (.int .i64 p.src) ∧ (W.setCell ⟨g, o, none⟩ u).cell? ⟨x, 4, none⟩ = some (.int .i64 p.dst) ∧ (W.setCell ⟨g, o, none⟩ u).cell? ⟨x, 5, none⟩ = some (.int .i64 p.pos) ∧ (W.setCell ⟨g, o, none⟩ u).cell? ⟨x, 6, none⟩ = some (.bool p.more) ∧ (W.setCell ⟨g, o, none⟩ u).cell? ⟨x, 7, none⟩ = some (.slice a L c) := by
  have o : Only g W (W.setCell ⟨g, o, none⟩ u) := (Only.refl _ _).setCell _ _
  obtain ⟨b, c0, c1, c2, c3, c4, c5, c6, c7⟩ := h
  exact ⟨(o.cell (p := ⟨pb, 2, none⟩) h1).trans b, (o.cell (p := ⟨x, 0, none⟩) h2).trans c0, (o.cell (p := ⟨x, 1, none⟩) h2).trans c1, (o.cell (p := ⟨x, 2, none⟩) h2).trans c2, (o.cell (p := ⟨x, 3, none⟩) h2).trans c3, (o.cell (p := ⟨x, 4, none⟩) h2).trans c4, (o.cell (p := ⟨x, 5, none⟩) h2).trans c5, (o.cell (p := ⟨x, 6, none⟩) h2).trans c6, (o.cell (p := ⟨x, 7, none⟩) h2).trans c7⟩
/-- What the packet's box holds behind Add's last stores. -/
theorem PkAt.made {w : World} {b : Nat} {p : Pk} {bv : Value} (h : PkAt w b p bv) (T : Int) (v : Value) :
    ∃ w', (((w.setCell ⟨b, 5, none⟩ (.int .i64 0)).setCell ⟨b, 6, none⟩ (.bool false)).setCell ⟨b, 1, none⟩ (.int .i64 T)).setCell ⟨b, 7, none⟩ v = w' ∧ PkAt w' b { p with ttl := T, pos := 0, more := false } v ∧ Only b w w' := by
  refine ⟨_, rfl, ?_, ((((Only.refl _ _).setCell _ _).setCell _ _).setCell _ _).setCell _ _⟩
  have e0 := heap_setCell_same w b 5 _ _ (.int .i64 0) h
  rw [set8_5] at e0
  have e1 := heap_setCell_same _ b 6 _ _ (.bool false) e0
  rw [set8_6] at e1
  have e2 := heap_setCell_same _ b 1 _ _ (.int .i64 T) e1
  rw [set8_1] at e2
  have e3 := heap_setCell_same _ b 7 _ _ v e2
  rw [set8_7] at e3
  exact e3
/-- What is left of a code from a region on. -/
def tailOf (n : Nat) : Code → Option Code
  | .seq a b => match tailOf n a with
    | some c => some (.seq c b)
    | none => tailOf n b
  | .region m ops d => match Nat.beq m n with
    | true => some (.region m ops d)
    | false => none
  | _ => none
noncomputable def addTail (n : Nat) : Code := (tailOf n (Tryd.f8.body.getD .skip)).getD .skip
end Go.Proofs.YtgodjaffmojhlaaDoor
