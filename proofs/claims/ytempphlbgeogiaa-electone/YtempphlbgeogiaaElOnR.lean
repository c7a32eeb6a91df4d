/- ElectOne: the row of numbers that a round reads; what its switch does. -/
import Derived.Test.YtempphlbgeogiaaElArb
import Derived.Test.YtempphlbgeogiaaElVot
import Derived.Test.YtempphlbgeogiaaElOnM
import Derived.Test.YtempphlbgeogiaaOpenIi
import Derived.Deep.LoopGhost
import Derived.Deep.CutBlock
namespace Go.Proofs.Ytempphlbgeogiaa
open Go.RowKit
set_option linter.unusedVariables false

theorem hidO {p : Prop} (h : p) : Hid p := h
def LtAt (w : World) (b : Nat) (l0 l1 : Int) : Prop := w.heap[b]? = some (.cells #[.int .i64 l0, .int .i64 l1] 33 (0, 0))
theorem lt_cells {w : World} {b : Nat} {x y : Value} {T : TypeId} (h : w.heap[b]? = some (.cells #[x, y] T (0, 0))) : w.cell? ⟨b, 0, none⟩ = some x ∧ w.cell? ⟨b, 1, none⟩ = some y ∧ w.frozen? ⟨b, 0, none⟩ = false ∧ w.frozen? ⟨b, 1, none⟩ = false :=
  ⟨by rw [cell_of_row w b _ _ _ _ h]; rfl, by rw [cell_of_row w b _ _ _ _ h]; rfl, frozen_of_row w b 0 _ _ h, frozen_of_row w b 1 _ _ h⟩
theorem LtAt.lt {w : World} {b : Nat} {x y : Int} (h : LtAt w b x y) : b < w.heap.size := (Array.getElem?_eq_some_iff.1 h).1
theorem LtAt.turn {F : Nat → Prop} {w w' : World} {b : Nat} {x y : Int} (h : LtAt w b x y) (t : Turn F w w') (hF : ¬ F b) : LtAt w' b x y := (t.block _ h.lt hF).trans h
/-- Where the blocks lie. -/
structure OnO (w : World) (A X Y L : Nat) : Prop where
  o1 : w.heap.size ≤ A
  o2 : A < X
  o3 : X < Y
  o4 : Y < L
/-- Where the law stands. -/
structure OnS (w : World) (lease drift off oth : Int) (A X Y L : Nat) (now : Int) (W : World) : Prop where
  ex : ∃ a x y l0 l1, ArAt W A a ∧ VtAt W X x ∧ VtAt W Y y ∧ LtAt W L l0 l1 ∧ OneI lease drift off oth now a x y l0 l1
  bel : Below w.heap.size w W
theorem OnS.turn {w : World} {lease drift off oth : Int} {A X Y L : Nat} {now : Int} {W W' : World} {F : Nat → Prop} (h : OnS w lease drift off oth A X Y L now W) (o : OnO w A X Y L) (t : Turn F W W') (hF : ∀ k, F k → L < k) : OnS w lease drift off oth A X Y L now W' := by
  obtain ⟨⟨a, x, y, l0, l1, k1, k2, k3, k4, k5⟩, hb⟩ := h
  have o1 := o.o1
  have o2 := o.o2
  have o3 := o.o3
  have o4 := o.o4
  exact ⟨⟨a, x, y, l0, l1, k1.turn t (fun h => by have := hF _ h; omega), k2.turn t (fun h => by have := hF _ h; omega), k3.turn t (fun h => by have := hF _ h; omega), k4.turn t (fun h => by have := hF _ h; omega), k5⟩, t.below hb hb.size (fun i hi => by have := hF _ hi; omega)⟩
theorem OnS.lt {w : World} {lease drift off oth : Int} {A X Y L : Nat} {now : Int} {W : World} (h : OnS w lease drift off oth A X Y L now W) : L < W.heap.size := by
  obtain ⟨⟨a, x, y, l0, l1, k1, k2, k3, k4, k5⟩, hb⟩ := h
  exact k4.lt
def VrAt (w : World) (b : Nat) (s0 s1 s2 : Int) : Prop := w.heap[b]? = some (.cells #[.int .i64 s0, .int .i64 s1, .int .i64 s2] 34 (0, 0))
theorem vr_cells {w : World} {b : Nat} {x y z : Value} {T : TypeId} (h : w.heap[b]? = some (.cells #[x, y, z] T (0, 0))) : (w.cell? ⟨b, 0, none⟩ = some x ∧ w.cell? ⟨b, 1, none⟩ = some y ∧ w.cell? ⟨b, 2, none⟩ = some z) ∧ w.frozen? ⟨b, 0, none⟩ = false ∧ w.frozen? ⟨b, 1, none⟩ = false ∧ w.frozen? ⟨b, 2, none⟩ = false :=
  ⟨⟨by rw [cell_of_row w b _ _ _ _ h]; rfl, by rw [cell_of_row w b _ _ _ _ h]; rfl, by rw [cell_of_row w b _ _ _ _ h]; rfl⟩, frozen_of_row w b 0 _ _ h, frozen_of_row w b 1 _ _ h, frozen_of_row w b 2 _ _ h⟩
/-- Where the law stands, its row's numbers in block V. -/
structure OnV (w : World) (lease drift off oth : Int) (A X Y L V : Nat) (now : Int) (W : World) : Prop where
  st : OnS w lease drift off oth A X Y L now W
  vr : ∃ s0 s1 s2, VrAt W V s0 s1 s2
  lv : L < V
theorem OnV.set {w : World} {lease drift off oth : Int} {A X Y L V : Nat} {now : Int} {W : World} (h : OnV w lease drift off oth A X Y L V now W) (o : OnO w A X Y L) (j : Nat) (hj : j < 3) (z : Int) : OnV w lease drift off oth A X Y L V now (W.setCell ⟨V, j, none⟩ (.int .i64 z)) := by
  obtain ⟨h1, ⟨s0, s1, s2, h2⟩, h3⟩ := h
  refine ⟨h1.turn o (Turn.of_only ((Only.refl V W).setCell j (.int .i64 z)) rfl) (fun k hk => by subst hk; exact h3), ?_, h3⟩
  have e := heap_setCell_same W V j _ _ (.int .i64 z) h2
  rcases (by omega : j = 0 ∨ j = 1 ∨ j = 2) with rfl | rfl | rfl
  · exact ⟨z, s1, s2, e⟩
  · exact ⟨s0, z, s2, e⟩
  · exact ⟨s0, s1, z, e⟩
section
variable {w : World} {lease drift off oth : Int} {A X Y L : Nat} {now : Int} {W : World}
theorem OnS.later (h : OnS w lease drift off oth A X Y L now W) {n : Int} (hn : now ≤ n) : OnS w lease drift off oth A X Y L n W := by
  obtain ⟨⟨a, x, y, l0, l1, k1, k2, k3, k4, k5⟩, hb⟩ := h
  exact ⟨⟨a, x, y, l0, l1, k1, k2, k3, k4, k5.later hn⟩, hb⟩
theorem lt_set0 {w : World} {b : Nat} {l0 l1 : Int} (h : LtAt w b l0 l1) (z : Int) : LtAt (w.setCell ⟨b, 0, none⟩ (.int .i64 z)) b z l1 := heap_setCell_same _ b 0 _ _ _ h
theorem lt_set1 {w : World} {b : Nat} {l0 l1 : Int} (h : LtAt w b l0 l1) (z : Int) : LtAt (w.setCell ⟨b, 1, none⟩ (.int .i64 z)) b l0 z := heap_setCell_same _ b 1 _ _ _ h
theorem OnS.ask0 (h : OnS w lease drift off oth A X Y L now W) (o : OnO w A X Y L) (n0 : 0 ≤ now) (n1 : now ≤ 1000000) :
    ∃ a, ArAt W A a ∧ ArOk a ∧ ∀ W', ArAt W' A (askA a 0 now) → Turn (fun i => i = A) W W' → (askE a 0 now = 0 → (∃ l0 l1, LtAt W' L l0 l1) ∧ OnS w lease drift off oth A X Y L now (W'.setCell ⟨L, 0, none⟩ (.int .i64 (askI a 0 now)))) ∧ (¬ askE a 0 now = 0 → OnS w lease drift off oth A X Y L now W') := by
  obtain ⟨⟨a, x, y, l0, l1, k1, k2, k3, k4, k5⟩, hb⟩ := h
  have o1 := o.o1
  have o2 := o.o2
  have o3 := o.o3
  have o4 := o.o4
  refine ⟨a, k1, k5.oa, fun W' hA t => ?_⟩
  have j := k5.ask0 n0 n1
  have m2 := k2.turn t (by omega)
  have m3 := k3.turn t (by omega)
  have m4 := k4.turn t (by omega)
  have mb := t.below hb hb.size (fun i hi => by subst hi; exact o1)
  refine ⟨fun he => ?_, fun he => ?_⟩
  · rw [if_pos he] at j
    refine ⟨⟨l0, l1, m4⟩, ?_⟩
    have t2 : Turn (fun i => i = L) W' (W'.setCell ⟨L, 0, none⟩ (.int .i64 (askI a 0 now))) := Turn.of_only ((Only.refl _ _).setCell _ _) rfl
    exact ⟨⟨_, x, y, _, l1, hA.turn t2 (by omega), m2.turn t2 (by omega), m3.turn t2 (by omega), lt_set0 m4 _, j⟩, t2.below mb mb.size (fun i hi => by subst hi; omega)⟩
  · rw [if_neg he] at j
    exact ⟨⟨_, x, y, l0, l1, hA, m2, m3, m4, j⟩, mb⟩
theorem OnS.ask1 (h : OnS w lease drift off oth A X Y L now W) (o : OnO w A X Y L) (n0 : 0 ≤ now) (n1 : now ≤ 1000000) :
    ∃ a, ArAt W A a ∧ ArOk a ∧ ∀ W', ArAt W' A (askA a 1 now) → Turn (fun i => i = A) W W' → (askE a 1 now = 0 → (∃ l0 l1, LtAt W' L l0 l1) ∧ OnS w lease drift off oth A X Y L now (W'.setCell ⟨L, 1, none⟩ (.int .i64 (askI a 1 now)))) ∧ (¬ askE a 1 now = 0 → OnS w lease drift off oth A X Y L now W') := by
  obtain ⟨⟨a, x, y, l0, l1, k1, k2, k3, k4, k5⟩, hb⟩ := h
  have o1 := o.o1
  have o2 := o.o2
  have o3 := o.o3
  have o4 := o.o4
  refine ⟨a, k1, k5.oa, fun W' hA t => ?_⟩
  have j := k5.ask1 n0 n1
  have m2 := k2.turn t (by omega)
  have m3 := k3.turn t (by omega)
  have m4 := k4.turn t (by omega)
  have mb := t.below hb hb.size (fun i hi => by subst hi; exact o1)
  refine ⟨fun he => ?_, fun he => ?_⟩
  · rw [if_pos he] at j
    refine ⟨⟨l0, l1, m4⟩, ?_⟩
    have t2 : Turn (fun i => i = L) W' (W'.setCell ⟨L, 1, none⟩ (.int .i64 (askI a 1 now))) := Turn.of_only ((Only.refl _ _).setCell _ _) rfl
    exact ⟨⟨_, x, y, l0, _, hA.turn t2 (by omega), m2.turn t2 (by omega), m3.turn t2 (by omega), lt_set1 m4 _, j⟩, t2.below mb mb.size (fun i hi => by subst hi; omega)⟩
  · rw [if_neg he] at j
    exact ⟨⟨_, x, y, l0, l1, hA, m2, m3, m4, j⟩, mb⟩
theorem OnS.gran0 (h : OnS w lease drift off oth A X Y L now W) (o : OnO w A X Y L) (n0 : 0 ≤ now + off) (n1 : now + off ≤ 1000000) :
    ∃ l0 l1 x, LtAt W L l0 l1 ∧ VtAt W X x ∧ granE x l0 (now + off) = 0 ∧ ∀ W', VtAt W' X (granV x l0 (now + off)) → Turn (fun i => i = X) W W' → OnS w lease drift off oth A X Y L now W' := by
  obtain ⟨⟨a, x, y, l0, l1, k1, k2, k3, k4, k5⟩, hb⟩ := h
  have o1 := o.o1
  have o2 := o.o2
  have o3 := o.o3
  have o4 := o.o4
  obtain ⟨he, j⟩ := k5.gran0 n0 n1
  refine ⟨l0, l1, x, k4, k2, he, fun W' hA t => ?_⟩
  exact ⟨⟨a, _, y, l0, l1, k1.turn t (by omega), hA, k3.turn t (by omega), k4.turn t (by omega), j⟩, t.below hb hb.size (fun i hi => by subst hi; omega)⟩
theorem OnS.free0 (h : OnS w lease drift off oth A X Y L now W) (o : OnO w A X Y L) (hd : 0 ≤ drift) (n2 : 0 ≤ now) (n3 : now ≤ 1000000) (n0 : 0 ≤ now + off) (n1 : now + off ≤ 1000000) :
    ∃ x a, VtAt W X x ∧ granE x 0 (now + off) = 0 ∧ VtOk (granV x 0 (now + off)) ∧ tmE (granV x 0 (now + off)).now (now + off) = 0 ∧ rolI (granV x 0 (now + off)) (now + off) = 1 ∧ arE a 0 now = 0 ∧
    ∀ W1, Turn (fun i => i = X) W W1 → ∀ W2, VtAt W2 X { granV x 0 (now + off) with now := now + off } → Turn (fun i => i = X) W1 W2 → ArAt W2 A a ∧ ∀ W3, ArAt W3 A (freeA a 0 now) → Turn (fun i => i = A) W2 W3 → (∃ l0 l1, LtAt W3 L l0 l1) ∧ OnS w lease drift off oth A X Y L now (W3.setCell ⟨L, 0, none⟩ (.int .i64 0)) := by
  obtain ⟨⟨a, x, y, l0, l1, k1, k2, k3, k4, k5⟩, hb⟩ := h
  have o1 := o.o1
  have o2 := o.o2
  have o3 := o.o3
  have o4 := o.o4
  obtain ⟨he, hz, hm, ha, j⟩ := k5.free0 hd n2 n3 n0 n1
  refine ⟨x, a, k2, he, k5.ox.gran _ _, hz, by unfold rolI; rw [if_neg (by rw [hm]; simp)], ha, fun W1 t1 W2 hR t2 => ?_⟩
  refine ⟨(k1.turn t1 (by omega)).turn t2 (by omega), fun W3 hF t3 => ?_⟩
  have q1 := ((k4.turn t1 (by omega)).turn t2 (by omega)).turn t3 (by omega)
  have q2 := ((k3.turn t1 (by omega)).turn t2 (by omega)).turn t3 (by omega)
  have qb := t3.below (t2.below (t1.below hb hb.size (fun i hi => by subst hi; omega)) (Nat.le_trans hb.size t1.size) (fun i hi => by subst hi; omega)) (Nat.le_trans (Nat.le_trans hb.size t1.size) t2.size) (fun i hi => by subst hi; omega)
  refine ⟨⟨l0, l1, q1⟩, ?_⟩
  have t4 : Turn (fun i => i = L) W3 (W3.setCell ⟨L, 0, none⟩ (.int .i64 0)) := Turn.of_only ((Only.refl _ _).setCell _ _) rfl
  have em : movV (granV x 0 (now + off)) (now + off) = { granV x 0 (now + off) with now := now + off } := by unfold movV; rw [if_pos hz]
  rw [em] at j
  exact ⟨⟨_, _, y, 0, l1, hF.turn t4 (by omega), ((hR.turn t3 (by omega)).turn t4 (by omega)), q2.turn t4 (by omega), lt_set0 q1 0, j⟩, t4.below qb qb.size (fun i hi => by subst hi; omega)⟩
theorem OnS.gran1 (h : OnS w lease drift off oth A X Y L now W) (o : OnO w A X Y L) (n0 : 0 ≤ now + oth) (n1 : now + oth ≤ 1000000) :
    ∃ l0 l1 y, LtAt W L l0 l1 ∧ VtAt W Y y ∧ granE y l1 (now + oth) = 0 ∧ ∀ W', VtAt W' Y (granV y l1 (now + oth)) → Turn (fun i => i = Y) W W' → OnS w lease drift off oth A X Y L now W' := by
  obtain ⟨⟨a, x, y, l0, l1, k1, k2, k3, k4, k5⟩, hb⟩ := h
  have o1 := o.o1
  have o2 := o.o2
  have o3 := o.o3
  have o4 := o.o4
  obtain ⟨he, j⟩ := k5.gran1 n0 n1
  refine ⟨l0, l1, y, k4, k3, he, fun W' hA t => ?_⟩
  exact ⟨⟨a, x, _, l0, l1, k1.turn t (by omega), k2.turn t (by omega), hA, k4.turn t (by omega), j⟩, t.below hb hb.size (fun i hi => by subst hi; omega)⟩
theorem OnS.free1 (h : OnS w lease drift off oth A X Y L now W) (o : OnO w A X Y L) (hd : 0 ≤ drift) (n2 : 0 ≤ now) (n3 : now ≤ 1000000) (n0 : 0 ≤ now + oth) (n1 : now + oth ≤ 1000000) :
    ∃ y a, VtAt W Y y ∧ granE y 0 (now + oth) = 0 ∧ VtOk (granV y 0 (now + oth)) ∧ tmE (granV y 0 (now + oth)).now (now + oth) = 0 ∧ rolI (granV y 0 (now + oth)) (now + oth) = 1 ∧ arE a 1 now = 0 ∧
    ∀ W1, Turn (fun i => i = Y) W W1 → ∀ W2, VtAt W2 Y { granV y 0 (now + oth) with now := now + oth } → Turn (fun i => i = Y) W1 W2 → ArAt W2 A a ∧ ∀ W3, ArAt W3 A (freeA a 1 now) → Turn (fun i => i = A) W2 W3 → (∃ l0 l1, LtAt W3 L l0 l1) ∧ OnS w lease drift off oth A X Y L now (W3.setCell ⟨L, 1, none⟩ (.int .i64 0)) := by
  obtain ⟨⟨a, x, y, l0, l1, k1, k2, k3, k4, k5⟩, hb⟩ := h
  have o1 := o.o1
  have o2 := o.o2
  have o3 := o.o3
  have o4 := o.o4
  obtain ⟨he, hz, hm, ha, j⟩ := k5.free1 hd n2 n3 n0 n1
  refine ⟨y, a, k3, he, k5.oy.gran _ _, hz, by unfold rolI; rw [if_neg (by rw [hm]; simp)], ha, fun W1 t1 W2 hR t2 => ?_⟩
  refine ⟨(k1.turn t1 (by omega)).turn t2 (by omega), fun W3 hF t3 => ?_⟩
  have q1 := ((k4.turn t1 (by omega)).turn t2 (by omega)).turn t3 (by omega)
  have q2 := ((k2.turn t1 (by omega)).turn t2 (by omega)).turn t3 (by omega)
  have qb := t3.below (t2.below (t1.below hb hb.size (fun i hi => by subst hi; omega)) (Nat.le_trans hb.size t1.size) (fun i hi => by subst hi; omega)) (Nat.le_trans (Nat.le_trans hb.size t1.size) t2.size) (fun i hi => by subst hi; omega)
  refine ⟨⟨l0, l1, q1⟩, ?_⟩
  have t4 : Turn (fun i => i = L) W3 (W3.setCell ⟨L, 1, none⟩ (.int .i64 0)) := Turn.of_only ((Only.refl _ _).setCell _ _) rfl
  have em : movV (granV y 0 (now + oth)) (now + oth) = { granV y 0 (now + oth) with now := now + oth } := by unfold movV; rw [if_pos hz]
  rw [em] at j
  exact ⟨⟨_, x, _, l0, 0, hF.turn t4 (by omega), q2.turn t4 (by omega), ((hR.turn t3 (by omega)).turn t4 (by omega)), lt_set1 q1 0, j⟩, t4.below qb qb.size (fun i hi => by subst hi; omega)⟩
theorem OnS.roles (h : OnS w lease drift off oth A X Y L now W) (o : OnO w A X Y L) (f : OffI drift off oth) (n0 : 0 ≤ now + off) (n1 : now + off ≤ 1000000) (n2 : 0 ≤ now + oth) (n3 : now + oth ≤ 1000000) :
    ∃ x y, VtAt W X x ∧ VtOk x ∧ VtOk y ∧ tmE x.now (now + off) = 0 ∧ tmE y.now (now + oth) = 0 ∧ (rolI x (now + off) = 1 ∨ rolI y (now + oth) = 1) ∧
    ∀ W1, VtAt W1 X { x with now := now + off } → Turn (fun i => i = X) W W1 → VtAt W1 Y y ∧ ∀ W2, VtAt W2 Y { y with now := now + oth } → Turn (fun i => i = Y) W1 W2 → OnS w lease drift off oth A X Y L now W2 := by
  obtain ⟨⟨a, x, y, l0, l1, k1, k2, k3, k4, k5⟩, hb⟩ := h
  have o1 := o.o1
  have o2 := o.o2
  have o3 := o.o3
  have o4 := o.o4
  obtain ⟨hx, hy, j⟩ := k5.role n0 n1 n2 n3
  refine ⟨x, y, k2, k5.ox, k5.oy, hx, hy, ?_, fun W1 hA t1 => ?_⟩
  · rcases k5.never f with e | e
    · exact .inl (by unfold rolI; rw [e]; rfl)
    · exact .inr (by unfold rolI; rw [e]; rfl)
  · refine ⟨k3.turn t1 (by omega), fun W2 hB t2 => ?_⟩
    exact ⟨⟨a, _, _, l0, l1, (k1.turn t1 (by omega)).turn t2 (by omega), hA.turn t2 (by omega), hB, (k4.turn t1 (by omega)).turn t2 (by omega), j⟩, t2.below (t1.below hb hb.size (fun i hi => by subst hi; omega)) (Nat.le_trans hb.size t1.size) (fun i hi => by subst hi; omega)⟩
end
/-- The block of a number. -/
def blkAt (n : Nat) : Code → Option Code
  | .seq a b => match blkAt n a with
    | some c => some c
    | none => blkAt n b
  | .loop a => blkAt n a
  | .block m a => match Nat.beq m n with
    | true => some (.block m a)
    | false => blkAt n a
  | .cond _ a b => match blkAt n a with
    | some c => some c
    | none => blkAt n b
  | _ => none
noncomputable def oneBlk (n : Nat) : Code := (blkAt n (Try.f3.body.getD .skip)).getD .skip
set_option maxRecDepth 100000 in
set_option maxHeartbeats 32000000 in
theorem one_row (w W0 : World) (lease drift off oth now : Int) (A X Y L V g of N cv i : Nat) (an : Option Addr) (cn : Nat) (zs : List Int) (K : Act → World → Prop) (E : Exit → Act → World → Prop) (C : Code) (hC : C = oneBlk 2)
    (HOO : Hid (OnO w A X Y L)) (HSV : Hid (OnV w lease drift off oth A X Y L V now W0)) (HN : Hid (Numz w (.slice an zs.length cn) zs)) (HC0 : Hid (∀ X', Below w.heap.size w X' → X'.cell? ⟨g, of + i, none⟩ = some (.slice an zs.length cn))) (hi1 : (i : Int) < (N : Int)) (hgc : N ≤ cv) (hgm : cv ≤ maxLen)
    (v0 v1 v2 v3 v5 v6 v7 v8 v9 v10 v11 v12 v13 v14 v15 v16 v17 v18 v19 v20 v21 v22 v23 v24 v25 v26 v30 v31 v32 v33 v34 v35 v36 v37 v38 v39 v40 v41 v42 v43 v44 v45 v46 v47 v48 v49 v50 v51 v52 v53 v54 v55 v56 v57 v58 v59 v60 v61 v62 v63 v64 v65 v66 v67 v68 v69 v70 v71 v72 v73 v74 v75 v76 v77 v78 v79 v80 v81 v82 v83 v84 v85 v86 v87 v88 v89 v90 v91 v92 v93 v94 v95 v96 v97 v98 v99 v100 v101 v102 v103 v104 v105 v106 v107 v108 v109 v110 v111 v112 v113 v114 v115 v116 v117 v118 v119 v120 v121 v122 v123 v124 v125 v126 v127 v128 v129 v130 v131 v132 v133 v134 v135 v136 v137 v138 v139 v140 v141 v142 v143 v144 v145 v146 v147 v148 v149 v150 v151 v152 v153 v154 v155 v156 v157 v158 v159 v160 v161 v162 v163 v164 v165 v166 v167 v168 v169 v170 v171 v172 v173 v174 v175 v176 v177 v178 v179 v180 v181 v182 v183 v184 v185 v186 v187 v188 v189 v190 v191 v192 v193 v194 v195 v196 v197 v198 v199 v200 v201 v202 v203 v204 v205 v206 v207 v208 v209 v210 v211 v212 v213 v214 v215 v216 v217 v218 v219 v220 v221 v222 v223 v224 v225 v226 v227 v228 v229 v230 v231 v232 v233 v234 v235 v236 v237 v238 v239 v240 v241 v242 v243 v244 v245 v246 v247 v248 v249 v250 v251 v252 v253 v254 v255 v256 v257 v258 v259 v260 v261 v262 v263 v264 v265 v266 v267 v268 v269 v270 v271 v272 v273 v274 v275 v276 v277 v278 v279 v280 v281 v282 v283 v284 v285 v286 v287 v288 v289 v290 : Value)
    (hK : ∀ (W9 : World) (u29 u136 u137 u138 u139 u140 u141 u142 u143 u144 u145 u146 u147 u148 u149 u150 u151 u152 u153 u154 u155 u156 u157 : Value), OnV w lease drift off oth A X Y L V now W9 → K { tmps := #[v0, v1, v2, v3, .slice (some ⟨g, of, none⟩) N cv, v5, v6, v7, v8, v9, v10, v11, v12, v13, v14, v15, v16, v17, v18, v19, v20, v21, v22, v23, v24, v25, v26, .int .i64 (i : Int), .pointer (some ⟨V, 0, none⟩), u29, v30, v31, v32, v33, v34, v35, v36, v37, v38, v39, v40, v41, v42, v43, v44, v45, v46, v47, v48, v49, v50, v51, v52, v53, v54, v55, v56, v57, v58, v59, v60, v61, v62, v63, v64, v65, v66, v67, v68, v69, v70, v71, v72, v73, v74, v75, v76, v77, v78, v79, v80, v81, v82, v83, v84, v85, v86, v87, v88, v89, v90, v91, v92, v93, v94, v95, v96, v97, v98, v99, v100, v101, v102, v103, v104, v105, v106, v107, v108, v109, v110, v111, v112, v113, v114, v115, v116, v117, v118, v119, v120, v121, v122, v123, v124, v125, v126, v127, v128, v129, v130, v131, v132, v133, v134, v135, u136, u137, u138, u139, u140, u141, u142, u143, u144, u145, u146, u147, u148, u149, u150, u151, u152, u153, u154, u155, u156, u157, v158, v159, v160, v161, v162, v163, v164, v165, v166, v167, v168, v169, v170, v171, v172, v173, v174, v175, v176, v177, v178, v179, v180, v181, v182, v183, v184, v185, v186, v187, v188, v189, v190, v191, v192, v193, v194, v195, v196, v197, v198, v199, v200, v201, v202, v203, v204, v205, v206, v207, v208, v209, v210, v211, v212, v213, v214, v215, v216, v217, v218, v219, v220, v221, v222, v223, v224, v225, v226, v227, v228, v229, v230, v231, v232, v233, v234, v235, v236, v237, v238, v239, v240, v241, v242, v243, v244, v245, v246, v247, v248, v249, v250, v251, v252, v253, v254, v255, v256, v257, v258, v259, v260, v261, v262, v263, v264, v265, v266, v267, v268, v269, v270, v271, v272, v273, v274, v275, v276, v277, v278, v279, v280, v281, v282, v283, v284, v285, v286, v287, v288, v289, v290], defers := [] } W9) :
    Code.wp Try.prog C (Exit.then K E) { tmps := #[v0, v1, v2, v3, .slice (some ⟨g, of, none⟩) N cv, v5, v6, v7, v8, v9, v10, v11, v12, v13, v14, v15, v16, v17, v18, v19, v20, v21, v22, v23, v24, v25, v26, .int .i64 (i : Int), .pointer (some ⟨V, 0, none⟩), .int .i64 0, v30, v31, v32, v33, v34, v35, v36, v37, v38, v39, v40, v41, v42, v43, v44, v45, v46, v47, v48, v49, v50, v51, v52, v53, v54, v55, v56, v57, v58, v59, v60, v61, v62, v63, v64, v65, v66, v67, v68, v69, v70, v71, v72, v73, v74, v75, v76, v77, v78, v79, v80, v81, v82, v83, v84, v85, v86, v87, v88, v89, v90, v91, v92, v93, v94, v95, v96, v97, v98, v99, v100, v101, v102, v103, v104, v105, v106, v107, v108, v109, v110, v111, v112, v113, v114, v115, v116, v117, v118, v119, v120, v121, v122, v123, v124, v125, v126, v127, v128, v129, v130, v131, v132, v133, v134, v135, v136, v137, v138, v139, v140, v141, v142, v143, v144, v145, v146, v147, v148, v149, v150, v151, v152, v153, v154, v155, v156, v157, v158, v159, v160, v161, v162, v163, v164, v165, v166, v167, v168, v169, v170, v171, v172, v173, v174, v175, v176, v177, v178, v179, v180, v181, v182, v183, v184, v185, v186, v187, v188, v189, v190, v191, v192, v193, v194, v195, v196, v197, v198, v199, v200, v201, v202, v203, v204, v205, v206, v207, v208, v209, v210, v211, v212, v213, v214, v215, v216, v217, v218, v219, v220, v221, v222, v223, v224, v225, v226, v227, v228, v229, v230, v231, v232, v233, v234, v235, v236, v237, v238, v239, v240, v241, v242, v243, v244, v245, v246, v247, v248, v249, v250, v251, v252, v253, v254, v255, v256, v257, v258, v259, v260, v261, v262, v263, v264, v265, v266, v267, v268, v269, v270, v271, v272, v273, v274, v275, v276, v277, v278, v279, v280, v281, v282, v283, v284, v285, v286, v287, v288, v289, v290], defers := [] } W0 := by
  subst hC
  conv =>
    arg 2
    unfold oneBlk
    unfold Try.f3
    simp only [Option.getD_some, blkAt]
  conv =>
    arg 4
    zeta
  simp only at hK
  have HK := hidO hK
  clear hK
  go_wp2_with fail
  go_loopw [29] (fun v29 wr => ∃ j : Nat, v29 = .int .i64 (j : Int) ∧ j ≤ 3 ∧ Hid (OnV w lease drift off oth A X Y L V now wr)) (fun v29 _ => (100 - intOf v29).toNat)
  case atStart => exact ⟨0, rfl, by omega, HSV⟩
  case round =>
    clear HSV
    obtain ⟨j, rfl, hj3, HJ⟩ := hrel
    have c0 := HC0.out _ HJ.out.st.bel
    by_cases hj : j < zs.length ∧ j < 3
    · obtain ⟨g2, of2, rfl, hg2, hc2, hm2, hcells⟩ := HN.out.at (by omega)
      have e0 := (HJ.out.st.bel.cell (p := ⟨g2, of2 + j, none⟩) hg2).trans (hcells j hj.1)
      generalize (zs[j]'hj.1) = z at e0
      obtain ⟨s0, s1, s2, hvr⟩ := HJ.out.vr
      obtain ⟨_, f0, f1, f2⟩ := vr_cells hvr
      have hj1 : (j : Int) < (zs.length : Int) := by omega
      have hj2 : (j : Int) < 3 := by omega
      have HX := hidO (HJ.out.set HOO.out j hj.2 z)
      clear hcells hvr
      rcases (by omega : j = 0 ∨ j = 1 ∨ j = 2) with rfl | rfl | rfl
      · clear hj hj3
        try simp only [Nat.add_zero] at e0
        go_wp2_with fail
        go_roundw
        case rel => exact ⟨1, rfl, by omega, HX⟩
        case measure => simp only [intOf]; omega
      · clear hj hj3
        try simp only [Nat.add_zero] at e0
        go_wp2_with fail
        go_roundw
        case rel => exact ⟨2, rfl, by omega, HX⟩
        case measure => simp only [intOf]; omega
      · clear hj hj3
        try simp only [Nat.add_zero] at e0
        go_wp2_with fail
        go_roundw
        case rel => exact ⟨3, rfl, by omega, HX⟩
        case measure => simp only [intOf]; omega
    · rcases (by omega : (¬ (j : Int) < (zs.length : Int)) ∨ ((j : Int) < (zs.length : Int) ∧ ¬ (j : Int) < 3)) with hd | ⟨hd, hd2⟩
      all_goals
        clear hj
        go_wp2_with fail
        exact HK.out _ _ _ _ _ _ _ _ _ _ _ _ _ _ _ _ _ _ _ _ _ _ _ _ HJ.out
set_option maxRecDepth 100000 in
set_option maxHeartbeats 32000000 in
theorem one_sw (w wc : World) (lease drift off oth n2 k s0 : Int) (A X Y L : Nat) (K : Act → World → Prop) (E : Exit → Act → World → Prop) (C : Code) (hC : C = oneBlk 4)
    (HOO : Hid (OnO w A X Y L)) (HS2 : Hid (OnS w lease drift off oth A X Y L n2 wc)) (d1 : 0 ≤ drift) (hk : k = 0 ∨ k = 1) (b1 : 2000 ≤ n2) (b2 : n2 ≤ 500000) (b3 : -1000 ≤ off) (b4 : off ≤ 1000) (b5 : -1000 ≤ oth) (b6 : oth ≤ 1000)
    (v0 v1 v4 v5 v6 v7 v8 v9 v10 v11 v12 v13 v14 v15 v16 v17 v18 v20 v22 v24 v27 v28 v29 v31 v32 v33 v34 v35 v36 v37 v38 v39 v40 v41 v42 v43 v44 v45 v46 v47 v48 v49 v50 v51 v52 v53 v54 v55 v56 v57 v58 v59 v60 v61 v62 v63 v64 v65 v66 v67 v68 v69 v70 v71 v72 v73 v74 v75 v76 v77 v78 v79 v80 v81 v82 v83 v84 v85 v86 v87 v88 v89 v90 v91 v92 v93 v94 v95 v96 v97 v98 v99 v100 v101 v102 v103 v104 v105 v106 v107 v108 v109 v110 v111 v112 v113 v114 v115 v116 v117 v118 v119 v120 v121 v122 v123 v124 v125 v126 v127 v128 v129 v130 v131 v132 v133 v134 v135 v136 v137 v138 v139 v140 v141 v142 v143 v144 v145 v146 v147 v148 v149 v150 v151 v152 v153 v154 v155 v156 v157 v158 v159 v160 v161 v162 v163 v164 v165 v166 v167 v168 v169 v170 v171 v172 v173 v174 v176 v177 v178 v179 v180 v181 v182 v183 v184 v185 v186 v187 v188 v189 v190 v191 v192 v193 v194 v195 v196 v197 v198 v199 v200 v201 v202 v203 v204 v205 v206 v207 v208 v209 v210 v211 v212 v213 v214 v215 v216 v217 v218 v219 v220 v221 v222 v223 v224 v225 v226 v227 v228 v229 v230 v231 v232 v233 v234 v235 v236 v237 v238 v239 v240 v241 v242 v243 v244 v245 v246 v247 v248 v249 v250 v251 v252 v253 v254 v255 v256 v257 v258 v259 v260 v261 v262 v263 v264 v265 v266 v267 v268 v269 v270 v271 v272 v273 v274 v275 v276 v277 v278 v279 v280 v281 v282 v283 v284 v285 v286 v287 v288 v289 v290 : Value)
    (hK : ∀ (W9 : World) (u31 u32 u33 u34 u35 u176 u177 u178 u179 u180 u181 u182 u183 u184 u185 u186 u187 u188 u189 u190 u191 u192 u193 u194 u195 u196 u197 u198 u199 u200 u201 u202 u203 u204 u205 u206 u207 u208 u209 u210 u211 u212 u213 u214 u215 u216 u217 u218 u219 u220 u221 u222 u223 u224 u225 u226 u227 u228 u229 u230 u231 u232 u233 u234 u235 u236 u237 u238 u239 u240 u241 u242 u243 u244 u245 u246 u247 u248 u249 u250 u251 u252 u253 u254 u255 u256 u257 u258 u259 u260 : Value), OnS w lease drift off oth A X Y L n2 W9 → K { tmps := #[v0, v1, .int .i64 off, .int .i64 oth, v4, v5, v6, v7, v8, v9, v10, v11, v12, v13, v14, v15, v16, v17, v18, .pointer (some ⟨A, 0, none⟩), v20, .pointer (some ⟨X, 0, none⟩), v22, .pointer (some ⟨Y, 0, none⟩), v24, .int .i64 n2, .pointer (some ⟨L, 0, none⟩), v27, v28, v29, .int .i64 k, u31, u32, u33, u34, u35, v36, v37, v38, v39, v40, v41, v42, v43, v44, v45, v46, v47, v48, v49, v50, v51, v52, v53, v54, v55, v56, v57, v58, v59, v60, v61, v62, v63, v64, v65, v66, v67, v68, v69, v70, v71, v72, v73, v74, v75, v76, v77, v78, v79, v80, v81, v82, v83, v84, v85, v86, v87, v88, v89, v90, v91, v92, v93, v94, v95, v96, v97, v98, v99, v100, v101, v102, v103, v104, v105, v106, v107, v108, v109, v110, v111, v112, v113, v114, v115, v116, v117, v118, v119, v120, v121, v122, v123, v124, v125, v126, v127, v128, v129, v130, v131, v132, v133, v134, v135, v136, v137, v138, v139, v140, v141, v142, v143, v144, v145, v146, v147, v148, v149, v150, v151, v152, v153, v154, v155, v156, v157, v158, v159, v160, v161, v162, v163, v164, v165, v166, v167, v168, v169, v170, v171, v172, v173, v174, .int .i64 s0, u176, u177, u178, u179, u180, u181, u182, u183, u184, u185, u186, u187, u188, u189, u190, u191, u192, u193, u194, u195, u196, u197, u198, u199, u200, u201, u202, u203, u204, u205, u206, u207, u208, u209, u210, u211, u212, u213, u214, u215, u216, u217, u218, u219, u220, u221, u222, u223, u224, u225, u226, u227, u228, u229, u230, u231, u232, u233, u234, u235, u236, u237, u238, u239, u240, u241, u242, u243, u244, u245, u246, u247, u248, u249, u250, u251, u252, u253, u254, u255, u256, u257, u258, u259, u260, v261, v262, v263, v264, v265, v266, v267, v268, v269, v270, v271, v272, v273, v274, v275, v276, v277, v278, v279, v280, v281, v282, v283, v284, v285, v286, v287, v288, v289, v290], defers := [] } W9) :
    Code.wp Try.prog C (Exit.then K E) { tmps := #[v0, v1, .int .i64 off, .int .i64 oth, v4, v5, v6, v7, v8, v9, v10, v11, v12, v13, v14, v15, v16, v17, v18, .pointer (some ⟨A, 0, none⟩), v20, .pointer (some ⟨X, 0, none⟩), v22, .pointer (some ⟨Y, 0, none⟩), v24, .int .i64 n2, .pointer (some ⟨L, 0, none⟩), v27, v28, v29, .int .i64 k, v31, v32, v33, v34, v35, v36, v37, v38, v39, v40, v41, v42, v43, v44, v45, v46, v47, v48, v49, v50, v51, v52, v53, v54, v55, v56, v57, v58, v59, v60, v61, v62, v63, v64, v65, v66, v67, v68, v69, v70, v71, v72, v73, v74, v75, v76, v77, v78, v79, v80, v81, v82, v83, v84, v85, v86, v87, v88, v89, v90, v91, v92, v93, v94, v95, v96, v97, v98, v99, v100, v101, v102, v103, v104, v105, v106, v107, v108, v109, v110, v111, v112, v113, v114, v115, v116, v117, v118, v119, v120, v121, v122, v123, v124, v125, v126, v127, v128, v129, v130, v131, v132, v133, v134, v135, v136, v137, v138, v139, v140, v141, v142, v143, v144, v145, v146, v147, v148, v149, v150, v151, v152, v153, v154, v155, v156, v157, v158, v159, v160, v161, v162, v163, v164, v165, v166, v167, v168, v169, v170, v171, v172, v173, v174, .int .i64 s0, v176, v177, v178, v179, v180, v181, v182, v183, v184, v185, v186, v187, v188, v189, v190, v191, v192, v193, v194, v195, v196, v197, v198, v199, v200, v201, v202, v203, v204, v205, v206, v207, v208, v209, v210, v211, v212, v213, v214, v215, v216, v217, v218, v219, v220, v221, v222, v223, v224, v225, v226, v227, v228, v229, v230, v231, v232, v233, v234, v235, v236, v237, v238, v239, v240, v241, v242, v243, v244, v245, v246, v247, v248, v249, v250, v251, v252, v253, v254, v255, v256, v257, v258, v259, v260, v261, v262, v263, v264, v265, v266, v267, v268, v269, v270, v271, v272, v273, v274, v275, v276, v277, v278, v279, v280, v281, v282, v283, v284, v285, v286, v287, v288, v289, v290], defers := [] } wc := by
  subst hC
  conv =>
    arg 2
    unfold oneBlk
    unfold Try.f3
    simp only [Option.getD_some, blkAt]
  conv =>
    arg 4
    zeta
  simp only at hK
  have HK := hidO hK
  clear hK
  have hs : s0 = 0 ∨ s0 = 1 ∨ s0 = 2 ∨ s0 = 3 ∨ s0 = 4 ∨ ((s0 == 0) = false ∧ (s0 == 1) = false ∧ (s0 == 2) = false ∧ (s0 == 3) = false ∧ (s0 == 4) = false) := by
    simp only [beq_eq_false_iff_ne, ne_eq]
    omega
  rcases hk with rfl | rfl
  · rcases hs with rfl | rfl | rfl | rfl | rfl | ⟨e0, e1, e2, e3, e4⟩
    · obtain ⟨a, ka, oa, HN⟩ := HS2.out.ask0 HOO.out (by omega) (by omega)
      have q := ask_any A a 0 n2 wc ka oa
      have HNN := hidO HN
      clear HN HS2 ka oa
      by_cases he : askE a 0 n2 = 0
      · rw [he, show elV 0 = .nilIface from rfl] at q
        have HE := hidO he
        clear he
        go_upto_region 33 with (go_at_call 5; go_must ((with_reducible refine q.mono ?_); rintro e W11 ⟨rfl, k11, t11⟩))
        obtain ⟨⟨l0, l1, hlt⟩, H12⟩ := (HNN.out W11 k11 t11).1 HE.out
        obtain ⟨y0, y1, y2, y3⟩ := lt_cells hlt
        have HF := hidO H12
        clear H12 hlt k11 t11 q
        go_wp2_with fail
        exact HK.out _ _ _ _ _ _ _ _ _ _ _ _ _ _ _ _ _ _ _ _ _ _ _ _ _ _ _ _ _ _ _ _ _ _ _ _ _ _ _ _ _ _ _ _ _ _ _ _ _ _ _ _ _ _ _ _ _ _ _ _ _ _ _ _ _ _ _ _ _ _ _ _ _ _ _ _ _ _ _ _ _ _ _ _ _ _ _ _ _ _ _ HF.out
      · rw [show elV (askE a 0 n2) = .iface 39 (.int .i64 (askE a 0 n2)) from if_neg he] at q
        have HE := hidO he
        clear he
        go_upto_region 33 with (go_at_call 5; go_must ((with_reducible refine q.mono ?_); rintro e W11 ⟨rfl, k11, t11⟩))
        have HF := hidO ((HNN.out W11 k11 t11).2 HE.out)
        clear k11 t11 q
        go_wp2_with fail
        exact HK.out _ _ _ _ _ _ _ _ _ _ _ _ _ _ _ _ _ _ _ _ _ _ _ _ _ _ _ _ _ _ _ _ _ _ _ _ _ _ _ _ _ _ _ _ _ _ _ _ _ _ _ _ _ _ _ _ _ _ _ _ _ _ _ _ _ _ _ _ _ _ _ _ _ _ _ _ _ _ _ _ _ _ _ _ _ _ _ _ _ _ _ HF.out
    · obtain ⟨a, ka, oa, HN⟩ := HS2.out.ask0 HOO.out (by omega) (by omega)
      have q := ask_any A a 0 n2 wc ka oa
      have HNN := hidO HN
      clear HN HS2 ka oa
      by_cases he : askE a 0 n2 = 0
      · rw [he, show elV 0 = .nilIface from rfl] at q
        have HE := hidO he
        clear he
        go_upto_region 33 with (go_at_call 5; go_must ((with_reducible refine q.mono ?_); rintro e W11 ⟨rfl, k11, t11⟩))
        obtain ⟨⟨l0, l1, hlt⟩, H12⟩ := (HNN.out W11 k11 t11).1 HE.out
        obtain ⟨y0, y1, y2, y3⟩ := lt_cells hlt
        have HF := hidO H12
        clear H12 hlt k11 t11 q
        go_wp2_with fail
        exact HK.out _ _ _ _ _ _ _ _ _ _ _ _ _ _ _ _ _ _ _ _ _ _ _ _ _ _ _ _ _ _ _ _ _ _ _ _ _ _ _ _ _ _ _ _ _ _ _ _ _ _ _ _ _ _ _ _ _ _ _ _ _ _ _ _ _ _ _ _ _ _ _ _ _ _ _ _ _ _ _ _ _ _ _ _ _ _ _ _ _ _ _ HF.out
      · rw [show elV (askE a 0 n2) = .iface 39 (.int .i64 (askE a 0 n2)) from if_neg he] at q
        have HE := hidO he
        clear he
        go_upto_region 33 with (go_at_call 5; go_must ((with_reducible refine q.mono ?_); rintro e W11 ⟨rfl, k11, t11⟩))
        have HF := hidO ((HNN.out W11 k11 t11).2 HE.out)
        clear k11 t11 q
        go_wp2_with fail
        exact HK.out _ _ _ _ _ _ _ _ _ _ _ _ _ _ _ _ _ _ _ _ _ _ _ _ _ _ _ _ _ _ _ _ _ _ _ _ _ _ _ _ _ _ _ _ _ _ _ _ _ _ _ _ _ _ _ _ _ _ _ _ _ _ _ _ _ _ _ _ _ _ _ _ _ _ _ _ _ _ _ _ _ _ _ _ _ _ _ _ _ _ _ HF.out
    · obtain ⟨l0, l1, x, hlt, kv, he, HN⟩ := HS2.out.gran0 HOO.out (by omega) (by omega)
      have q := grant_any X x l0 (n2 + off) wc kv
      rw [he, show elV 0 = .nilIface from rfl] at q
      obtain ⟨y0, y1, _, _⟩ := lt_cells hlt
      have HNN := hidO HN
      have HS3 := HS2
      clear HN HS2 hlt kv he
      by_cases hpos : 0 < l0
      · go_wp2_with (go_at_call 7; go_must ((with_reducible refine q.mono ?_); rintro e W11 ⟨rfl, k11, t11⟩; have HF := hidO (HNN.out W11 k11 t11); clear k11 t11))
        exact HK.out _ _ _ _ _ _ _ _ _ _ _ _ _ _ _ _ _ _ _ _ _ _ _ _ _ _ _ _ _ _ _ _ _ _ _ _ _ _ _ _ _ _ _ _ _ _ _ _ _ _ _ _ _ _ _ _ _ _ _ _ _ _ _ _ _ _ _ _ _ _ _ _ _ _ _ _ _ _ _ _ _ _ _ _ _ _ _ _ _ _ _ HF.out
      · go_wp2_with fail
        exact HK.out _ _ _ _ _ _ _ _ _ _ _ _ _ _ _ _ _ _ _ _ _ _ _ _ _ _ _ _ _ _ _ _ _ _ _ _ _ _ _ _ _ _ _ _ _ _ _ _ _ _ _ _ _ _ _ _ _ _ _ _ _ _ _ _ _ _ _ _ _ _ _ _ _ _ _ _ _ _ _ _ _ _ _ _ _ _ _ _ _ _ _ HS3.out
    · obtain ⟨l0, l1, x, hlt, kv, he, HN⟩ := HS2.out.gran0 HOO.out (by omega) (by omega)
      have q := grant_any X x l0 (n2 + off) wc kv
      rw [he, show elV 0 = .nilIface from rfl] at q
      obtain ⟨y0, y1, _, _⟩ := lt_cells hlt
      have HNN := hidO HN
      have HS3 := HS2
      clear HN HS2 hlt kv he
      by_cases hpos : 0 < l0
      · go_wp2_with (go_at_call 7; go_must ((with_reducible refine q.mono ?_); rintro e W11 ⟨rfl, k11, t11⟩; have HF := hidO (HNN.out W11 k11 t11); clear k11 t11))
        exact HK.out _ _ _ _ _ _ _ _ _ _ _ _ _ _ _ _ _ _ _ _ _ _ _ _ _ _ _ _ _ _ _ _ _ _ _ _ _ _ _ _ _ _ _ _ _ _ _ _ _ _ _ _ _ _ _ _ _ _ _ _ _ _ _ _ _ _ _ _ _ _ _ _ _ _ _ _ _ _ _ _ _ _ _ _ _ _ _ _ _ _ _ HF.out
      · go_wp2_with fail
        exact HK.out _ _ _ _ _ _ _ _ _ _ _ _ _ _ _ _ _ _ _ _ _ _ _ _ _ _ _ _ _ _ _ _ _ _ _ _ _ _ _ _ _ _ _ _ _ _ _ _ _ _ _ _ _ _ _ _ _ _ _ _ _ _ _ _ _ _ _ _ _ _ _ _ _ _ _ _ _ _ _ _ _ _ _ _ _ _ _ _ _ _ _ HS3.out
    · obtain ⟨x, a, kv, he, okv, hz, hr, ha, HN⟩ := HS2.out.free0 HOO.out d1 (by omega) (by omega) (by omega) (by omega)
      have q := grant_any X x 0 (n2 + off) wc kv
      rw [he, show elV 0 = .nilIface from rfl] at q
      have HQ2 : Hid (∀ W1, VtAt W1 X (granV x 0 (n2 + off)) → Calls Try.prog 8 #[.pointer (some ⟨X, 0, none⟩), .int .i64 (n2 + off)] W1 fun e w' => e = .returned (.tuple #[.int .i64 1, .nilIface]) ∧ VtAt w' X { granV x 0 (n2 + off) with now := n2 + off } ∧ Turn (fun i => i = X) W1 w') := fun W1 hW => by
        have := role_ok X _ (n2 + off) W1 hW okv hz
        rw [hr] at this
        exact this
      have HQ3 : Hid (∀ W2, ArAt W2 A a → Calls Try.prog 9 #[.pointer (some ⟨A, 0, none⟩), .int .i64 0, .int .i64 n2] W2 fun e w' => e = .returned .nilIface ∧ ArAt w' A (freeA a 0 n2) ∧ Turn (fun i => i = A) W2 w') := fun W2 hW => by
        have := free_any A a 0 n2 W2 hW
        rw [ha, show elV 0 = .nilIface from rfl] at this
        exact this
      have HNN := hidO HN
      clear HN HS2 kv he okv hz hr ha
      go_upto_region 49 with (go_at_call 7; go_must ((with_reducible refine q.mono ?_); rintro e W11 ⟨rfl, k11, t11⟩))
      have q2 := HQ2.out W11 k11
      go_upto_region 52 with (go_at_call 8; go_must ((with_reducible refine q2.mono ?_); rintro e W12 ⟨rfl, k12, t12⟩))
      obtain ⟨ka, HN3⟩ := HNN.out W11 t11 W12 k12 t12
      have q3 := HQ3.out W12 ka
      have HN4 := hidO HN3
      clear HN3 k11 t11 k12 t12 ka q q2
      go_upto_region 54 with (go_at_call 9; go_must ((with_reducible refine q3.mono ?_); rintro e W13 ⟨rfl, k13, t13⟩))
      obtain ⟨⟨l0, l1, hlt⟩, H12⟩ := HN4.out W13 k13 t13
      obtain ⟨y0, y1, y2, y3⟩ := lt_cells hlt
      have HF := hidO H12
      clear H12 hlt k13 t13 q3
      go_wp2_with fail
      exact HK.out _ _ _ _ _ _ _ _ _ _ _ _ _ _ _ _ _ _ _ _ _ _ _ _ _ _ _ _ _ _ _ _ _ _ _ _ _ _ _ _ _ _ _ _ _ _ _ _ _ _ _ _ _ _ _ _ _ _ _ _ _ _ _ _ _ _ _ _ _ _ _ _ _ _ _ _ _ _ _ _ _ _ _ _ _ _ _ _ _ _ _ HF.out
    · go_wp2_with fail
      exact HK.out _ _ _ _ _ _ _ _ _ _ _ _ _ _ _ _ _ _ _ _ _ _ _ _ _ _ _ _ _ _ _ _ _ _ _ _ _ _ _ _ _ _ _ _ _ _ _ _ _ _ _ _ _ _ _ _ _ _ _ _ _ _ _ _ _ _ _ _ _ _ _ _ _ _ _ _ _ _ _ _ _ _ _ _ _ _ _ _ _ _ _ HS2.out
  · rcases hs with rfl | rfl | rfl | rfl | rfl | ⟨e0, e1, e2, e3, e4⟩
    · obtain ⟨a, ka, oa, HN⟩ := HS2.out.ask1 HOO.out (by omega) (by omega)
      have q := ask_any A a 1 n2 wc ka oa
      have HNN := hidO HN
      clear HN HS2 ka oa
      by_cases he : askE a 1 n2 = 0
      · rw [he, show elV 0 = .nilIface from rfl] at q
        have HE := hidO he
        clear he
        go_upto_region 33 with (go_at_call 5; go_must ((with_reducible refine q.mono ?_); rintro e W11 ⟨rfl, k11, t11⟩))
        obtain ⟨⟨l0, l1, hlt⟩, H12⟩ := (HNN.out W11 k11 t11).1 HE.out
        obtain ⟨y0, y1, y2, y3⟩ := lt_cells hlt
        have HF := hidO H12
        clear H12 hlt k11 t11 q
        go_wp2_with fail
        exact HK.out _ _ _ _ _ _ _ _ _ _ _ _ _ _ _ _ _ _ _ _ _ _ _ _ _ _ _ _ _ _ _ _ _ _ _ _ _ _ _ _ _ _ _ _ _ _ _ _ _ _ _ _ _ _ _ _ _ _ _ _ _ _ _ _ _ _ _ _ _ _ _ _ _ _ _ _ _ _ _ _ _ _ _ _ _ _ _ _ _ _ _ HF.out
      · rw [show elV (askE a 1 n2) = .iface 39 (.int .i64 (askE a 1 n2)) from if_neg he] at q
        have HE := hidO he
        clear he
        go_upto_region 33 with (go_at_call 5; go_must ((with_reducible refine q.mono ?_); rintro e W11 ⟨rfl, k11, t11⟩))
        have HF := hidO ((HNN.out W11 k11 t11).2 HE.out)
        clear k11 t11 q
        go_wp2_with fail
        exact HK.out _ _ _ _ _ _ _ _ _ _ _ _ _ _ _ _ _ _ _ _ _ _ _ _ _ _ _ _ _ _ _ _ _ _ _ _ _ _ _ _ _ _ _ _ _ _ _ _ _ _ _ _ _ _ _ _ _ _ _ _ _ _ _ _ _ _ _ _ _ _ _ _ _ _ _ _ _ _ _ _ _ _ _ _ _ _ _ _ _ _ _ HF.out
    · obtain ⟨a, ka, oa, HN⟩ := HS2.out.ask1 HOO.out (by omega) (by omega)
      have q := ask_any A a 1 n2 wc ka oa
      have HNN := hidO HN
      clear HN HS2 ka oa
      by_cases he : askE a 1 n2 = 0
      · rw [he, show elV 0 = .nilIface from rfl] at q
        have HE := hidO he
        clear he
        go_upto_region 33 with (go_at_call 5; go_must ((with_reducible refine q.mono ?_); rintro e W11 ⟨rfl, k11, t11⟩))
        obtain ⟨⟨l0, l1, hlt⟩, H12⟩ := (HNN.out W11 k11 t11).1 HE.out
        obtain ⟨y0, y1, y2, y3⟩ := lt_cells hlt
        have HF := hidO H12
        clear H12 hlt k11 t11 q
        go_wp2_with fail
        exact HK.out _ _ _ _ _ _ _ _ _ _ _ _ _ _ _ _ _ _ _ _ _ _ _ _ _ _ _ _ _ _ _ _ _ _ _ _ _ _ _ _ _ _ _ _ _ _ _ _ _ _ _ _ _ _ _ _ _ _ _ _ _ _ _ _ _ _ _ _ _ _ _ _ _ _ _ _ _ _ _ _ _ _ _ _ _ _ _ _ _ _ _ HF.out
      · rw [show elV (askE a 1 n2) = .iface 39 (.int .i64 (askE a 1 n2)) from if_neg he] at q
        have HE := hidO he
        clear he
        go_upto_region 33 with (go_at_call 5; go_must ((with_reducible refine q.mono ?_); rintro e W11 ⟨rfl, k11, t11⟩))
        have HF := hidO ((HNN.out W11 k11 t11).2 HE.out)
        clear k11 t11 q
        go_wp2_with fail
        exact HK.out _ _ _ _ _ _ _ _ _ _ _ _ _ _ _ _ _ _ _ _ _ _ _ _ _ _ _ _ _ _ _ _ _ _ _ _ _ _ _ _ _ _ _ _ _ _ _ _ _ _ _ _ _ _ _ _ _ _ _ _ _ _ _ _ _ _ _ _ _ _ _ _ _ _ _ _ _ _ _ _ _ _ _ _ _ _ _ _ _ _ _ HF.out
    · obtain ⟨l0, l1, y, hlt, kv, he, HN⟩ := HS2.out.gran1 HOO.out (by omega) (by omega)
      have q := grant_any Y y l1 (n2 + oth) wc kv
      rw [he, show elV 0 = .nilIface from rfl] at q
      obtain ⟨y0, y1, _, _⟩ := lt_cells hlt
      have HNN := hidO HN
      have HS3 := HS2
      clear HN HS2 hlt kv he
      by_cases hpos : 0 < l1
      · go_wp2_with (go_at_call 7; go_must ((with_reducible refine q.mono ?_); rintro e W11 ⟨rfl, k11, t11⟩; have HF := hidO (HNN.out W11 k11 t11); clear k11 t11))
        exact HK.out _ _ _ _ _ _ _ _ _ _ _ _ _ _ _ _ _ _ _ _ _ _ _ _ _ _ _ _ _ _ _ _ _ _ _ _ _ _ _ _ _ _ _ _ _ _ _ _ _ _ _ _ _ _ _ _ _ _ _ _ _ _ _ _ _ _ _ _ _ _ _ _ _ _ _ _ _ _ _ _ _ _ _ _ _ _ _ _ _ _ _ HF.out
      · go_wp2_with fail
        exact HK.out _ _ _ _ _ _ _ _ _ _ _ _ _ _ _ _ _ _ _ _ _ _ _ _ _ _ _ _ _ _ _ _ _ _ _ _ _ _ _ _ _ _ _ _ _ _ _ _ _ _ _ _ _ _ _ _ _ _ _ _ _ _ _ _ _ _ _ _ _ _ _ _ _ _ _ _ _ _ _ _ _ _ _ _ _ _ _ _ _ _ _ HS3.out
    · obtain ⟨l0, l1, y, hlt, kv, he, HN⟩ := HS2.out.gran1 HOO.out (by omega) (by omega)
      have q := grant_any Y y l1 (n2 + oth) wc kv
      rw [he, show elV 0 = .nilIface from rfl] at q
      obtain ⟨y0, y1, _, _⟩ := lt_cells hlt
      have HNN := hidO HN
      have HS3 := HS2
      clear HN HS2 hlt kv he
      by_cases hpos : 0 < l1
      · go_wp2_with (go_at_call 7; go_must ((with_reducible refine q.mono ?_); rintro e W11 ⟨rfl, k11, t11⟩; have HF := hidO (HNN.out W11 k11 t11); clear k11 t11))
        exact HK.out _ _ _ _ _ _ _ _ _ _ _ _ _ _ _ _ _ _ _ _ _ _ _ _ _ _ _ _ _ _ _ _ _ _ _ _ _ _ _ _ _ _ _ _ _ _ _ _ _ _ _ _ _ _ _ _ _ _ _ _ _ _ _ _ _ _ _ _ _ _ _ _ _ _ _ _ _ _ _ _ _ _ _ _ _ _ _ _ _ _ _ HF.out
      · go_wp2_with fail
        exact HK.out _ _ _ _ _ _ _ _ _ _ _ _ _ _ _ _ _ _ _ _ _ _ _ _ _ _ _ _ _ _ _ _ _ _ _ _ _ _ _ _ _ _ _ _ _ _ _ _ _ _ _ _ _ _ _ _ _ _ _ _ _ _ _ _ _ _ _ _ _ _ _ _ _ _ _ _ _ _ _ _ _ _ _ _ _ _ _ _ _ _ _ HS3.out
    · obtain ⟨y, a, kv, he, okv, hz, hr, ha, HN⟩ := HS2.out.free1 HOO.out d1 (by omega) (by omega) (by omega) (by omega)
      have q := grant_any Y y 0 (n2 + oth) wc kv
      rw [he, show elV 0 = .nilIface from rfl] at q
      have HQ2 : Hid (∀ W1, VtAt W1 Y (granV y 0 (n2 + oth)) → Calls Try.prog 8 #[.pointer (some ⟨Y, 0, none⟩), .int .i64 (n2 + oth)] W1 fun e w' => e = .returned (.tuple #[.int .i64 1, .nilIface]) ∧ VtAt w' Y { granV y 0 (n2 + oth) with now := n2 + oth } ∧ Turn (fun i => i = Y) W1 w') := fun W1 hW => by
        have := role_ok Y _ (n2 + oth) W1 hW okv hz
        rw [hr] at this
        exact this
      have HQ3 : Hid (∀ W2, ArAt W2 A a → Calls Try.prog 9 #[.pointer (some ⟨A, 0, none⟩), .int .i64 1, .int .i64 n2] W2 fun e w' => e = .returned .nilIface ∧ ArAt w' A (freeA a 1 n2) ∧ Turn (fun i => i = A) W2 w') := fun W2 hW => by
        have := free_any A a 1 n2 W2 hW
        rw [ha, show elV 0 = .nilIface from rfl] at this
        exact this
      have HNN := hidO HN
      clear HN HS2 kv he okv hz hr ha
      go_upto_region 51 with (go_at_call 7; go_must ((with_reducible refine q.mono ?_); rintro e W11 ⟨rfl, k11, t11⟩))
      have q2 := HQ2.out W11 k11
      go_upto_region 52 with (go_at_call 8; go_must ((with_reducible refine q2.mono ?_); rintro e W12 ⟨rfl, k12, t12⟩))
      obtain ⟨ka, HN3⟩ := HNN.out W11 t11 W12 k12 t12
      have q3 := HQ3.out W12 ka
      have HN4 := hidO HN3
      clear HN3 k11 t11 k12 t12 ka q q2
      go_upto_region 54 with (go_at_call 9; go_must ((with_reducible refine q3.mono ?_); rintro e W13 ⟨rfl, k13, t13⟩))
      obtain ⟨⟨l0, l1, hlt⟩, H12⟩ := HN4.out W13 k13 t13
      obtain ⟨y0, y1, y2, y3⟩ := lt_cells hlt
      have HF := hidO H12
      clear H12 hlt k13 t13 q3
      go_wp2_with fail
      exact HK.out _ _ _ _ _ _ _ _ _ _ _ _ _ _ _ _ _ _ _ _ _ _ _ _ _ _ _ _ _ _ _ _ _ _ _ _ _ _ _ _ _ _ _ _ _ _ _ _ _ _ _ _ _ _ _ _ _ _ _ _ _ _ _ _ _ _ _ _ _ _ _ _ _ _ _ _ _ _ _ _ _ _ _ _ _ _ _ _ _ _ _ HF.out
    · go_wp2_with fail
      exact HK.out _ _ _ _ _ _ _ _ _ _ _ _ _ _ _ _ _ _ _ _ _ _ _ _ _ _ _ _ _ _ _ _ _ _ _ _ _ _ _ _ _ _ _ _ _ _ _ _ _ _ _ _ _ _ _ _ _ _ _ _ _ _ _ _ _ _ _ _ _ _ _ _ _ _ _ _ _ _ _ _ _ _ _ _ _ _ _ _ _ _ _ HS2.out
end Go.Proofs.Ytempphlbgeogiaa
