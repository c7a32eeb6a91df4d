/- Due of package sync's Teller: its regions, one by one. -/
import Derived.Test.YtkkefgoidjjehaaDoorSynTl1
import Derived.Deep.CutRange
namespace Go.Proofs.YtkkefgoidjjehaaDoor
open Go.RowKit Go.Maps
set_option linter.unusedVariables false

theorem tlL_congr {ds ds' : Nat → Nat} {L : List Nat} (h : ∀ x ∈ L, ds x = ds' x) : tlL ds L = tlL ds' L := by
  unfold tlL
  exact List.map_congr_left (fun x hx => by rw [h x hx])
theorem tlL_put {ds ds' : Nat → Nat} {L : List Nat} {j : Nat} (hL : L.Nodup) (hj : j ∈ L) (h : ∀ x ∈ L, x ≠ j → ds x = ds' x) : ((Lit.int .i64 (j : Int), utV (nK j) (ds' j : Int)) :: tlL ds (L.filter fun x => decide (x ≠ j))).Perm (tlL ds' L) := by
  have e : tlL ds (L.filter fun x => decide (x ≠ j)) = tlL ds' (L.filter fun x => decide (x ≠ j)) := tlL_congr (fun x hx => by
    obtain ⟨h1, h2⟩ := List.mem_filter.1 hx
    exact h x h1 (by simpa using h2))
  rw [e]
  have p : L.Perm (j :: L.filter fun x => decide (x ≠ j)) := by
    have q := List.perm_cons_erase hj
    rw [hL.erase_eq_filter j] at q
    have e2 : (L.filter fun x => x != j) = L.filter fun x => decide (x ≠ j) := List.filter_congr (fun x _ => by by_cases hx : x = j <;> simp [hx])
    rw [e2] at q
    exact q
  exact (p.map (fun x : Nat => (Lit.int .i64 (x : Int), utV (nK x) (ds' x : Int)))).symm
def dsP (now g : Nat) (ds : Nat → Nat) (j : Nat) : Nat := if j ≤ g then dsN now ds j else ds j
theorem due_succ {h g now : Nat} {ds : Nat → Nat} (hg : h ≤ g) : dueJ h (g + 1) now ds = dueJ h g now ds ++ (if ds (g + 1) ≤ now then [g + 1] else []) := by
  unfold dueJ
  rw [show g + 1 - h = (g - h) + 1 by omega, List.range_succ, List.map_append, List.filter_append]
  congr 1
  simp only [List.map_cons, List.map_nil, show g - h + h + 1 = g + 1 by omega]
  by_cases e : ds (g + 1) ≤ now
  · rw [if_pos e, List.filter_cons, if_pos (by simpa using e)]; rfl
  · rw [if_neg e, List.filter_cons, if_neg (by simpa using e)]; rfl
theorem ut_cells {w : World} {b : Nat} {p : Nt} {d : Int} (h : UtAt w b p d) : (w.cell? ⟨b, 0, none⟩ = some (.int .i64 p.what) ∧ w.cell? ⟨b, 1, none⟩ = some (.int .i64 p.seq) ∧ w.cell? ⟨b, 2, none⟩ = some (.int .i64 p.fl.key.kind) ∧ w.cell? ⟨b, 3, none⟩ = some (.int .i64 p.fl.key.src) ∧ w.cell? ⟨b, 4, none⟩ = some (.int .i64 p.fl.key.frm) ∧ w.cell? ⟨b, 5, none⟩ = some (.int .i64 p.fl.key.dst) ∧ w.cell? ⟨b, 6, none⟩ = some (.int .i64 p.fl.key.too) ∧ w.cell? ⟨b, 7, none⟩ = some (.int .i64 p.fl.st) ∧ w.cell? ⟨b, 8, none⟩ = some (.int .i64 p.fl.unt) ∧ w.cell? ⟨b, 9, none⟩ = some (.int .i64 p.fl.stp) ∧ w.cell? ⟨b, 10, none⟩ = some (.int .i64 p.fl.h0) ∧ w.cell? ⟨b, 11, none⟩ = some (.int .i64 p.fl.h1) ∧ w.cell? ⟨b, 12, none⟩ = some (.int .i64 p.fl.w0) ∧ w.cell? ⟨b, 13, none⟩ = some (.int .i64 p.fl.w1) ∧ w.cell? ⟨b, 14, none⟩ = some (.bool p.fl.d0) ∧ w.cell? ⟨b, 15, none⟩ = some (.bool p.fl.d1) ∧ w.cell? ⟨b, 16, none⟩ = some (.int .i64 p.fl.num) ∧ w.cell? ⟨b, 17, none⟩ = some (.int .i64 d)) ∧ w.frozen? ⟨b, 17, none⟩ = false := by
  refine ⟨⟨?_, ?_, ?_, ?_, ?_, ?_, ?_, ?_, ?_, ?_, ?_, ?_, ?_, ?_, ?_, ?_, ?_, ?_⟩, frozen_of_row w b 17 _ _ h⟩ <;> (rw [cell_of_row w b _ _ _ _ h]; rfl)
theorem ut_set {w : World} {b : Nat} {p : Nt} {d : Int} (h : UtAt w b p d) (z : Int) : UtAt (w.setCell ⟨b, 17, none⟩ (.int .i64 z)) b p z := heap_setCell_same _ b 17 _ _ _ h
theorem tl_set0 {w : World} {b : Nat} {x y z u : Value} {T : TypeId} (k : w.heap[b]? = some (.cells #[x, y, z, u] T (0, 0))) (x' : Value) : (w.setCell ⟨b, 0, none⟩ x').heap[b]? = some (.cells #[x', y, z, u] T (0, 0)) := heap_setCell_same _ b 0 _ _ x' k
/-- The region of a number. -/
def regAt (n : Nat) : Code → Option Code
  | .seq a b => match regAt n a with
    | some c => some c
    | none => regAt n b
  | .loop a => regAt n a
  | .block _ a => regAt n a
  | .cond _ a b => match regAt n a with
    | some c => some c
    | none => regAt n b
  | .region m ops d => match Nat.beq m n with
    | true => some (.region m ops d)
    | false => none
  | _ => none
noncomputable def dueReg (n : Nat) : Code := (regAt n (Tryd.f14.body.getD .skip)).getD .skip
theorem own_not {W : World} {base k : Nat} {v : Value} {ns : List Nt} {cs : Array Value} {T : TypeId} {z : Nat × Nat} (h : OwnNt W base v ns) (hk : W.heap[k]? = some (.cells cs T z)) (hT : T ≠ 29) : v.ownBlock ≠ some k := by
  intro hv
  obtain ⟨_, h1⟩ := h
  rcases h1 with ⟨rfl, _⟩ | ⟨g, cap, cur, rfl, _, hh, _⟩
  · cases hv
  · simp only [Value.ownBlock, Option.some.injEq] at hv
    subst hv
    rw [hh] at hk
    simp only [Option.some.injEq, Obj.cells.injEq] at hk
    exact hT hk.2.1.symm
end Go.Proofs.YtkkefgoidjjehaaDoor
