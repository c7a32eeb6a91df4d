/- A region that draws its order, whose operations only read and whose callees only make memory: one walk of the lexical order serves every order, in the class of worlds that extend the one at hand. -/
import Derived.Test.YtkkefgoidjjehaaDoorMgB
import Derived.Deep.QuietTactic
import Derived.BigQuiet
namespace Go.Proofs.YtkkefgoidjjehaaDoor
open Go.RowKit
set_option linter.unusedVariables false

/-- A world that has what w has, and perhaps more. -/
structure Ext (w : World) where
  W : World
  h : Below w.heap.size w W
instance (w : World) : Nonempty (Ext w) := ⟨⟨w, Below.refl _ _⟩⟩
theorem wp_region_ext {P : Program} {id : Nat} {Q : Exit → Act → World → Prop} {a : Act} {w : World} {l : List Oper} (hm : P.follows .mixedOrders = true) (hB : Region.lexB .any l.toArray = true)
    (h : wpQuiet P l.toArray (fun W => ∃ u : Ext w, W = u.W) (fun a' => ∀ w', (∃ u : Ext w, w' = u.W) → Q .normal a' w') l a) : (Code.region id l.toArray true).wp P Q a w :=
  wp_region_quiet (C := fun W => ∃ u : Ext w, W = u.W) hm hB ⟨⟨{ w with drawn := w.drawn + 1 }, ⟨rfl, rfl, rfl, Nat.le_refl _, fun _ _ => rfl⟩⟩, rfl⟩ (by simpa using h)
theorem Ext.cell {w : World} {b o : Nat} {v : Value} (h : w.cell? ⟨b, o, none⟩ = some v) : ∀ u : Ext w, u.W.cell? ⟨b, o, none⟩ = some v := fun u => by
  have hlt : b < w.heap.size := by
    rcases Nat.lt_or_ge b w.heap.size with h1 | h1
    · exact h1
    · simp [World.cell?, Array.getElem?_eq_none h1] at h
  rw [u.h.cell (p := ⟨b, o, none⟩) hlt]; exact h
/-- A call that only makes memory, in every such world. -/
theorem Ext.call {P : Program} {f : FuncId} {args : Array Value} {v : Value} {w : World} (h : ∀ W, Calls P f args W fun e w' => e = .returned v ∧ Below W.heap.size W w') (u : Ext w) : Calls P f args u.W fun e w' => e = .returned v ∧ ∃ u' : Ext w, w' = u'.W := by
  refine (h u.W).mono ?_
  rintro e w' ⟨rfl, hb⟩
  exact ⟨rfl, ⟨w', u.h.trans (hb.mono u.h.size)⟩, rfl⟩
end Go.Proofs.YtkkefgoidjjehaaDoor
