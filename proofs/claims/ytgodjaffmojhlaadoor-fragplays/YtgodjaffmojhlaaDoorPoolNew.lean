/- A pool that is new is an empty pool. -/
import Derived.Test.YtgodjaffmojhlaaDoorPoolAdd6
namespace Go.Proofs.YtgodjaffmojhlaaDoor
open Go.RowKit Go.Maps
set_option linter.unusedVariables false

def TwoF (b : Nat) (k : Nat) : Prop := k = b ∨ k = b + 1
theorem new_pool (life : Int) (w : World) (h1 : 1 ≤ life) (h2 : life ≤ 1000000) :
    PoolAt ((w.alloc (.map #[] 0)).alloc (.cells #[.int .i64 life, .int .i64 0, .map (some w.heap.size)] 53)) (TwoF w.heap.size) (w.heap.size + 1) { life := life, now := 0, l := [] } := by
  refine ⟨w.heap.size, [], ⟨?_, ?_, rfl, fun g hg => (by cases hg), ⟨fun x hx => (by cases hx), .nil, by simp⟩, fun g hg => (by cases hg), ⟨⟨h1, h2⟩, ⟨by simp, by simp⟩, fun g hg => (by cases hg)⟩, .inr rfl, .inl rfl, fun g hg => (by cases hg), .nil, .nil, fun g hg => (by cases hg)⟩⟩
  · have e := heap_alloc_new (w.alloc (.map #[] 0)) (.cells #[.int .i64 life, .int .i64 0, .map (some w.heap.size)] 53)
    simpa using e
  · exact (MapIs.made Tryd.prog 61 w).block (Below.heap_alloc _ _ _ (by simp))
theorem new_any (life : Int) (w : World) (h1 : 1 ≤ life) (h2 : life ≤ 1000000) :
    Calls Tryd.prog 4 #[.int .i64 life] w fun e w' => e = .returned (.tuple #[ptrV (w.heap.size + 1), .nilIface]) ∧ PoolAt w' (TwoF w.heap.size) (w.heap.size + 1) { life := life, now := 0, l := [] } ∧ Below w.heap.size w w' ∧ w'.heap.size = w.heap.size + 2 := by
  refine (new_good life w (by omega) (by omega)).mono ?_
  rintro e w' ⟨rfl, rfl⟩
  exact ⟨rfl, new_pool life w h1 h2, ((Below.refl _ _).alloc (Nat.le_refl _) _).alloc (by simp) _, by simp⟩
end Go.Proofs.YtgodjaffmojhlaaDoor
