/- Two worlds that differ in nothing but draws. -/
import Derived.Test.YtbncegjnjlokmaaDoorNum
namespace Go.Proofs.YtbncegjnjlokmaaDoor
open Go.RowKit
set_option linter.unusedVariables false

/-- The same world, but for what was drawn. -/
def SameW (w w' : World) : Prop := ∃ n, w' = w.drewN n
theorem SameW.refl (w : World) : SameW w w := ⟨0, rfl⟩
theorem SameW.below {B : Nat} {w w' w'' : World} (h : Below B w w') (hs : SameW w' w'') : Below B w w'' := by
  obtain ⟨n, rfl⟩ := hs; exact below_drewN h n
theorem SameW.drewN {w w' : World} (hs : SameW w w') (n : Nat) : SameW w (w'.drewN n) := by
  obtain ⟨m, rfl⟩ := hs; exact ⟨m + n, by simp⟩
end Go.Proofs.YtbncegjnjlokmaaDoor
