/- What measure of package wire returns, for every bytes: how many bytes the packet has that they begin with, or why they begin with none. -/
import Derived.Test.YtiigoeecklelpaaDoorWireChk
namespace Go.Proofs.YtiigoeecklelpaaDoor
open Go.RowKit
set_option linter.unusedVariables false

theorem drop_cons (zs : List Int) (o : Nat) (h : o < zs.length) : zs.drop o = zs.getD o 0 :: zs.drop (o + 1) := by
  rw [List.drop_eq_getElem_cons h]; simp [List.getD, h]
theorem take1 (zs : List Int) (o : Nat) (h : o + 1 ≤ zs.length) : (zs.drop o).take 1 = [zs.getD o 0] := by
  rw [drop_cons zs o (by omega)]; rfl
theorem take2 (zs : List Int) (o : Nat) (h : o + 2 ≤ zs.length) : (zs.drop o).take 2 = [zs.getD o 0, zs.getD (o + 1) 0] := by
  rw [drop_cons zs o (by omega), drop_cons zs (o + 1) (by omega)]; rfl
theorem take4 (zs : List Int) (o : Nat) (h : o + 4 ≤ zs.length) : (zs.drop o).take 4 = [zs.getD o 0, zs.getD (o + 1) 0, zs.getD (o + 2) 0, zs.getD (o + 3) 0] := by
  rw [drop_cons zs o (by omega), drop_cons zs (o + 1) (by omega), drop_cons zs (o + 1 + 1) (by omega), drop_cons zs (o + 1 + 1 + 1) (by omega)]; rfl

theorem same_refl (w : World) : Same w w := ⟨0, rfl⟩
end Go.Proofs.YtiigoeecklelpaaDoor
