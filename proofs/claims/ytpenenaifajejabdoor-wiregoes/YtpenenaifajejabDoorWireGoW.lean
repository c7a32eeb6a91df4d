/- The law WireGoes of package portlaw1 returns true, as its row hands the arguments on. -/
import Derived.Test.YtpenenaifajejabDoorWireGo
import Derived.Test.YtpenenaifajejabDoorOpenPk
namespace Go.Proofs.YtpenenaifajejabDoor
open Go.ChangeShapes Go.WideShapes Go.ChangeAt Go.RowKit
set_option linter.unusedVariables false

theorem goes_walk (p : Pk) (bv : Value) (v : Value) (zs : List Int) (w : World) {cap : Nat} (hb : Bytes w bv p.body) (hv : Bytes w v zs) (hc : cap ≤ reachBytes) (hl : zs.length ≤ cap) (hE : ErrLaid w) :
    Calls Tryd.prog 5 #[pkV p bv, v] w fun e w' => e = .returned (.bool true) ∧ Below w.heap.size w w' := by
  have hr : reachBytes = 140737488351232 := rfl
  obtain ⟨ab, cb, rfl⟩ := len_body hb
  obtain ⟨av, cv, rfl⟩ := len_body hv
  exact goes_any p ab _ cb av _ cv zs w rfl rfl hb hv (by omega) hE
end Go.Proofs.YtpenenaifajejabDoor
