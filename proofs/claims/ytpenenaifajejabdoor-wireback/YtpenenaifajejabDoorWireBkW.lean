/- The law WireBack of package portlaw1 returns true, as its row hands the arguments on. -/
import Derived.Test.YtpenenaifajejabDoorWireBk
import Derived.Test.YtpenenaifajejabDoorOpenPk
namespace Go.Proofs.YtpenenaifajejabDoor
open Go.ChangeShapes Go.WideShapes Go.ChangeAt Go.RowKit
set_option linter.unusedVariables false

theorem back_walk (p : Pk) (bv : Value) (v : Value) (zs : List Int) (pl tb : Int) (w : World) {cap : Nat} (hb : Bytes w bv p.body) (hv : Bytes w v zs) (hc : cap ≤ reachBytes) (hl : zs.length ≤ cap) (h1 : (Lit.int .i64 pl).wf = true) (h2 : (Lit.int .u8 tb).wf = true) (hE : ErrLaid w) :
    Calls Tryd.prog 6 #[pkV p bv, v, .int .i64 pl, .int .u8 tb] w fun e w' => e = .returned (.bool true) ∧ Below w.heap.size w w' := by
  have b1 := bounds_i64 h1
  have hr : reachBytes = 140737488351232 := rfl
  obtain ⟨ab, cb, rfl⟩ := len_body hb
  exact back_any p ab _ cb v zs pl tb w rfl hb hv (by omega) (by omega) (u8_wf h2) hE
end Go.Proofs.YtpenenaifajejabDoor
