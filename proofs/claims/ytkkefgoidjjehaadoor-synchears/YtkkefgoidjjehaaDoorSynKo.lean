/- The key that the law SyncHears makes of a number. -/
import Derived.Test.YtkkefgoidjjehaaDoorSynDue
import Derived.Test.YtkkefgoidjjehaaDoorSynHr
import Derived.Test.YtkkefgoidjjehaaDoorOpenIi
namespace Go.Proofs.YtkkefgoidjjehaaDoor
open Go.RowKit Go.Maps
set_option linter.unusedVariables false

set_option maxRecDepth 100000 in
set_option maxHeartbeats 4000000 in
theorem skeyOf_any (i : Nat) (w : World) (hi : i ≤ 1000) :
    Calls Tryd.prog 12 #[.int .i64 (i : Int)] w fun e w' => e = .returned (.agg #[.int .i64 (1 + (i : Int) % 3), .int .i64 (10 + (i : Int) % 5), .int .i64 7, .int .i64 (20 - (i : Int) % 3), .int .i64 7]) ∧ Below w.heap.size w w' := by
  have i0 : ¬ (i : Int) < 0 := by omega
  have i1 : (0 : Int) ≤ (i : Int) := by omega
  have i2 : (i : Int) ≤ 1000 := by omega
  go_enter Tryd.func12, Tryd.ntmps12
  go_wp2_with fail
  exact bodyPost_ret (v := .agg #[.int .i64 (1 + (i : Int) % 3), .int .i64 (10 + (i : Int) % 5), .int .i64 7, .int .i64 (20 - (i : Int) % 3), .int .i64 7]) (by simp [results, Tryd.results12, go_sem]) rfl ⟨rfl, by repeat (first | exact Below.refl _ _ | refine Below.setCell ?_ (by simp) _ | refine Below.alloc ?_ (by simp) _)⟩
end Go.Proofs.YtkkefgoidjjehaaDoor
