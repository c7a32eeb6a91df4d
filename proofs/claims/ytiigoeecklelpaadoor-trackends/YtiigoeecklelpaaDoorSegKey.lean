/- What Turn and First of package seg return, for every key (and cmp.Compare and cmp.Or of the library at int, as First calls them). -/
import Derived.Test.YtiigoeecklelpaaDoorSegAt
import Derived.Test.YtiigoeecklelpaaDoorSegFit
import Derived.Deep.RegionHeld3
import Derived.Deep.DrawnRows
namespace Go.Proofs.YtiigoeecklelpaaDoor
open Go.RowKit
set_option linter.unusedVariables false

theorem turn_any (k : Ky) (w : World) :
    Calls Tryd.prog 32 #[keyV k] w fun e w' => e = .returned (keyV (turnK k)) ∧ Below w.heap.size w w' := by
  unfold keyV turnK
  go_enter Tryd.func32, Tryd.ntmps32
  go_wp2
  exact bodyPost_ret (v := .agg #[.int .i64 k.kind, .int .i64 k.dst, .int .i64 k.too, .int .i64 k.src, .int .i64 k.frm]) (by simp [results, Tryd.results32, go_sem]) rfl ⟨rfl, ((Below.refl _ _).alloc (Nat.le_refl _) _).alloc (by simp) _⟩
theorem KyAt.drew {w : World} {b : Nat} {p : Ky} (h : KyAt w b p) : KyAt w.drew b p := h
/-- What holds all the way. -/
def KdS (w : World) (k : Ky) (w' : World) : Prop := KyAt w' w.heap.size k ∧ KyAt w' (w.heap.size + 1) zeroY ∧ Below w.heap.size w w'
theorem KdS.drew {w : World} {k : Ky} {w' : World} (h : KdS w k w') : KdS w k w'.drew := ⟨h.1, h.2.1, h.2.2.drew⟩
theorem KdS.alloc {w : World} {k : Ky} {w' : World} (h : KdS w k w') (o : Obj) : KdS w k (w'.alloc o) := ⟨h.1.alloc o, h.2.1.alloc o, h.2.2.alloc h.2.2.size o⟩
end Go.Proofs.YtiigoeecklelpaaDoor
