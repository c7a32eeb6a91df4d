/- The law SumHolds of package portlaw1 returns true, for every input, as its row hands the arguments on. -/
import Derived.Test.YtchmggikmfibiaaHolds
import Derived.Test.YtchmggikmfibiaaOpen
namespace Go.Proofs.Ytchmggikmfibiaa
open Go.ChangeShapes Go.WideShapes Go.ChangeAt Go.RowKit
set_option linter.unusedVariables false

theorem holds_row (v : Value) (bs : List Int) (pl tb i k : Int) (w : World) {cap : Nat} (hv : Bytes w v bs) (hc : cap ≤ reachBytes) (hl : bs.length ≤ cap) (h1 : (Lit.int .i64 pl).wf = true) (h2 : (Lit.int .u8 tb).wf = true) (h3 : (Lit.int .i64 i).wf = true) (h4 : (Lit.int .i64 k).wf = true) :
    Calls Try.prog 4 #[v, .int .i64 pl, .int .u8 tb, .int .i64 i, .int .i64 k] w fun e w' => e = .returned (.bool true) ∧ Below w.heap.size w w' := by
  have b1 := bounds_i64 h1
  have b3 := bounds_i64 h3
  have b4 := bounds_i64 h4
  have hr : reachBytes = 140737488351232 := rfl
  have hv' : ∃ a l c, v = .slice a l c := by
    rcases hv with ⟨_, a, c, h, _⟩ | ⟨b, off, l, c, h, _⟩
    · exact ⟨_, _, _, h⟩
    · exact ⟨_, _, _, h⟩
  obtain ⟨a, l, c, rfl⟩ := hv'
  exact holds_any a l c bs pl tb i k w hv (by omega) (u8_wf h2) (by omega) (by omega) (by omega)
end Go.Proofs.Ytchmggikmfibiaa
