/- What the reference's stream returns (package portref2), for every flow and segment whose numbers may be. -/
import Derived.Test.YtdhjfjnjdkmhjaaDoorMgJ
import Derived.Test.YtdhjfjnjdkmhjaaDoorRefSA1a
import Derived.Test.YtdhjfjnjdkmhjaaDoorRefSA1b
import Derived.Test.YtdhjfjnjdkmhjaaDoorMgJ
import Derived.Test.YtdhjfjnjdkmhjaaDoorRefSB1
import Derived.Test.YtdhjfjnjdkmhjaaDoorMgI
import Derived.Test.YtdhjfjnjdkmhjaaDoorRefSD1
namespace Go.Proofs.YtdhjfjnjdkmhjaaDoor
open Go.RowKit
set_option linter.unusedVariables false

theorem refStream_any (f : Fl) (s : Sg) (a : Option Addr) (l c : Nat) (side : Int) (w : World) (hs : side = 0 ∨ side = 1) (h0 : 0 ≤ s.flg) (h15 : s.flg ≤ 15) (hq0 : 0 ≤ s.seq) (hq1 : s.seq ≤ 4294967295) (hl : s.body.length = l) (hl4 : l ≤ 4000) (hh0 : 0 ≤ f.h0 ∧ f.h0 ≤ 4294967295) (hh1 : 0 ≤ f.h1 ∧ f.h1 ≤ 4294967295) :
    Calls Tryd.prog 34 #[flV f, segV s (.slice a l c), .int .i64 side] w fun e w' => e = .returned (.tuple #[flV (if strB f s side = true then strF f s side else f), .bool (strB f s side)]) ∧ Below w.heap.size w w' := by
  cases hx : flgB s 4
  · by_cases hst : f.st = 1
    · rcases hs with rfl | rfl
      · exact rs_asked0 f s a l c w h0 h15 hq0 hq1 hl hl4 hh0 hh1 hx hst
      · exact rs_asked1 f s a l c w h0 h15 hq0 hq1 hl hl4 hh0 hh1 hx hst
    · rcases hs with rfl | rfl
      · exact rs_go0 f s a l c w h0 h15 hq0 hq1 hl hl4 hh0 hh1 hx hst
      · exact rs_go1 f s a l c w h0 h15 hq0 hq1 hl hl4 hh0 hh1 hx hst
  · rcases hs with rfl | rfl
    · exact rs_rst0 f s a l c w h0 h15 hq0 hq1 hl hl4 hh0 hh1 hx
    · by_cases hst : f.st = 1
      · exact rs_rst1a f s a l c w h0 h15 hq0 hq1 hl hl4 hh0 hh1 hx hst
      · exact rs_rst1b f s a l c w h0 h15 hq0 hq1 hl hl4 hh0 hh1 hx hst
end Go.Proofs.YtdhjfjnjdkmhjaaDoor
