/- What the law SyncBack of package portlaw2 returns, for every note, any bytes and any number: true. -/
import Derived.Test.YtbncegjnjlokmaaDoorSynB1
import Derived.Test.YtbncegjnjlokmaaDoorSynB2
import Derived.Test.YtbncegjnjlokmaaDoorSynB3
import Derived.Test.YtbncegjnjlokmaaDoorSynB4
import Derived.Test.YtbncegjnjlokmaaDoorSynB5
import Derived.Test.YtbncegjnjlokmaaDoorSynB6
import Derived.Test.YtbncegjnjlokmaaDoorSynB7
import Derived.Test.YtbncegjnjlokmaaDoorSynB8
import Derived.Test.YtbncegjnjlokmaaDoorSynOf
namespace Go.Proofs.YtbncegjnjlokmaaDoor
open Go.RowKit
set_option linter.unusedVariables false

theorem sback_walk (n : Nt) (v : Value) (zs : List Int) (cut : Int) (w : World) {cap : Nat} (hv : Bytes w v zs) (hc : cap ≤ reachBytes) (hl : zs.length ≤ cap) {p : Prop} (_ : p) (hE : ErrLaid w) (hL : Lives w) :
    Calls Tryd.prog 4 #[ntV n, v, .int .i64 cut] w fun e w' => e = .returned (.bool true) ∧ Below w.heap.size w w' := by
  have hcap : zs.length ≤ 140737488351232 := by unfold reachBytes at hc; omega
  have hNO : NoteOfSays := noteOf_any
  by_cases hn : ntE n = 0
  · by_cases hr : (readR zs).1 = 0
    · rcases Int.lt_or_le cut 0 with h | h
      · exact sb_neg_ok n v zs cut w hv hcap hE hL hNO hn h hr
      · rcases Int.lt_or_le cut ((encN n).length : Int) with h2 | h2
        · exact sb_in_ok n v zs cut w hv hcap hE hL hNO hn h h2 hr
        · exact sb_big_ok n v zs cut w hv hcap hE hL hNO hn h2 hr
    · rcases Int.lt_or_le cut 0 with h | h
      · exact sb_neg_no n v zs cut w hv hcap hE hL hNO hn h hr
      · rcases Int.lt_or_le cut ((encN n).length : Int) with h2 | h2
        · exact sb_in_no n v zs cut w hv hcap hE hL hNO hn h h2 hr
        · exact sb_big_no n v zs cut w hv hcap hE hL hNO hn h2 hr
  · by_cases hr : (readR zs).1 = 0
    · exact sb_no_ok n v zs cut w hv hcap hE hL hNO hn hr
    · exact sb_no_no n v zs cut w hv hcap hE hL hNO hn hr
end Go.Proofs.YtbncegjnjlokmaaDoor
