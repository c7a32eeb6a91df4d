/- HeavyPlays: the law's walk. -/
import Derived.Test.YtchailjgikjhlaaDoorHvPw
import Derived.Test.YtchailjgikjhlaaDoorRefH7
namespace Go.Proofs.YtchailjgikjhlaaDoor
open Go.RowKit Go.Maps
set_option linter.unusedVariables false

theorem hplays_walk (n m : Int) (v1 : Value) (l : List Sp) (v2 : Value) (l2 : List Sp) (key : Int) (w : World) {p q : Prop} (_ : p) (_ : q) (hv : Spns w v1 l) (hl : l.length ≤ 140737488355328) (hwf : ∀ p ∈ l, SpWf p) (hv2 : Spns w v2 l2) (hl2 : l2.length ≤ 140737488355328) (hwf2 : ∀ p ∈ l2, SpWf p) (hk : (Lit.int .i64 key).wf = true) (hE : ErrLaid w) :
    Calls Tryd.prog 3 #[.int .i64 n, .int .i64 m, v1, v2, .int .i64 key] w fun e w' => e = .returned (.bool true) ∧ Below w.heap.size w w' := by
  cases h : numB n
  · exact hplays_early n m v1 v2 key w h hE
  · exact hplays_any (fun base b b' h o v v' w k k' kh ko hb hbb hsep hn hf => rmerge_ok base b b' h o v v' w k k' kh ko hb hbb hsep hn hf) n m v1 l v2 l2 key w h hv hl hwf hv2 hl2 hwf2 (wfOf hk) hE
end Go.Proofs.YtchailjgikjhlaaDoor
