/- ElectOne: the walk, as the statement's frame asks for it. -/
import Derived.Test.YtempphlbgeogiaaElOnW
namespace Go.Proofs.Ytempphlbgeogiaa
open Go.RowKit
set_option linter.unusedVariables false

theorem one_walk (lease drift off oth : Int) (v : Value) (l : List (List Int × Value)) (w : World) {p q r s : Prop} (_ : p) (_ : q) (_ : r) (_ : s) (hv : Rowz w v l) (hl : l.length ≤ 140737488355328) :
    Calls Try.prog 3 #[.int .i64 lease, .int .i64 drift, .int .i64 off, .int .i64 oth, v] w fun e w' => e = .returned (.bool true) ∧ Below w.heap.size w w' := one_any lease drift off oth v l w hv hl
end Go.Proofs.Ytempphlbgeogiaa
