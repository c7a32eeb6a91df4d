/- What the reference's functions on numbers and prefixes return (package portref1: pow, Addr, Prefix, Ends, Has), for every input that the callers hand them. -/
import Derived.Test.YtaimahlhlfifnaaGreatDoorNum
namespace Go.Proofs.YtaimahlhlfifnaaGreatDoor
open Go.RowKit
set_option linter.unusedVariables false

end Go.Proofs.YtaimahlhlfifnaaGreatDoor
