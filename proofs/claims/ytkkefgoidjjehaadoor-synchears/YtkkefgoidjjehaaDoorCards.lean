/-
  DERIVED. GIVEN WITH THE SEED: THE CARDS: each row of YtkkefgoidjjehaaDoorRows.lean that lists a variable, with what it lists TIED to the program's text (the seventh form; the later family's looks); each row that meets fmt, with fmt's text TOLD by the authors' own Lean function (tested against real Go, not proved from fmt's source: count such statements apart). THE CARD IS WHAT COUNTS. Prove the row's statement (the work); the ties are given (YtkkefgoidjjehaaDoorTie.lean); close each card by the builder's one call (the guide's Derived/Test/ToyasCard.lean, 'card_holds'). Laid BY PROGRAM, IN A SANDBOX (cutbox-door.mjs). By AI agents, Wed Nov 11 2026. No macro, syntax, notation, axiom, sorry.
-/
import Derived.Test.YtkkefgoidjjehaaDoorRows
import GoSem.ClaimSeven
namespace Go.Proofs.YtkkefgoidjjehaaDoor
namespace Rows

/-- THE TIED CARD OF 'portlaw2.SyncBack'. -/
def syncBackCard : Claim7 := { stood := { row := syncBackRow, standIns := [], harness := (true, "d553c327cba7ab4d4309dabc7585a73a4193446caab00d27cf5e306ca645e08d"), looks := true }, kinds := [], alts := [], laidByText := true, laidKinds := [.data, .handle], laidTests := true, laidLooks := .later }
def SyncBackCardSaid : Prop := Claim7.holds Tryd.pinned (.plain (OpenSpec.ofChange syncBackSpec)) syncBackCard

/-- THE TIED CARD OF 'portlaw2.SyncHears'. -/
def syncHearsCard : Claim7 := { stood := { row := syncHearsRow, standIns := [], harness := (true, "d553c327cba7ab4d4309dabc7585a73a4193446caab00d27cf5e306ca645e08d"), looks := true }, kinds := [], alts := [], laidByText := true, laidKinds := [.data], laidTests := true, laidLooks := .later }
def SyncHearsCardSaid : Prop := Claim7.holds Tryd.pinned (.plain (OpenSpec.ofChange syncHearsSpec)) syncHearsCard

/-- THE SECOND FORM's CARD OF 'portlaw2.SyncBack'. -/
def syncBackUptoCard : Claim7 := { stood := { row := syncBackUptoRow, standIns := [], harness := (true, "d553c327cba7ab4d4309dabc7585a73a4193446caab00d27cf5e306ca645e08d"), looks := true }, kinds := [], alts := [], laidByText := true, laidKinds := [.data, .handle], laidTests := true, laidLooks := .later }
def SyncBackUptoCardSaid : Prop := Claim7.holds Tryd.pinned (.plain (OpenSpec.upto syncBackSpec)) syncBackUptoCard

/-- THE SECOND FORM's CARD OF 'portlaw2.SyncHears'. -/
def syncHearsUptoCard : Claim7 := { stood := { row := syncHearsUptoRow, standIns := [], harness := (true, "d553c327cba7ab4d4309dabc7585a73a4193446caab00d27cf5e306ca645e08d"), looks := true }, kinds := [], alts := [], laidByText := true, laidKinds := [.data], laidTests := true, laidLooks := .later }
def SyncHearsUptoCardSaid : Prop := Claim7.holds Tryd.pinned (.plain (OpenSpec.upto syncHearsSpec)) syncHearsUptoCard
end Rows
end Go.Proofs.YtkkefgoidjjehaaDoor
