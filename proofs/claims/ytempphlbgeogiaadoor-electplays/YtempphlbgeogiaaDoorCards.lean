/-
  DERIVED. GIVEN WITH THE SEED: THE CARDS: each row of YtempphlbgeogiaaDoorRows.lean that lists a variable, with what it lists TIED to the program's text (the seventh form; the later family's looks); each row that meets fmt, with fmt's text TOLD by the authors' own Lean function (tested against real Go, not proved from fmt's source: count such statements apart). THE CARD IS WHAT COUNTS. Prove the row's statement (the work); the ties are given (YtempphlbgeogiaaDoorTie.lean); close each card by the builder's one call (the guide's Derived/Test/ToyasCard.lean, 'card_holds'). Laid BY PROGRAM, IN A SANDBOX (cutbox-door.mjs). By AI agents, Wed Nov 11 2026. No macro, syntax, notation, axiom, sorry.
-/
import Derived.Test.YtempphlbgeogiaaDoorRows
import GoSem.ClaimSeven
namespace Go.Proofs.YtempphlbgeogiaaDoor
namespace Rows

/-- THE TIED CARD OF 'portlaw2.ElectPlays'. -/
def electPlaysCard : Claim7 := { stood := { row := electPlaysRow, standIns := [], harness := (true, "607d694482f36ede09e28bc620d48b64cf55037774810d58fd421fdb89c88f31"), looks := true }, kinds := [], alts := [], laidByText := true, laidKinds := [.handle], laidTests := true, laidLooks := .later }
def ElectPlaysCardSaid : Prop := Claim7.holds Tryd.pinned (.plain (OpenSpec.ofChange electPlaysSpec)) electPlaysCard

/-- THE TIED CARD OF 'portlaw4.ElectLease'. -/
def electLeaseCard : Claim7 := { stood := { row := electLeaseRow, standIns := [], harness := (true, "607d694482f36ede09e28bc620d48b64cf55037774810d58fd421fdb89c88f31"), looks := true }, kinds := [], alts := [], laidByText := true, laidKinds := [.handle], laidTests := true, laidLooks := .later }
def ElectLeaseCardSaid : Prop := Claim7.holds Tryd.pinned (.plain (OpenSpec.ofChange electLeaseSpec)) electLeaseCard

/-- THE SECOND FORM's CARD OF 'portlaw2.ElectPlays'. -/
def electPlaysUptoCard : Claim7 := { stood := { row := electPlaysUptoRow, standIns := [], harness := (true, "607d694482f36ede09e28bc620d48b64cf55037774810d58fd421fdb89c88f31"), looks := true }, kinds := [], alts := [], laidByText := true, laidKinds := [.handle], laidTests := true, laidLooks := .later }
def ElectPlaysUptoCardSaid : Prop := Claim7.holds Tryd.pinned (.plain (OpenSpec.upto electPlaysSpec)) electPlaysUptoCard

/-- THE SECOND FORM's CARD OF 'portlaw4.ElectLease'. -/
def electLeaseUptoCard : Claim7 := { stood := { row := electLeaseUptoRow, standIns := [], harness := (true, "607d694482f36ede09e28bc620d48b64cf55037774810d58fd421fdb89c88f31"), looks := true }, kinds := [], alts := [], laidByText := true, laidKinds := [.handle], laidTests := true, laidLooks := .later }
def ElectLeaseUptoCardSaid : Prop := Claim7.holds Tryd.pinned (.plain (OpenSpec.upto electLeaseSpec)) electLeaseUptoCard
end Rows
end Go.Proofs.YtempphlbgeogiaaDoor
