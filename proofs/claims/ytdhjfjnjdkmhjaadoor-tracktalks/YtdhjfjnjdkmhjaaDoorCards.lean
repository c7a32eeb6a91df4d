/-
  DERIVED. GIVEN WITH THE SEED: THE CARDS: each row of YtdhjfjnjdkmhjaaDoorRows.lean that lists a variable, with what it lists TIED to the program's text (the seventh form; the later family's looks); each row that meets fmt, with fmt's text TOLD by the authors' own Lean function (tested against real Go, not proved from fmt's source: count such statements apart). THE CARD IS WHAT COUNTS. Prove the row's statement (the work); the ties are given (YtdhjfjnjdkmhjaaDoorTie.lean); close each card by the builder's one call (the guide's Derived/Test/ToyasCard.lean, 'card_holds'). Laid BY PROGRAM, IN A SANDBOX (cutbox-door.mjs). By AI agents, Wed Nov 11 2026. No macro, syntax, notation, axiom, sorry.
-/
import Derived.Test.YtdhjfjnjdkmhjaaDoorRows
import GoSem.ClaimSeven
namespace Go.Proofs.YtdhjfjnjdkmhjaaDoor
namespace Rows

/-- THE TIED CARD OF 'portlaw2.TrackSteps'. -/
def trackStepsCard : Claim7 := { stood := { row := trackStepsRow, standIns := [], harness := (true, "c20042ebeccf2de95a83260c9b278532da8d08feae061b926f1ee4770e471b7c"), looks := true }, kinds := [], alts := [], laidByText := true, laidKinds := [.data, .handle], laidTests := true, laidLooks := .later }
def TrackStepsCardSaid : Prop := Claim7.holds Tryd.pinned (.plain (OpenSpec.ofChange trackStepsSpec)) trackStepsCard

/-- THE TIED CARD OF 'portlaw2.TrackTalks'. -/
def trackTalksCard : Claim7 := { stood := { row := trackTalksRow, standIns := [], harness := (true, "c20042ebeccf2de95a83260c9b278532da8d08feae061b926f1ee4770e471b7c"), looks := true }, kinds := [], alts := [], laidByText := true, laidKinds := [.data, .handle], laidTests := true, laidLooks := .later }
def TrackTalksCardSaid : Prop := Claim7.holds Tryd.pinned (.plain (OpenSpec.ofChange trackTalksSpec)) trackTalksCard

/-- THE TIED CARD OF 'portlaw4.TableFull'. -/
def tableFullCard : Claim7 := { stood := { row := tableFullRow, standIns := [], harness := (true, "c20042ebeccf2de95a83260c9b278532da8d08feae061b926f1ee4770e471b7c"), looks := true }, kinds := [], alts := [], laidByText := true, laidKinds := [.data, .handle], laidTests := true, laidLooks := .later }
def TableFullCardSaid : Prop := Claim7.holds Tryd.pinned (.plain (OpenSpec.ofChange tableFullSpec)) tableFullCard

/-- THE SECOND FORM's CARD OF 'portlaw2.TrackSteps'. -/
def trackStepsUptoCard : Claim7 := { stood := { row := trackStepsUptoRow, standIns := [], harness := (true, "c20042ebeccf2de95a83260c9b278532da8d08feae061b926f1ee4770e471b7c"), looks := true }, kinds := [], alts := [], laidByText := true, laidKinds := [.data, .handle], laidTests := true, laidLooks := .later }
def TrackStepsUptoCardSaid : Prop := Claim7.holds Tryd.pinned (.plain (OpenSpec.upto trackStepsSpec)) trackStepsUptoCard

/-- THE SECOND FORM's CARD OF 'portlaw2.TrackTalks'. -/
def trackTalksUptoCard : Claim7 := { stood := { row := trackTalksUptoRow, standIns := [], harness := (true, "c20042ebeccf2de95a83260c9b278532da8d08feae061b926f1ee4770e471b7c"), looks := true }, kinds := [], alts := [], laidByText := true, laidKinds := [.data, .handle], laidTests := true, laidLooks := .later }
def TrackTalksUptoCardSaid : Prop := Claim7.holds Tryd.pinned (.plain (OpenSpec.upto trackTalksSpec)) trackTalksUptoCard

/-- THE SECOND FORM's CARD OF 'portlaw4.TableFull'. -/
def tableFullUptoCard : Claim7 := { stood := { row := tableFullUptoRow, standIns := [], harness := (true, "c20042ebeccf2de95a83260c9b278532da8d08feae061b926f1ee4770e471b7c"), looks := true }, kinds := [], alts := [], laidByText := true, laidKinds := [.data, .handle], laidTests := true, laidLooks := .later }
def TableFullUptoCardSaid : Prop := Claim7.holds Tryd.pinned (.plain (OpenSpec.upto tableFullSpec)) tableFullUptoCard
end Rows
end Go.Proofs.YtdhjfjnjdkmhjaaDoor
