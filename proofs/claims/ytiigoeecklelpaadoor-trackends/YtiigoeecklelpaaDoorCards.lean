/-
  DERIVED. GIVEN WITH THE SEED: THE CARDS: each row of YtiigoeecklelpaaDoorRows.lean that lists a variable, with what it lists TIED to the program's text (the seventh form; the later family's looks); each row that meets fmt, with fmt's text TOLD by the authors' own Lean function (tested against real Go, not proved from fmt's source: count such statements apart). THE CARD IS WHAT COUNTS. Prove the row's statement (the work); the ties are given (YtiigoeecklelpaaDoorTie.lean); close each card by the builder's one call (the guide's Derived/Test/ToyasCard.lean, 'card_holds'). Laid BY PROGRAM, IN A SANDBOX (cutbox-door.mjs). By AI agents, Wed Nov 11 2026. No macro, syntax, notation, axiom, sorry.
-/
import Derived.Test.YtiigoeecklelpaaDoorRows
import GoSem.ClaimSeven
namespace Go.Proofs.YtiigoeecklelpaaDoor
namespace Rows

/-- THE TIED CARD OF 'portlaw2.TrackSteps'. -/
def trackStepsCard : Claim7 := { stood := { row := trackStepsRow, standIns := [], harness := (true, "0478706111da4dda9399cf904870347fbbde0f391eb97557fda69cfb0b429f37"), looks := true }, kinds := [], alts := [], laidByText := true, laidKinds := [.data, .handle], laidTests := true, laidLooks := .later }
def TrackStepsCardSaid : Prop := Claim7.holds Tryd.pinned (.plain (OpenSpec.ofChange trackStepsSpec)) trackStepsCard

/-- THE TIED CARD OF 'portlaw2.TrackTalks'. -/
def trackTalksCard : Claim7 := { stood := { row := trackTalksRow, standIns := [], harness := (true, "0478706111da4dda9399cf904870347fbbde0f391eb97557fda69cfb0b429f37"), looks := true }, kinds := [], alts := [], laidByText := true, laidKinds := [.data, .handle], laidTests := true, laidLooks := .later }
def TrackTalksCardSaid : Prop := Claim7.holds Tryd.pinned (.plain (OpenSpec.ofChange trackTalksSpec)) trackTalksCard

/-- THE TIED CARD OF 'portlaw2.TrackKeeps'. -/
def trackKeepsCard : Claim7 := { stood := { row := trackKeepsRow, standIns := [], harness := (true, "0478706111da4dda9399cf904870347fbbde0f391eb97557fda69cfb0b429f37"), looks := true }, kinds := [], alts := [], laidByText := true, laidKinds := [.data], laidTests := true, laidLooks := .later }
def TrackKeepsCardSaid : Prop := Claim7.holds Tryd.pinned (.plain (OpenSpec.ofChange trackKeepsSpec)) trackKeepsCard

/-- THE TIED CARD OF 'portlaw4.TrackEnds'. -/
def trackEndsCard : Claim7 := { stood := { row := trackEndsRow, standIns := [], harness := (true, "0478706111da4dda9399cf904870347fbbde0f391eb97557fda69cfb0b429f37"), looks := true }, kinds := [], alts := [], laidByText := true, laidKinds := [.data, .handle], laidTests := true, laidLooks := .later }
def TrackEndsCardSaid : Prop := Claim7.holds Tryd.pinned (.plain (OpenSpec.ofChange trackEndsSpec)) trackEndsCard

/-- THE SECOND FORM's CARD OF 'portlaw2.TrackSteps'. -/
def trackStepsUptoCard : Claim7 := { stood := { row := trackStepsUptoRow, standIns := [], harness := (true, "0478706111da4dda9399cf904870347fbbde0f391eb97557fda69cfb0b429f37"), looks := true }, kinds := [], alts := [], laidByText := true, laidKinds := [.data, .handle], laidTests := true, laidLooks := .later }
def TrackStepsUptoCardSaid : Prop := Claim7.holds Tryd.pinned (.plain (OpenSpec.upto trackStepsSpec)) trackStepsUptoCard

/-- THE SECOND FORM's CARD OF 'portlaw2.TrackTalks'. -/
def trackTalksUptoCard : Claim7 := { stood := { row := trackTalksUptoRow, standIns := [], harness := (true, "0478706111da4dda9399cf904870347fbbde0f391eb97557fda69cfb0b429f37"), looks := true }, kinds := [], alts := [], laidByText := true, laidKinds := [.data, .handle], laidTests := true, laidLooks := .later }
def TrackTalksUptoCardSaid : Prop := Claim7.holds Tryd.pinned (.plain (OpenSpec.upto trackTalksSpec)) trackTalksUptoCard

/-- THE SECOND FORM's CARD OF 'portlaw2.TrackKeeps'. -/
def trackKeepsUptoCard : Claim7 := { stood := { row := trackKeepsUptoRow, standIns := [], harness := (true, "0478706111da4dda9399cf904870347fbbde0f391eb97557fda69cfb0b429f37"), looks := true }, kinds := [], alts := [], laidByText := true, laidKinds := [.data], laidTests := true, laidLooks := .later }
def TrackKeepsUptoCardSaid : Prop := Claim7.holds Tryd.pinned (.plain (OpenSpec.upto trackKeepsSpec)) trackKeepsUptoCard

/-- THE SECOND FORM's CARD OF 'portlaw4.TrackEnds'. -/
def trackEndsUptoCard : Claim7 := { stood := { row := trackEndsUptoRow, standIns := [], harness := (true, "0478706111da4dda9399cf904870347fbbde0f391eb97557fda69cfb0b429f37"), looks := true }, kinds := [], alts := [], laidByText := true, laidKinds := [.data, .handle], laidTests := true, laidLooks := .later }
def TrackEndsUptoCardSaid : Prop := Claim7.holds Tryd.pinned (.plain (OpenSpec.upto trackEndsSpec)) trackEndsUptoCard
end Rows
end Go.Proofs.YtiigoeecklelpaaDoor
