/-
  DERIVED. GIVEN WITH THE SEED: THE CARDS: each row of YtlfckmigbeanhacDoorRows.lean that lists a variable, with what it lists TIED to the program's text (the seventh form; the later family's looks); each row that meets fmt, with fmt's text TOLD by the authors' own Lean function (tested against real Go, not proved from fmt's source: count such statements apart). THE CARD IS WHAT COUNTS. Prove the row's statement (the work); the ties are given (YtlfckmigbeanhacDoorTie.lean); close each card by the builder's one call (the guide's Derived/Test/ToyasCard.lean, 'card_holds'). Laid BY PROGRAM, IN A SANDBOX (cutbox-door.mjs). By AI agents, Wed Nov 11 2026. No macro, syntax, notation, axiom, sorry.
-/
import Derived.Test.YtlfckmigbeanhacDoorRows
import GoSem.ClaimSeven
namespace Go.Proofs.YtlfckmigbeanhacDoor
namespace Rows

/-- THE TIED CARD OF 'portlaw1.SegKeys'. -/
def segKeysCard : Claim7 := { stood := { row := segKeysRow, standIns := [], harness := (true, "9d93408c313f7aa12e8e37f2b2a7f8eba1e3f5b52ad01d4b27b7c1fa6c42604b"), looks := true }, kinds := [], alts := [], laidByText := true, laidKinds := [.handle], laidTests := true, laidLooks := .later }
def SegKeysCardSaid : Prop := Claim7.holds Tryd.pinned (.plain (OpenSpec.ofChange segKeysSpec)) segKeysCard

/-- THE TIED CARD OF 'portlaw4.SegFlips'. -/
def segFlipsCard : Claim7 := { stood := { row := segFlipsRow, standIns := [], harness := (true, "9d93408c313f7aa12e8e37f2b2a7f8eba1e3f5b52ad01d4b27b7c1fa6c42604b"), looks := true }, kinds := [], alts := [], laidByText := true, laidKinds := [.handle], laidTests := true, laidLooks := .later }
def SegFlipsCardSaid : Prop := Claim7.holds Tryd.pinned (.plain (OpenSpec.ofChange segFlipsSpec)) segFlipsCard

/-- THE TIED CARD OF 'portlaw2.FragSplits'. -/
def fragSplitsCard : Claim7 := { stood := { row := fragSplitsRow, standIns := [], harness := (true, "9d93408c313f7aa12e8e37f2b2a7f8eba1e3f5b52ad01d4b27b7c1fa6c42604b"), looks := true }, kinds := [], alts := [], laidByText := true, laidKinds := [.handle], laidTests := true, laidLooks := .later }
def FragSplitsCardSaid : Prop := Claim7.holds Tryd.pinned (.plain (OpenSpec.ofChange fragSplitsSpec)) fragSplitsCard

/-- THE TIED CARD OF 'portlaw2.FragPlays'. -/
def fragPlaysCard : Claim7 := { stood := { row := fragPlaysRow, standIns := [], harness := (true, "9d93408c313f7aa12e8e37f2b2a7f8eba1e3f5b52ad01d4b27b7c1fa6c42604b"), looks := true }, kinds := [], alts := [], laidByText := true, laidKinds := [.handle], laidTests := true, laidLooks := .later }
def FragPlaysCardSaid : Prop := Claim7.holds Tryd.pinned (.plain (OpenSpec.ofChange fragPlaysSpec)) fragPlaysCard

/-- THE TIED CARD OF 'portlaw2.FragBack'. -/
def fragBackCard : Claim7 := { stood := { row := fragBackRow, standIns := [], harness := (true, "9d93408c313f7aa12e8e37f2b2a7f8eba1e3f5b52ad01d4b27b7c1fa6c42604b"), looks := true }, kinds := [], alts := [], laidByText := true, laidKinds := [.handle], laidTests := true, laidLooks := .later }
def FragBackCardSaid : Prop := Claim7.holds Tryd.pinned (.plain (OpenSpec.ofChange fragBackSpec)) fragBackCard

/-- THE SECOND FORM's CARD OF 'portlaw1.SegKeys'. -/
def segKeysUptoCard : Claim7 := { stood := { row := segKeysUptoRow, standIns := [], harness := (true, "9d93408c313f7aa12e8e37f2b2a7f8eba1e3f5b52ad01d4b27b7c1fa6c42604b"), looks := true }, kinds := [], alts := [], laidByText := true, laidKinds := [.handle], laidTests := true, laidLooks := .later }
def SegKeysUptoCardSaid : Prop := Claim7.holds Tryd.pinned (.plain (OpenSpec.upto segKeysSpec)) segKeysUptoCard

/-- THE SECOND FORM's CARD OF 'portlaw4.SegFlips'. -/
def segFlipsUptoCard : Claim7 := { stood := { row := segFlipsUptoRow, standIns := [], harness := (true, "9d93408c313f7aa12e8e37f2b2a7f8eba1e3f5b52ad01d4b27b7c1fa6c42604b"), looks := true }, kinds := [], alts := [], laidByText := true, laidKinds := [.handle], laidTests := true, laidLooks := .later }
def SegFlipsUptoCardSaid : Prop := Claim7.holds Tryd.pinned (.plain (OpenSpec.upto segFlipsSpec)) segFlipsUptoCard

/-- THE SECOND FORM's CARD OF 'portlaw2.FragSplits'. -/
def fragSplitsUptoCard : Claim7 := { stood := { row := fragSplitsUptoRow, standIns := [], harness := (true, "9d93408c313f7aa12e8e37f2b2a7f8eba1e3f5b52ad01d4b27b7c1fa6c42604b"), looks := true }, kinds := [], alts := [], laidByText := true, laidKinds := [.handle], laidTests := true, laidLooks := .later }
def FragSplitsUptoCardSaid : Prop := Claim7.holds Tryd.pinned (.plain (OpenSpec.upto fragSplitsSpec)) fragSplitsUptoCard

/-- THE SECOND FORM's CARD OF 'portlaw2.FragPlays'. -/
def fragPlaysUptoCard : Claim7 := { stood := { row := fragPlaysUptoRow, standIns := [], harness := (true, "9d93408c313f7aa12e8e37f2b2a7f8eba1e3f5b52ad01d4b27b7c1fa6c42604b"), looks := true }, kinds := [], alts := [], laidByText := true, laidKinds := [.handle], laidTests := true, laidLooks := .later }
def FragPlaysUptoCardSaid : Prop := Claim7.holds Tryd.pinned (.plain (OpenSpec.upto fragPlaysSpec)) fragPlaysUptoCard

/-- THE SECOND FORM's CARD OF 'portlaw2.FragBack'. -/
def fragBackUptoCard : Claim7 := { stood := { row := fragBackUptoRow, standIns := [], harness := (true, "9d93408c313f7aa12e8e37f2b2a7f8eba1e3f5b52ad01d4b27b7c1fa6c42604b"), looks := true }, kinds := [], alts := [], laidByText := true, laidKinds := [.handle], laidTests := true, laidLooks := .later }
def FragBackUptoCardSaid : Prop := Claim7.holds Tryd.pinned (.plain (OpenSpec.upto fragBackSpec)) fragBackUptoCard
end Rows
end Go.Proofs.YtlfckmigbeanhacDoor
