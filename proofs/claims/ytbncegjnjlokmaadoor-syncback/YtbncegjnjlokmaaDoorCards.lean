/-
  DERIVED. GIVEN WITH THE SEED: THE CARDS: each row of YtbncegjnjlokmaaDoorRows.lean that lists a variable, with what it lists TIED to the program's text (the seventh form; the later family's looks); each row that meets fmt, with fmt's text TOLD by the authors' own Lean function (tested against real Go, not proved from fmt's source: count such statements apart). THE CARD IS WHAT COUNTS. Prove the row's statement (the work); the ties are given (YtbncegjnjlokmaaDoorTie.lean); close each card by the builder's one call (the guide's Derived/Test/ToyasCard.lean, 'card_holds'). Laid BY PROGRAM, IN A SANDBOX (cutbox-door.mjs). By AI agents, Wed Nov 11 2026. No macro, syntax, notation, axiom, sorry.
-/
import Derived.Test.YtbncegjnjlokmaaDoorRows
import GoSem.ClaimSeven
namespace Go.Proofs.YtbncegjnjlokmaaDoor
namespace Rows

/-- THE TIED CARD OF 'portlaw2.SyncNotes'. -/
def syncNotesCard : Claim7 := { stood := { row := syncNotesRow, standIns := [], harness := (true, "abda21633ca85cbb9f4babeb4fb8a501adbbdb3f470a370ac7ef3df1237b6e74"), looks := true }, kinds := [], alts := [], laidByText := true, laidKinds := [.data, .handle], laidTests := true, laidLooks := .later }
def SyncNotesCardSaid : Prop := Claim7.holds Tryd.pinned (.plain (OpenSpec.ofChange syncNotesSpec)) syncNotesCard

/-- THE TIED CARD OF 'portlaw2.SyncBack'. -/
def syncBackCard : Claim7 := { stood := { row := syncBackRow, standIns := [], harness := (true, "abda21633ca85cbb9f4babeb4fb8a501adbbdb3f470a370ac7ef3df1237b6e74"), looks := true }, kinds := [], alts := [], laidByText := true, laidKinds := [.data, .handle], laidTests := true, laidLooks := .later }
def SyncBackCardSaid : Prop := Claim7.holds Tryd.pinned (.plain (OpenSpec.ofChange syncBackSpec)) syncBackCard

/-- THE TIED CARD OF 'portlaw2.SyncTells'. -/
def syncTellsCard : Claim7 := { stood := { row := syncTellsRow, standIns := [], harness := (true, "abda21633ca85cbb9f4babeb4fb8a501adbbdb3f470a370ac7ef3df1237b6e74"), looks := true }, kinds := [], alts := [], laidByText := true, laidKinds := [.data, .handle], laidTests := true, laidLooks := .later }
def SyncTellsCardSaid : Prop := Claim7.holds Tryd.pinned (.plain (OpenSpec.ofChange syncTellsSpec)) syncTellsCard

/-- THE TIED CARD OF 'portlaw2.SyncHears'. -/
def syncHearsCard : Claim7 := { stood := { row := syncHearsRow, standIns := [], harness := (true, "abda21633ca85cbb9f4babeb4fb8a501adbbdb3f470a370ac7ef3df1237b6e74"), looks := true }, kinds := [], alts := [], laidByText := true, laidKinds := [.data], laidTests := true, laidLooks := .later }
def SyncHearsCardSaid : Prop := Claim7.holds Tryd.pinned (.plain (OpenSpec.ofChange syncHearsSpec)) syncHearsCard

/-- THE SECOND FORM's CARD OF 'portlaw2.SyncNotes'. -/
def syncNotesUptoCard : Claim7 := { stood := { row := syncNotesUptoRow, standIns := [], harness := (true, "abda21633ca85cbb9f4babeb4fb8a501adbbdb3f470a370ac7ef3df1237b6e74"), looks := true }, kinds := [], alts := [], laidByText := true, laidKinds := [.data, .handle], laidTests := true, laidLooks := .later }
def SyncNotesUptoCardSaid : Prop := Claim7.holds Tryd.pinned (.plain (OpenSpec.upto syncNotesSpec)) syncNotesUptoCard

/-- THE SECOND FORM's CARD OF 'portlaw2.SyncBack'. -/
def syncBackUptoCard : Claim7 := { stood := { row := syncBackUptoRow, standIns := [], harness := (true, "abda21633ca85cbb9f4babeb4fb8a501adbbdb3f470a370ac7ef3df1237b6e74"), looks := true }, kinds := [], alts := [], laidByText := true, laidKinds := [.data, .handle], laidTests := true, laidLooks := .later }
def SyncBackUptoCardSaid : Prop := Claim7.holds Tryd.pinned (.plain (OpenSpec.upto syncBackSpec)) syncBackUptoCard

/-- THE SECOND FORM's CARD OF 'portlaw2.SyncTells'. -/
def syncTellsUptoCard : Claim7 := { stood := { row := syncTellsUptoRow, standIns := [], harness := (true, "abda21633ca85cbb9f4babeb4fb8a501adbbdb3f470a370ac7ef3df1237b6e74"), looks := true }, kinds := [], alts := [], laidByText := true, laidKinds := [.data, .handle], laidTests := true, laidLooks := .later }
def SyncTellsUptoCardSaid : Prop := Claim7.holds Tryd.pinned (.plain (OpenSpec.upto syncTellsSpec)) syncTellsUptoCard

/-- THE SECOND FORM's CARD OF 'portlaw2.SyncHears'. -/
def syncHearsUptoCard : Claim7 := { stood := { row := syncHearsUptoRow, standIns := [], harness := (true, "abda21633ca85cbb9f4babeb4fb8a501adbbdb3f470a370ac7ef3df1237b6e74"), looks := true }, kinds := [], alts := [], laidByText := true, laidKinds := [.data], laidTests := true, laidLooks := .later }
def SyncHearsUptoCardSaid : Prop := Claim7.holds Tryd.pinned (.plain (OpenSpec.upto syncHearsSpec)) syncHearsUptoCard
end Rows
end Go.Proofs.YtbncegjnjlokmaaDoor
