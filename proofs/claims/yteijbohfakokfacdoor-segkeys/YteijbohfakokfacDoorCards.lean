/-
  DERIVED. GIVEN WITH THE SEED: THE CARDS: each row of YteijbohfakokfacDoorRows.lean that lists a variable, with what it lists TIED to the program's text (the seventh form; the later family's looks); each row that meets fmt, with fmt's text TOLD by the authors' own Lean function (tested against real Go, not proved from fmt's source: count such statements apart). THE CARD IS WHAT COUNTS. Prove the row's statement (the work); the ties are given (YteijbohfakokfacDoorTie.lean); close each card by the builder's one call (the guide's Derived/Test/ToyasCard.lean, 'card_holds'). Laid BY PROGRAM, IN A SANDBOX (cutbox-door.mjs). By AI agents, Wed Nov 11 2026. No macro, syntax, notation, axiom, sorry.
-/
import Derived.Test.YteijbohfakokfacDoorRows
import GoSem.ClaimSeven
namespace Go.Proofs.YteijbohfakokfacDoor
namespace Rows

/-- THE TIED CARD OF 'portlaw1.SegKeys'. -/
def segKeysCard : Claim7 := { stood := { row := segKeysRow, standIns := [], harness := (true, "cd7047a65538b93b64e0c3dbe5a6b5af4f03bfeb94d8d1dff22ac57767714309"), looks := true }, kinds := [], alts := [], laidByText := true, laidKinds := [.handle], laidTests := true, laidLooks := .later }
def SegKeysCardSaid : Prop := Claim7.holds Tryd.pinned (.plain (OpenSpec.ofChange segKeysSpec)) segKeysCard

/-- THE TIED CARD OF 'portlaw4.SegFlips'. -/
def segFlipsCard : Claim7 := { stood := { row := segFlipsRow, standIns := [], harness := (true, "cd7047a65538b93b64e0c3dbe5a6b5af4f03bfeb94d8d1dff22ac57767714309"), looks := true }, kinds := [], alts := [], laidByText := true, laidKinds := [.handle], laidTests := true, laidLooks := .later }
def SegFlipsCardSaid : Prop := Claim7.holds Tryd.pinned (.plain (OpenSpec.ofChange segFlipsSpec)) segFlipsCard

/-- THE SECOND FORM's CARD OF 'portlaw1.SegKeys'. -/
def segKeysUptoCard : Claim7 := { stood := { row := segKeysUptoRow, standIns := [], harness := (true, "cd7047a65538b93b64e0c3dbe5a6b5af4f03bfeb94d8d1dff22ac57767714309"), looks := true }, kinds := [], alts := [], laidByText := true, laidKinds := [.handle], laidTests := true, laidLooks := .later }
def SegKeysUptoCardSaid : Prop := Claim7.holds Tryd.pinned (.plain (OpenSpec.upto segKeysSpec)) segKeysUptoCard

/-- THE SECOND FORM's CARD OF 'portlaw4.SegFlips'. -/
def segFlipsUptoCard : Claim7 := { stood := { row := segFlipsUptoRow, standIns := [], harness := (true, "cd7047a65538b93b64e0c3dbe5a6b5af4f03bfeb94d8d1dff22ac57767714309"), looks := true }, kinds := [], alts := [], laidByText := true, laidKinds := [.handle], laidTests := true, laidLooks := .later }
def SegFlipsUptoCardSaid : Prop := Claim7.holds Tryd.pinned (.plain (OpenSpec.upto segFlipsSpec)) segFlipsUptoCard
end Rows
end Go.Proofs.YteijbohfakokfacDoor
