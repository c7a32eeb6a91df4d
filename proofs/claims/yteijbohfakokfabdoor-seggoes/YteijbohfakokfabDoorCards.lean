/-
  DERIVED. GIVEN WITH THE SEED: THE CARDS: each row of YteijbohfakokfabDoorRows.lean that lists a variable, with what it lists TIED to the program's text (the seventh form; the later family's looks); each row that meets fmt, with fmt's text TOLD by the authors' own Lean function (tested against real Go, not proved from fmt's source: count such statements apart). THE CARD IS WHAT COUNTS. Prove the row's statement (the work); the ties are given (YteijbohfakokfabDoorTie.lean); close each card by the builder's one call (the guide's Derived/Test/ToyasCard.lean, 'card_holds'). Laid BY PROGRAM, IN A SANDBOX (cutbox-door.mjs). By AI agents, Wed Nov 11 2026. No macro, syntax, notation, axiom, sorry.
-/
import Derived.Test.YteijbohfakokfabDoorRows
import GoSem.ClaimSeven
namespace Go.Proofs.YteijbohfakokfabDoor
namespace Rows

/-- THE TIED CARD OF 'portlaw1.AddrBack'. -/
def addrBackCard : Claim7 := { stood := { row := addrBackRow, standIns := [], harness := (true, "9f6eefd6c6f5d7cc7a9672303467954bd49f9e1e7a11b321603e4eb2fe5330a5"), looks := true }, kinds := [], alts := [], laidByText := true, laidKinds := [.data, .data, .data], laidTests := true, laidLooks := .later }
def AddrBackCardSaid : Prop := Claim7.holds Tryd.pinned (.plain (OpenSpec.ofChange addrBackSpec)) addrBackCard

/-- THE TIED CARD OF 'portlaw4.AddrWithin'. -/
def addrWithinCard : Claim7 := { stood := { row := addrWithinRow, standIns := [], harness := (true, "9f6eefd6c6f5d7cc7a9672303467954bd49f9e1e7a11b321603e4eb2fe5330a5"), looks := true }, kinds := [], alts := [], laidByText := true, laidKinds := [.data, .data, .data], laidTests := true, laidLooks := .later }
def AddrWithinCardSaid : Prop := Claim7.holds Tryd.pinned (.plain (OpenSpec.ofChange addrWithinSpec)) addrWithinCard

/-- THE TIED CARD OF 'portlaw1.WireGoes'. -/
def wireGoesCard : Claim7 := { stood := { row := wireGoesRow, standIns := [], harness := (true, "9f6eefd6c6f5d7cc7a9672303467954bd49f9e1e7a11b321603e4eb2fe5330a5"), looks := true }, kinds := [], alts := [], laidByText := true, laidKinds := [.handle], laidTests := true, laidLooks := .later }
def WireGoesCardSaid : Prop := Claim7.holds Tryd.pinned (.plain (OpenSpec.ofChange wireGoesSpec)) wireGoesCard

/-- THE TIED CARD OF 'portlaw1.WireBack'. -/
def wireBackCard : Claim7 := { stood := { row := wireBackRow, standIns := [], harness := (true, "9f6eefd6c6f5d7cc7a9672303467954bd49f9e1e7a11b321603e4eb2fe5330a5"), looks := true }, kinds := [], alts := [], laidByText := true, laidKinds := [.handle], laidTests := true, laidLooks := .later }
def WireBackCardSaid : Prop := Claim7.holds Tryd.pinned (.plain (OpenSpec.ofChange wireBackSpec)) wireBackCard

/-- THE TIED CARD OF 'portlaw1.SegGoes'. -/
def segGoesCard : Claim7 := { stood := { row := segGoesRow, standIns := [], harness := (true, "9f6eefd6c6f5d7cc7a9672303467954bd49f9e1e7a11b321603e4eb2fe5330a5"), looks := true }, kinds := [], alts := [], laidByText := true, laidKinds := [.handle], laidTests := true, laidLooks := .later }
def SegGoesCardSaid : Prop := Claim7.holds Tryd.pinned (.plain (OpenSpec.ofChange segGoesSpec)) segGoesCard

/-- THE SECOND FORM's CARD OF 'portlaw1.AddrBack'. -/
def addrBackUptoCard : Claim7 := { stood := { row := addrBackUptoRow, standIns := [], harness := (true, "9f6eefd6c6f5d7cc7a9672303467954bd49f9e1e7a11b321603e4eb2fe5330a5"), looks := true }, kinds := [], alts := [], laidByText := true, laidKinds := [.data, .data, .data], laidTests := true, laidLooks := .later }
def AddrBackUptoCardSaid : Prop := Claim7.holds Tryd.pinned (.plain (OpenSpec.upto addrBackSpec)) addrBackUptoCard

/-- THE SECOND FORM's CARD OF 'portlaw4.AddrWithin'. -/
def addrWithinUptoCard : Claim7 := { stood := { row := addrWithinUptoRow, standIns := [], harness := (true, "9f6eefd6c6f5d7cc7a9672303467954bd49f9e1e7a11b321603e4eb2fe5330a5"), looks := true }, kinds := [], alts := [], laidByText := true, laidKinds := [.data, .data, .data], laidTests := true, laidLooks := .later }
def AddrWithinUptoCardSaid : Prop := Claim7.holds Tryd.pinned (.plain (OpenSpec.upto addrWithinSpec)) addrWithinUptoCard

/-- THE SECOND FORM's CARD OF 'portlaw1.WireGoes'. -/
def wireGoesUptoCard : Claim7 := { stood := { row := wireGoesUptoRow, standIns := [], harness := (true, "9f6eefd6c6f5d7cc7a9672303467954bd49f9e1e7a11b321603e4eb2fe5330a5"), looks := true }, kinds := [], alts := [], laidByText := true, laidKinds := [.handle], laidTests := true, laidLooks := .later }
def WireGoesUptoCardSaid : Prop := Claim7.holds Tryd.pinned (.plain (OpenSpec.upto wireGoesSpec)) wireGoesUptoCard

/-- THE SECOND FORM's CARD OF 'portlaw1.WireBack'. -/
def wireBackUptoCard : Claim7 := { stood := { row := wireBackUptoRow, standIns := [], harness := (true, "9f6eefd6c6f5d7cc7a9672303467954bd49f9e1e7a11b321603e4eb2fe5330a5"), looks := true }, kinds := [], alts := [], laidByText := true, laidKinds := [.handle], laidTests := true, laidLooks := .later }
def WireBackUptoCardSaid : Prop := Claim7.holds Tryd.pinned (.plain (OpenSpec.upto wireBackSpec)) wireBackUptoCard

/-- THE SECOND FORM's CARD OF 'portlaw1.SegGoes'. -/
def segGoesUptoCard : Claim7 := { stood := { row := segGoesUptoRow, standIns := [], harness := (true, "9f6eefd6c6f5d7cc7a9672303467954bd49f9e1e7a11b321603e4eb2fe5330a5"), looks := true }, kinds := [], alts := [], laidByText := true, laidKinds := [.handle], laidTests := true, laidLooks := .later }
def SegGoesUptoCardSaid : Prop := Claim7.holds Tryd.pinned (.plain (OpenSpec.upto segGoesSpec)) segGoesUptoCard
end Rows
end Go.Proofs.YteijbohfakokfabDoor
