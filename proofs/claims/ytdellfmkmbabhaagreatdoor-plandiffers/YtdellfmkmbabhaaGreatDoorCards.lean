/-
  DERIVED. GIVEN WITH THE SEED: THE CARDS: each row of YtdellfmkmbabhaaGreatDoorRows.lean that lists a variable, with what it lists TIED to the program's text (the seventh form; the later family's looks); each row that meets fmt, with fmt's text TOLD by the authors' own Lean function (tested against real Go, not proved from fmt's source: count such statements apart). THE CARD IS WHAT COUNTS. Prove the row's statement (the work); the ties are given (YtdellfmkmbabhaaGreatDoorTie.lean); close each card by the builder's one call (the guide's Derived/Test/ToyasCard.lean, 'card_holds'). Laid BY PROGRAM, IN A SANDBOX (cutbox-door.mjs). By AI agents, Wed Nov 11 2026. No macro, syntax, notation, axiom, sorry.
-/
import Derived.Test.YtdellfmkmbabhaaGreatDoorRows
import GoSem.ClaimSeven
namespace Go.Proofs.YtdellfmkmbabhaaGreatDoor
namespace Rows

/-- THE TIED CARD OF 'portlaw1.PlanDiffers'. -/
def planDiffersCard : Claim7 := { stood := { row := planDiffersRow, standIns := [], harness := (true, "281ab3986906fd8aadec4431f5c9c14f88ba137ae131a0c595aedad192bd5a1e"), looks := true }, kinds := [], alts := [], laidByText := true, laidKinds := [.handle], laidTests := true, laidLooks := .later }
def PlanDiffersCardSaid : Prop := Claim7.holds Tryz.pinned (.plain (OpenSpec.ofChange planDiffersSpec)) planDiffersCard

/-- THE SECOND FORM's CARD OF 'portlaw1.PlanDiffers'. -/
def planDiffersUptoCard : Claim7 := { stood := { row := planDiffersUptoRow, standIns := [], harness := (true, "281ab3986906fd8aadec4431f5c9c14f88ba137ae131a0c595aedad192bd5a1e"), looks := true }, kinds := [], alts := [], laidByText := true, laidKinds := [.handle], laidTests := true, laidLooks := .later }
def PlanDiffersUptoCardSaid : Prop := Claim7.holds Tryz.pinned (.plain (OpenSpec.upto planDiffersSpec)) planDiffersUptoCard
end Rows
end Go.Proofs.YtdellfmkmbabhaaGreatDoor
