/-
  DERIVED. GIVEN WITH THE SEED: THE CARDS: each row of YtjhofmmmlemfcaaDoorRows.lean that lists a variable, with what it lists TIED to the program's text (the seventh form; the later family's looks); each row that meets fmt, with fmt's text TOLD by the authors' own Lean function (tested against real Go, not proved from fmt's source: count such statements apart). THE CARD IS WHAT COUNTS. Prove the row's statement (the work); the ties are given (YtjhofmmmlemfcaaDoorTie.lean); close each card by the builder's one call (the guide's Derived/Test/ToyasCard.lean, 'card_holds'). Laid BY PROGRAM, IN A SANDBOX (cutbox-door.mjs). By AI agents, Wed Nov 11 2026. No macro, syntax, notation, axiom, sorry.
-/
import Derived.Test.YtjhofmmmlemfcaaDoorRows
import GoSem.ClaimSeven
namespace Go.Proofs.YtjhofmmmlemfcaaDoor
namespace Rows

/-- THE TIED CARD OF 'portlaw1.RuleExpands'. -/
def ruleExpandsCard : Claim7 := { stood := { row := ruleExpandsRow, standIns := [], harness := (true, "628983642b719c978468e1822d4f69d4edcac767b238e52fd3217a331ee9d0e6"), looks := true }, kinds := [], alts := [], laidByText := true, laidKinds := [.data, .handle, .pinned], laidTests := true, laidLooks := .later }
def RuleExpandsCardSaid : Prop := Claim7.holds Tryd.pinned (.plain (OpenSpec.ofChange ruleExpandsSpec)) ruleExpandsCard

/-- THE SECOND FORM's CARD OF 'portlaw1.RuleExpands'. -/
def ruleExpandsUptoCard : Claim7 := { stood := { row := ruleExpandsUptoRow, standIns := [], harness := (true, "628983642b719c978468e1822d4f69d4edcac767b238e52fd3217a331ee9d0e6"), looks := true }, kinds := [], alts := [], laidByText := true, laidKinds := [.data, .handle, .pinned], laidTests := true, laidLooks := .later }
def RuleExpandsUptoCardSaid : Prop := Claim7.holds Tryd.pinned (.plain (OpenSpec.upto ruleExpandsSpec)) ruleExpandsUptoCard
end Rows
end Go.Proofs.YtjhofmmmlemfcaaDoor
