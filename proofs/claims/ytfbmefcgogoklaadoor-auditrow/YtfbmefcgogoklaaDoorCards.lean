/-
  DERIVED. GIVEN WITH THE SEED: THE CARDS: each row of YtfbmefcgogoklaaDoorRows.lean that lists a variable, with what it lists TIED to the program's text (the seventh form; the later family's looks); each row that meets fmt, with fmt's text TOLD by the authors' own Lean function (tested against real Go, not proved from fmt's source: count such statements apart). THE CARD IS WHAT COUNTS. Prove the row's statement (the work); the ties are given (YtfbmefcgogoklaaDoorTie.lean); close each card by the builder's one call (the guide's Derived/Test/ToyasCard.lean, 'card_holds'). Laid BY PROGRAM, IN A SANDBOX (cutbox-door.mjs). By AI agents, Wed Nov 11 2026. No macro, syntax, notation, axiom, sorry.
-/
import Derived.Test.YtfbmefcgogoklaaDoorRows
import GoSem.ClaimSeven
namespace Go.Proofs.YtfbmefcgogoklaaDoor
namespace Rows

/-- THE TIED CARD OF 'portlaw3.AuditChecks'. -/
def auditChecksCard : Claim7 := { stood := { row := auditChecksRow, standIns := [], harness := (true, "dc6fe429babcf6e605176d900b19b73be49fb90985b8bd5dc69e25501e7b2f9a"), looks := true }, kinds := [], alts := [], laidByText := true, laidKinds := [.handle], laidTests := true, laidLooks := .later }
def AuditChecksCardSaid : Prop := Claim7.holds Tryd.pinned (.plain (OpenSpec.ofChange auditChecksSpec)) auditChecksCard

/-- THE TIED CARD OF 'portlaw4.AuditRow'. -/
def auditRowCard : Claim7 := { stood := { row := auditRowRow, standIns := [], harness := (true, "dc6fe429babcf6e605176d900b19b73be49fb90985b8bd5dc69e25501e7b2f9a"), looks := true }, kinds := [], alts := [], laidByText := true, laidKinds := [.handle], laidTests := true, laidLooks := .later }
def AuditRowCardSaid : Prop := Claim7.holds Tryd.pinned (.plain (OpenSpec.ofChange auditRowSpec)) auditRowCard

/-- THE SECOND FORM's CARD OF 'portlaw3.AuditChecks'. -/
def auditChecksUptoCard : Claim7 := { stood := { row := auditChecksUptoRow, standIns := [], harness := (true, "dc6fe429babcf6e605176d900b19b73be49fb90985b8bd5dc69e25501e7b2f9a"), looks := true }, kinds := [], alts := [], laidByText := true, laidKinds := [.handle], laidTests := true, laidLooks := .later }
def AuditChecksUptoCardSaid : Prop := Claim7.holds Tryd.pinned (.plain (OpenSpec.upto auditChecksSpec)) auditChecksUptoCard

/-- THE SECOND FORM's CARD OF 'portlaw4.AuditRow'. -/
def auditRowUptoCard : Claim7 := { stood := { row := auditRowUptoRow, standIns := [], harness := (true, "dc6fe429babcf6e605176d900b19b73be49fb90985b8bd5dc69e25501e7b2f9a"), looks := true }, kinds := [], alts := [], laidByText := true, laidKinds := [.handle], laidTests := true, laidLooks := .later }
def AuditRowUptoCardSaid : Prop := Claim7.holds Tryd.pinned (.plain (OpenSpec.upto auditRowSpec)) auditRowUptoCard
end Rows
end Go.Proofs.YtfbmefcgogoklaaDoor
