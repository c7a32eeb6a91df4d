/-
  NARROWER THAN 'FOR EVERY INPUT', by the rows' own cells (each row's printed sentence says how): TrackSteps: laid · TrackTalks: laid · TrackKeeps: laid · TrackEnds: laid.
  DERIVED. THE GIVEN ROWS OF THIS SEAT. 4 by the template 'for every input the law returns true; each argument reads behind the call as it read before'; 0 by the template 'total and deterministic' (their statements: YtiigoeecklelpaaDoorTotals.lean).
  GIVEN WITH THE SEED: the statements are not yours to turn. If you find one false, say at which input.
  Laid BY PROGRAM, IN A SANDBOX (cutbox-rows.mjs): the forced cells as the released guide's own fill.sh prints them over the translation b685ef9f3ed2b890… (all of the seat's roots in one cut). By AI agents, Wed Nov 11 2026. No macro, syntax, notation, axiom, sorry.
-/
import Derived.Test.YtiigoeecklelpaaDoorChecked
import GoSem.Claim
import GoSem.ClaimJoined
import GoSem.ClaimMapViews
import Derived.JoinedTies
import Derived.KernelRfl
namespace Go.Proofs.YtiigoeecklelpaaDoor
/- THE CELL 'sum', in the pinned program and in every row, IS THE sha256 OF THE DUMP (.gsa) THAT YtiigoeecklelpaaDoorProg.lean LOADS. Nothing in Lean hashes anything: it is a label: what it is worth is what the hold of that sum in a sandbox is worth. -/
noncomputable def Tryd.pinned : Pinned := { name := "ytiigoeecklelpaadoor", sum := "b685ef9f3ed2b8903bb7621673b98dc7e343f79f1e4574052de12fbde0a83338", checked := Tryd.checked }
namespace Rows
def none {H : Type} : Left H := { results := [], args := [] }

/- WHAT THE LISTED PACKAGE-LEVEL VARIABLES READ AS WHEN THE CALL BEGINS. Each datum BY PROGRAM (the guide's laid-datum.mjs) off the statement by which the dump's own 'gosem.cut.vars' lays the variable. In a bare row this is a premise. The card (YtiigoeecklelpaaDoorCards.lean) ties it to the program's text. -/
def laid_portcullis_track_lives {H : Type} : DataW H := .agg [.agg [.lit (.int .i64 0), .lit (.int .i64 0), .lit (.int .i64 0), .lit (.int .i64 0), .lit (.int .i64 0)], .agg [.lit (.int .i64 0), .lit (.int .i64 30), .lit (.int .i64 300), .lit (.int .i64 60), .lit (.int .i64 10)], .agg [.lit (.int .i64 0), .lit (.int .i64 30), .lit (.int .i64 60), .lit (.int .i64 0), .lit (.int .i64 0)], .agg [.lit (.int .i64 0), .lit (.int .i64 10), .lit (.int .i64 20), .lit (.int .i64 0), .lit (.int .i64 0)]]
def laid_errors_errorType {H : Type} : DataW H := .iface "internal/reflectlite.rtype" (.agg [.ptr (.lit (.string [101, 114, 114, 111, 114]))])

/-- 'portlaw2.TrackSteps': WHATEVER THE INPUT: true; the input reads as it did. -/
def trackStepsSpec : ChangeSpec := { name := "trackSteps", fn := fun _ => fun
  | [d1, d2, d3, d4, d5, d6, d7] => { results := [.lit (.bool true)], args := [d1, d2, d3, d4, d5, d6, d7] }
  | _ => none }
def trackStepsRow : OpenClaim := { program := "ytiigoeecklelpaadoor", sum := "b685ef9f3ed2b8903bb7621673b98dc7e343f79f1e4574052de12fbde0a83338", func := "portcullis/portlaw2.TrackSteps", spec := "trackSteps", inPlace := ["internal/reflectlite.ValueOf", "(internal/reflectlite.Value).Type", "(internal/reflectlite.Value).IsNil", "internal/reflectlite.TypeOf", "(internal/reflectlite.Value).Elem", "(internal/reflectlite.Value).Set"], unfollowed := true, recurses := true, named := ["portcullis/track.lives", "errors.errorType"], apart := false, laid := [("portcullis/track.lives", laid_portcullis_track_lives), ("errors.errorType", laid_errors_errorType)] }
def TrackStepsSaid : Prop := trackStepsRow.holds Tryd.pinned (OpenSpec.ofChange trackStepsSpec)

/-- ITS FALSE NEIGHBOUR: 'it returns false'. Refute it at one input. -/
def trackStepsWrong : ChangeSpec := { name := "trackSteps", fn := fun _ => fun
  | [d1, d2, d3, d4, d5, d6, d7] => { results := [.lit (.bool false)], args := [d1, d2, d3, d4, d5, d6, d7] }
  | _ => none }
def TrackStepsWrongFalsely : Prop := trackStepsRow.holds Tryd.pinned (OpenSpec.ofChange trackStepsWrong)

/-- 'portlaw2.TrackTalks': WHATEVER THE INPUT: true; the input reads as it did. -/
def trackTalksSpec : ChangeSpec := { name := "trackTalks", fn := fun _ => fun
  | [d1, d2, d3, d4, d5] => { results := [.lit (.bool true)], args := [d1, d2, d3, d4, d5] }
  | _ => none }
def trackTalksRow : OpenClaim := { program := "ytiigoeecklelpaadoor", sum := "b685ef9f3ed2b8903bb7621673b98dc7e343f79f1e4574052de12fbde0a83338", func := "portcullis/portlaw2.TrackTalks", spec := "trackTalks", inPlace := ["internal/reflectlite.ValueOf", "(internal/reflectlite.Value).Type", "(internal/reflectlite.Value).IsNil", "internal/reflectlite.TypeOf", "(internal/reflectlite.Value).Elem", "(internal/reflectlite.Value).Set"], unfollowed := true, recurses := true, named := ["portcullis/track.lives", "errors.errorType"], apart := false, laid := [("portcullis/track.lives", laid_portcullis_track_lives), ("errors.errorType", laid_errors_errorType)] }
def TrackTalksSaid : Prop := trackTalksRow.holds Tryd.pinned (OpenSpec.ofChange trackTalksSpec)

/-- ITS FALSE NEIGHBOUR: 'it returns false'. Refute it at one input. -/
def trackTalksWrong : ChangeSpec := { name := "trackTalks", fn := fun _ => fun
  | [d1, d2, d3, d4, d5] => { results := [.lit (.bool false)], args := [d1, d2, d3, d4, d5] }
  | _ => none }
def TrackTalksWrongFalsely : Prop := trackTalksRow.holds Tryd.pinned (OpenSpec.ofChange trackTalksWrong)

/-- 'portlaw2.TrackKeeps': WHATEVER THE INPUT: true; the input reads as it did. -/
def trackKeepsSpec : ChangeSpec := { name := "trackKeeps", fn := fun _ => fun
  | [d1, d2, d3, d4] => { results := [.lit (.bool true)], args := [d1, d2, d3, d4] }
  | _ => none }
def trackKeepsRow : OpenClaim := { program := "ytiigoeecklelpaadoor", sum := "b685ef9f3ed2b8903bb7621673b98dc7e343f79f1e4574052de12fbde0a83338", func := "portcullis/portlaw2.TrackKeeps", spec := "trackKeeps", named := ["portcullis/track.lives"], apart := false, laid := [("portcullis/track.lives", laid_portcullis_track_lives)] }
def TrackKeepsSaid : Prop := trackKeepsRow.holds Tryd.pinned (OpenSpec.ofChange trackKeepsSpec)

/-- ITS FALSE NEIGHBOUR: 'it returns false'. Refute it at one input. -/
def trackKeepsWrong : ChangeSpec := { name := "trackKeeps", fn := fun _ => fun
  | [d1, d2, d3, d4] => { results := [.lit (.bool false)], args := [d1, d2, d3, d4] }
  | _ => none }
def TrackKeepsWrongFalsely : Prop := trackKeepsRow.holds Tryd.pinned (OpenSpec.ofChange trackKeepsWrong)

/-- 'portlaw4.TrackEnds': WHATEVER THE INPUT: true; the input reads as it did. -/
def trackEndsSpec : ChangeSpec := { name := "trackEnds", fn := fun _ => fun
  | [d1, d2, d3, d4, d5] => { results := [.lit (.bool true)], args := [d1, d2, d3, d4, d5] }
  | _ => none }
def trackEndsRow : OpenClaim := { program := "ytiigoeecklelpaadoor", sum := "b685ef9f3ed2b8903bb7621673b98dc7e343f79f1e4574052de12fbde0a83338", func := "portcullis/portlaw4.TrackEnds", spec := "trackEnds", inPlace := ["internal/reflectlite.ValueOf", "(internal/reflectlite.Value).Type", "(internal/reflectlite.Value).IsNil", "internal/reflectlite.TypeOf", "(internal/reflectlite.Value).Elem", "(internal/reflectlite.Value).Set"], unfollowed := true, recurses := true, named := ["portcullis/track.lives", "errors.errorType"], apart := false, laid := [("portcullis/track.lives", laid_portcullis_track_lives), ("errors.errorType", laid_errors_errorType)] }
def TrackEndsSaid : Prop := trackEndsRow.holds Tryd.pinned (OpenSpec.ofChange trackEndsSpec)

/-- ITS FALSE NEIGHBOUR: 'it returns false'. Refute it at one input. -/
def trackEndsWrong : ChangeSpec := { name := "trackEnds", fn := fun _ => fun
  | [d1, d2, d3, d4, d5] => { results := [.lit (.bool false)], args := [d1, d2, d3, d4, d5] }
  | _ => none }
def TrackEndsWrongFalsely : Prop := trackEndsRow.holds Tryd.pinned (OpenSpec.ofChange trackEndsWrong)

/- THE SECOND FORM. 'bulk': how many values and letters a reading holds, each counted each time it is reached (what is shared counts as often as it is met; a slice's spare places count too). A statement '..UptoSaid' is the law's where the arguments, and the package variables that the reading takes, are together of bulk at most 1048576: NARROWER than '..Said'. Prove '..Said' where nothing that the law and all that it calls make is longer than what came in: it says more and counts as full. Else prove '..UptoSaid'. A law counts once. -/
mutual
def uptoBulk {H : Type} : DataW H → Nat
  | .lit (.string bytes) => bytes.length + 1
  | .lit _ => 1
  | .nil => 1
  | .ptr d => uptoBulk d + 1
  | .slice elems spare => uptoBulkAll elems + uptoBulkAll spare + 1
  | .agg parts => uptoBulkAll parts + 1
  | .iface _ d => uptoBulk d + 1
  | .map entries => uptoBulkEntries entries + 1
  | .held _ => 1
def uptoBulkAll {H : Type} : List (DataW H) → Nat
  | [] => 0
  | d :: r => uptoBulk d + uptoBulkAll r
def uptoBulkEntries {H : Type} : List (Lit × DataW H) → Nat
  | [] => 0
  | x :: r => uptoBulkEntry x + uptoBulkEntries r
def uptoBulkEntry {H : Type} : Lit × DataW H → Nat
  | (.string bytes, d) => bytes.length + uptoBulk d + 1
  | (_, d) => uptoBulk d + 1
 end
def uptoSmall : (H : Type) → List (DataW H) → Bool := fun _ ds => decide (uptoBulkAll ds ≤ 1048576)
def OpenSpec.upto (s : _root_.Go.ChangeSpec) : _root_.Go.OpenSpec := { _root_.Go.OpenSpec.ofChange s with cond := some uptoSmall }

/-- 'portlaw2.TrackSteps', WHERE WHAT IT READS IS OF BULK AT MOST 1048576: true; the input reads as it did. -/
def trackStepsUptoRow : OpenClaim := { program := "ytiigoeecklelpaadoor", sum := "b685ef9f3ed2b8903bb7621673b98dc7e343f79f1e4574052de12fbde0a83338", func := "portcullis/portlaw2.TrackSteps", spec := "trackSteps", inPlace := ["internal/reflectlite.ValueOf", "(internal/reflectlite.Value).Type", "(internal/reflectlite.Value).IsNil", "internal/reflectlite.TypeOf", "(internal/reflectlite.Value).Elem", "(internal/reflectlite.Value).Set"], unfollowed := true, recurses := true, named := ["portcullis/track.lives", "errors.errorType"], apart := false, laid := [("portcullis/track.lives", laid_portcullis_track_lives), ("errors.errorType", laid_errors_errorType)], narrowed := true }
def TrackStepsUptoSaid : Prop := trackStepsUptoRow.holds Tryd.pinned (OpenSpec.upto trackStepsSpec)

/-- 'portlaw2.TrackTalks', WHERE WHAT IT READS IS OF BULK AT MOST 1048576: true; the input reads as it did. -/
def trackTalksUptoRow : OpenClaim := { program := "ytiigoeecklelpaadoor", sum := "b685ef9f3ed2b8903bb7621673b98dc7e343f79f1e4574052de12fbde0a83338", func := "portcullis/portlaw2.TrackTalks", spec := "trackTalks", inPlace := ["internal/reflectlite.ValueOf", "(internal/reflectlite.Value).Type", "(internal/reflectlite.Value).IsNil", "internal/reflectlite.TypeOf", "(internal/reflectlite.Value).Elem", "(internal/reflectlite.Value).Set"], unfollowed := true, recurses := true, named := ["portcullis/track.lives", "errors.errorType"], apart := false, laid := [("portcullis/track.lives", laid_portcullis_track_lives), ("errors.errorType", laid_errors_errorType)], narrowed := true }
def TrackTalksUptoSaid : Prop := trackTalksUptoRow.holds Tryd.pinned (OpenSpec.upto trackTalksSpec)

/-- 'portlaw2.TrackKeeps', WHERE WHAT IT READS IS OF BULK AT MOST 1048576: true; the input reads as it did. -/
def trackKeepsUptoRow : OpenClaim := { program := "ytiigoeecklelpaadoor", sum := "b685ef9f3ed2b8903bb7621673b98dc7e343f79f1e4574052de12fbde0a83338", func := "portcullis/portlaw2.TrackKeeps", spec := "trackKeeps", named := ["portcullis/track.lives"], apart := false, laid := [("portcullis/track.lives", laid_portcullis_track_lives)], narrowed := true }
def TrackKeepsUptoSaid : Prop := trackKeepsUptoRow.holds Tryd.pinned (OpenSpec.upto trackKeepsSpec)

/-- 'portlaw4.TrackEnds', WHERE WHAT IT READS IS OF BULK AT MOST 1048576: true; the input reads as it did. -/
def trackEndsUptoRow : OpenClaim := { program := "ytiigoeecklelpaadoor", sum := "b685ef9f3ed2b8903bb7621673b98dc7e343f79f1e4574052de12fbde0a83338", func := "portcullis/portlaw4.TrackEnds", spec := "trackEnds", inPlace := ["internal/reflectlite.ValueOf", "(internal/reflectlite.Value).Type", "(internal/reflectlite.Value).IsNil", "internal/reflectlite.TypeOf", "(internal/reflectlite.Value).Elem", "(internal/reflectlite.Value).Set"], unfollowed := true, recurses := true, named := ["portcullis/track.lives", "errors.errorType"], apart := false, laid := [("portcullis/track.lives", laid_portcullis_track_lives), ("errors.errorType", laid_errors_errorType)], narrowed := true }
def TrackEndsUptoSaid : Prop := trackEndsUptoRow.holds Tryd.pinned (OpenSpec.upto trackEndsSpec)

end Rows
end Go.Proofs.YtiigoeecklelpaaDoor
