/-
  NARROWER THAN 'FOR EVERY INPUT', by the rows' own cells (each row's printed sentence says how): TrackSteps: laid · TrackTalks: laid · TableFull: laid.
  DERIVED. THE GIVEN ROWS OF THIS SEAT. 3 by the template 'for every input the law returns true; each argument reads behind the call as it read before'; 0 by the template 'total and deterministic' (their statements: YtdhjfjnjdkmhjaaDoorTotals.lean).
  GIVEN WITH THE SEED: the statements are not yours to turn. If you find one false, say at which input.
  Laid BY PROGRAM, IN A SANDBOX (cutbox-rows.mjs): the forced cells as the released guide's own fill.sh prints them over the translation daf2af6d9cef45e6… (all of the seat's roots in one cut). By AI agents, Wed Nov 11 2026. No macro, syntax, notation, axiom, sorry.
-/
import Derived.Test.YtdhjfjnjdkmhjaaDoorChecked
import GoSem.Claim
import GoSem.ClaimJoined
import GoSem.ClaimMapViews
import Derived.JoinedTies
import Derived.KernelRfl
namespace Go.Proofs.YtdhjfjnjdkmhjaaDoor
/- THE CELL 'sum', in the pinned program and in every row, IS THE sha256 OF THE DUMP (.gsa) THAT YtdhjfjnjdkmhjaaDoorProg.lean LOADS. Nothing in Lean hashes anything: it is a label: what it is worth is what the hold of that sum in a sandbox is worth. -/
noncomputable def Tryd.pinned : Pinned := { name := "ytdhjfjnjdkmhjaadoor", sum := "daf2af6d9cef45e6ea9e627fb4a93d5ad904d48bd0493403bebfa20d41184746", checked := Tryd.checked }
namespace Rows
def none {H : Type} : Left H := { results := [], args := [] }

/- WHAT THE LISTED PACKAGE-LEVEL VARIABLES READ AS WHEN THE CALL BEGINS. Each datum BY PROGRAM (the guide's laid-datum.mjs) off the statement by which the dump's own 'gosem.cut.vars' lays the variable. In a bare row this is a premise. The card (YtdhjfjnjdkmhjaaDoorCards.lean) ties it to the program's text. -/
def laid_portcullis_track_lives {H : Type} : DataW H := .agg [.agg [.lit (.int .i64 0), .lit (.int .i64 0), .lit (.int .i64 0), .lit (.int .i64 0), .lit (.int .i64 0)], .agg [.lit (.int .i64 0), .lit (.int .i64 30), .lit (.int .i64 300), .lit (.int .i64 60), .lit (.int .i64 10)], .agg [.lit (.int .i64 0), .lit (.int .i64 30), .lit (.int .i64 60), .lit (.int .i64 0), .lit (.int .i64 0)], .agg [.lit (.int .i64 0), .lit (.int .i64 10), .lit (.int .i64 20), .lit (.int .i64 0), .lit (.int .i64 0)]]
def laid_errors_errorType {H : Type} : DataW H := .iface "internal/reflectlite.rtype" (.agg [.ptr (.lit (.string [101, 114, 114, 111, 114]))])

/-- 'portlaw2.TrackSteps': WHATEVER THE INPUT: true; the input reads as it did. -/
def trackStepsSpec : ChangeSpec := { name := "trackSteps", fn := fun _ => fun
  | [d1, d2, d3, d4, d5, d6, d7] => { results := [.lit (.bool true)], args := [d1, d2, d3, d4, d5, d6, d7] }
  | _ => none }
def trackStepsRow : OpenClaim := { program := "ytdhjfjnjdkmhjaadoor", sum := "daf2af6d9cef45e6ea9e627fb4a93d5ad904d48bd0493403bebfa20d41184746", func := "portcullis/portlaw2.TrackSteps", spec := "trackSteps", inPlace := ["internal/reflectlite.ValueOf", "(internal/reflectlite.Value).Type", "(internal/reflectlite.Value).IsNil", "internal/reflectlite.TypeOf", "(internal/reflectlite.Value).Elem", "(internal/reflectlite.Value).Set"], unfollowed := true, recurses := true, named := ["portcullis/track.lives", "errors.errorType"], plainKeys := false, apart := false, laid := [("portcullis/track.lives", laid_portcullis_track_lives), ("errors.errorType", laid_errors_errorType)] }
def TrackStepsSaid : Prop := trackStepsRow.holds Tryd.pinned (OpenSpec.ofChange trackStepsSpec)

/-- ITS FALSE NEIGHBOUR: 'it returns false'. Refute it at one input. -/
def trackStepsWrong : ChangeSpec := { name := "trackSteps", fn := fun _ => fun
  | [d1, d2, d3, d4, d5, d6, d7] => { results := [.lit (.bool false)], args := [d1, d2, d3, d4, d5, d6, d7] }
  | _ => none }
def TrackStepsWrongFalsely : Prop := trackStepsRow.holds Tryd.pinned (OpenSpec.ofChange trackStepsWrong)

/-- 'portlaw2.TrackTalks': WHATEVER THE INPUT: true; the input reads as it did. -/
def trackTalksSpec : ChangeSpec := { name := "trackTalks", fn := fun _ => fun
  | [d1, d2, d3, d4, d5] => { results := [.lit (.bool true)], args := [d1, d2, d3, d4, d5] }
  | _ => none }
def trackTalksRow : OpenClaim := { program := "ytdhjfjnjdkmhjaadoor", sum := "daf2af6d9cef45e6ea9e627fb4a93d5ad904d48bd0493403bebfa20d41184746", func := "portcullis/portlaw2.TrackTalks", spec := "trackTalks", inPlace := ["internal/reflectlite.ValueOf", "(internal/reflectlite.Value).Type", "(internal/reflectlite.Value).IsNil", "internal/reflectlite.TypeOf", "(internal/reflectlite.Value).Elem", "(internal/reflectlite.Value).Set"], unfollowed := true, recurses := true, named := ["portcullis/track.lives", "errors.errorType"], plainKeys := false, apart := false, laid := [("portcullis/track.lives", laid_portcullis_track_lives), ("errors.errorType", laid_errors_errorType)] }
def TrackTalksSaid : Prop := trackTalksRow.holds Tryd.pinned (OpenSpec.ofChange trackTalksSpec)

/-- ITS FALSE NEIGHBOUR: 'it returns false'. Refute it at one input. -/
def trackTalksWrong : ChangeSpec := { name := "trackTalks", fn := fun _ => fun
  | [d1, d2, d3, d4, d5] => { results := [.lit (.bool false)], args := [d1, d2, d3, d4, d5] }
  | _ => none }
def TrackTalksWrongFalsely : Prop := trackTalksRow.holds Tryd.pinned (OpenSpec.ofChange trackTalksWrong)

/-- 'portlaw4.TableFull': WHATEVER THE INPUT: true; the input reads as it did. -/
def tableFullSpec : ChangeSpec := { name := "tableFull", fn := fun _ => fun
  | [d1, d2] => { results := [.lit (.bool true)], args := [d1, d2] }
  | _ => none }
def tableFullRow : OpenClaim := { program := "ytdhjfjnjdkmhjaadoor", sum := "daf2af6d9cef45e6ea9e627fb4a93d5ad904d48bd0493403bebfa20d41184746", func := "portcullis/portlaw4.TableFull", spec := "tableFull", inPlace := ["maps.clone", "internal/reflectlite.ValueOf", "(internal/reflectlite.Value).Type", "(internal/reflectlite.Value).IsNil", "internal/reflectlite.TypeOf", "(internal/reflectlite.Value).Elem", "(internal/reflectlite.Value).Set"], unfollowed := true, recurses := true, named := ["portcullis/track.lives", "errors.errorType"], plainKeys := false, apart := false, laid := [("portcullis/track.lives", laid_portcullis_track_lives), ("errors.errorType", laid_errors_errorType)] }
def TableFullSaid : Prop := tableFullRow.holds Tryd.pinned (OpenSpec.ofChange tableFullSpec)

/-- ITS FALSE NEIGHBOUR: 'it returns false'. Refute it at one input. -/
def tableFullWrong : ChangeSpec := { name := "tableFull", fn := fun _ => fun
  | [d1, d2] => { results := [.lit (.bool false)], args := [d1, d2] }
  | _ => none }
def TableFullWrongFalsely : Prop := tableFullRow.holds Tryd.pinned (OpenSpec.ofChange tableFullWrong)

/- THE SECOND FORM. 'bulk': how many values and letters a reading holds, each counted each time it is reached (what is shared counts as often as it is met; a slice's spare places count too). A statement '..UptoSaid' is the law's where the arguments, and the package variables that the reading takes, are together of bulk at most 1048576: NARROWER than '..Said'. Prove '..Said' where nothing that the law and all that it calls make is longer than what came in: it says more and counts as full. Else prove '..UptoSaid'. A law counts once. -/
mutual
def uptoBulk {H : Type} : DataW H → Nat
  | .lit (.string bytes) => bytes.length + 1
  | .lit _ => 1
  | .nil => 1
  | .ptr d => uptoBulk d + 1
  | .slice elems spare => uptoBulkAll elems + uptoBulkAll spare + 1
  | .agg parts => uptoBulkAll parts + 1
  | .iface _ d => uptoBulk d + 1
  | .map entries => uptoBulkEntries entries + 1
  | .held _ => 1
def uptoBulkAll {H : Type} : List (DataW H) → Nat
  | [] => 0
  | d :: r => uptoBulk d + uptoBulkAll r
def uptoBulkEntries {H : Type} : List (Lit × DataW H) → Nat
  | [] => 0
  | x :: r => uptoBulkEntry x + uptoBulkEntries r
def uptoBulkEntry {H : Type} : Lit × DataW H → Nat
  | (.string bytes, d) => bytes.length + uptoBulk d + 1
  | (_, d) => uptoBulk d + 1
 end
def uptoSmall : (H : Type) → List (DataW H) → Bool := fun _ ds => decide (uptoBulkAll ds ≤ 1048576)
def OpenSpec.upto (s : _root_.Go.ChangeSpec) : _root_.Go.OpenSpec := { _root_.Go.OpenSpec.ofChange s with cond := some uptoSmall }

/-- 'portlaw2.TrackSteps', WHERE WHAT IT READS IS OF BULK AT MOST 1048576: true; the input reads as it did. -/
def trackStepsUptoRow : OpenClaim := { program := "ytdhjfjnjdkmhjaadoor", sum := "daf2af6d9cef45e6ea9e627fb4a93d5ad904d48bd0493403bebfa20d41184746", func := "portcullis/portlaw2.TrackSteps", spec := "trackSteps", inPlace := ["internal/reflectlite.ValueOf", "(internal/reflectlite.Value).Type", "(internal/reflectlite.Value).IsNil", "internal/reflectlite.TypeOf", "(internal/reflectlite.Value).Elem", "(internal/reflectlite.Value).Set"], unfollowed := true, recurses := true, named := ["portcullis/track.lives", "errors.errorType"], plainKeys := false, apart := false, laid := [("portcullis/track.lives", laid_portcullis_track_lives), ("errors.errorType", laid_errors_errorType)], narrowed := true }
def TrackStepsUptoSaid : Prop := trackStepsUptoRow.holds Tryd.pinned (OpenSpec.upto trackStepsSpec)

/-- 'portlaw2.TrackTalks', WHERE WHAT IT READS IS OF BULK AT MOST 1048576: true; the input reads as it did. -/
def trackTalksUptoRow : OpenClaim := { program := "ytdhjfjnjdkmhjaadoor", sum := "daf2af6d9cef45e6ea9e627fb4a93d5ad904d48bd0493403bebfa20d41184746", func := "portcullis/portlaw2.TrackTalks", spec := "trackTalks", inPlace := ["internal/reflectlite.ValueOf", "(internal/reflectlite.Value).Type", "(internal/reflectlite.Value).IsNil", "internal/reflectlite.TypeOf", "(internal/reflectlite.Value).Elem", "(internal/reflectlite.Value).Set"], unfollowed := true, recurses := true, named := ["portcullis/track.lives", "errors.errorType"], plainKeys := false, apart := false, laid := [("portcullis/track.lives", laid_portcullis_track_lives), ("errors.errorType", laid_errors_errorType)], narrowed := true }
def TrackTalksUptoSaid : Prop := trackTalksUptoRow.holds Tryd.pinned (OpenSpec.upto trackTalksSpec)

/-- 'portlaw4.TableFull', WHERE WHAT IT READS IS OF BULK AT MOST 1048576: true; the input reads as it did. -/
def tableFullUptoRow : OpenClaim := { program := "ytdhjfjnjdkmhjaadoor", sum := "daf2af6d9cef45e6ea9e627fb4a93d5ad904d48bd0493403bebfa20d41184746", func := "portcullis/portlaw4.TableFull", spec := "tableFull", inPlace := ["maps.clone", "internal/reflectlite.ValueOf", "(internal/reflectlite.Value).Type", "(internal/reflectlite.Value).IsNil", "internal/reflectlite.TypeOf", "(internal/reflectlite.Value).Elem", "(internal/reflectlite.Value).Set"], unfollowed := true, recurses := true, named := ["portcullis/track.lives", "errors.errorType"], plainKeys := false, apart := false, laid := [("portcullis/track.lives", laid_portcullis_track_lives), ("errors.errorType", laid_errors_errorType)], narrowed := true }
def TableFullUptoSaid : Prop := tableFullUptoRow.holds Tryd.pinned (OpenSpec.upto tableFullSpec)

end Rows
end Go.Proofs.YtdhjfjnjdkmhjaaDoor
