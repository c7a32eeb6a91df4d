/- What the rows of this seat list of package track's table of lives (and of errors.errorType) gives the walks ('Lives', 'ErrLaid'), and worlds that meet the lists. -/
import Derived.Test.YtkkefgoidjjehaaDoorOpen
import Derived.Test.YtkkefgoidjjehaaDoorAs
import Derived.Test.YtkkefgoidjjehaaDoorTrkSm
import Derived.Lay
import Derived.LaidSub
import Derived.LaidHandle
import Derived.Lib.LaidTab
import Derived.ProofKit
import Derived.OpenShut
import Derived.ShutString
import Derived.ChangeOld
import Derived.Below
import Derived.SizedLaws
import Derived.LaidLaws
import Derived.RowKitTokens
import Derived.Deep.DeepHandedRow
namespace Go.Proofs.YtkkefgoidjjehaaDoor
open Go.ChangeShapes Go.WideShapes Go.ChangeAt Go.RowKit
set_option linter.unusedVariables false

def tabsLaid : List (String × DataW Unit) := [("portcullis/track.lives", Rows.laid_portcullis_track_lives)]
def doorLaid : List (String × DataW Unit) := [("portcullis/track.lives", Rows.laid_portcullis_track_lives), ("errors.errorType", Rows.laid_errors_errorType)]
theorem doorVar : Tryd.prog.globalNamed "errors.errorType" = some 0 := by kernel_rfl
theorem doorRtype : (Tryd.prog.cutTypes.find? (·.1 == "internal/reflectlite.rtype")).map (·.2) = some 107 := by kernel_rfl
theorem doorOne : ((List.range 151).filter fun t => Tryd.prog.rowNamed t [101, 114, 114, 111, 114]) = [32] := by kernel_rfl
theorem doorSize : Tryd.prog.types.size = 151 := by kernel_rfl

theorem list20 {α : Type} {cs : List α} (h : cs.length = 20) : ∃ c0 c1 c2 c3 c4 c5 c6 c7 c8 c9 c10 c11 c12 c13 c14 c15 c16 c17 c18 c19, cs = [c0, c1, c2, c3, c4, c5, c6, c7, c8, c9, c10, c11, c12, c13, c14, c15, c16, c17, c18, c19] := by
  match cs, h with
  | [c0, c1, c2, c3, c4, c5, c6, c7, c8, c9, c10, c11, c12, c13, c14, c15, c16, c17, c18, c19], _ => exact ⟨c0, c1, c2, c3, c4, c5, c6, c7, c8, c9, c10, c11, c12, c13, c14, c15, c16, c17, c18, c19, rfl⟩
theorem list4 {α : Type} {cs : List α} (h : cs.length = 4) : ∃ c0 c1 c2 c3, cs = [c0, c1, c2, c3] := by
  match cs, h with
  | [c0, c1, c2, c3], _ => exact ⟨c0, c1, c2, c3, rfl⟩
theorem var_cells {P : Program} {W : World} {name : String} {g : Nat} {cs : Array Value} (hg : P.globalNamed name = some g) (h : W.var? P name = some cs) : ∃ ty fz, W.heap[g]? = some (.cells cs ty fz) := by
  simp only [World.var?, hg, Option.bind_some] at h
  split at h <;> simp_all
set_option maxRecDepth 100000 in
/-- The table, as it is listed, row by row. -/
theorem lives_rows {H : Type} {enc : TypeId × Value → H} {w : World} {base : Nat} {sp : Nat → Bool} {held : Bool} {fuel : Nat} {cs : List Value} {p : List MemPlace}
    (h : DataW.trod enc Tryd.prog w base sp held fuel 121 cs = some (.agg [.agg [.lit (.int .i64 0), .lit (.int .i64 0), .lit (.int .i64 0), .lit (.int .i64 0), .lit (.int .i64 0)], .agg [.lit (.int .i64 0), .lit (.int .i64 30), .lit (.int .i64 300), .lit (.int .i64 60), .lit (.int .i64 10)], .agg [.lit (.int .i64 0), .lit (.int .i64 30), .lit (.int .i64 60), .lit (.int .i64 0), .lit (.int .i64 0)], .agg [.lit (.int .i64 0), .lit (.int .i64 10), .lit (.int .i64 20), .lit (.int .i64 0), .lit (.int .i64 0)]], p)) : cs = [.int .i64 0, .int .i64 0, .int .i64 0, .int .i64 0, .int .i64 0, .int .i64 0, .int .i64 30, .int .i64 300, .int .i64 60, .int .i64 10, .int .i64 0, .int .i64 30, .int .i64 60, .int .i64 0, .int .i64 0, .int .i64 0, .int .i64 10, .int .i64 20, .int .i64 0, .int .i64 0] := by
  obtain ⟨xs, m, _, hx, hl, hlen, hf⟩ := DataW.trod_array Tryd.underlying121 h
  obtain ⟨c0, c1, c2, c3, c4, c5, c6, c7, c8, c9, c10, c11, c12, c13, c14, c15, c16, c17, c18, c19, rfl⟩ := list20 (hl.trans (show Tryd.prog.cellsOf 121 = 20 by kernel_rfl))
  obtain ⟨y0, y1, y2, y3, rfl⟩ := list4 hlen
  simp only [List.map_cons, List.map_nil, Prod.mk.injEq, DataW.agg.injEq, List.cons.injEq, and_true] at hx
  obtain ⟨⟨e0, e1, e2, e3⟩, _⟩ := hx
  have hc : Tryd.prog.cellsOf 120 = 5 := by kernel_rfl
  have hi : Tryd.prog.cellsOf 3 = 1 := by kernel_rfl
  have f0 := hf 0 (by omega)
  have f1 := hf 1 (by omega)
  have f2 := hf 2 (by omega)
  have f3 := hf 3 (by omega)
  rw [hc] at f0 f1 f2 f3
  obtain ⟨a0, b0⟩ := y0
  obtain ⟨a1, b1⟩ := y1
  obtain ⟨a2, b2⟩ := y2
  obtain ⟨a3, b3⟩ := y3
  simp only at e0 e1 e2 e3
  subst e0 e1 e2 e3
  have g0 := Lib.cells_of_tab (k := .i64) (zs := [0, 0, 0, 0, 0]) Tryd.underlying120 Tryd.underlying3 hi hc f0
  have g1 := Lib.cells_of_tab (k := .i64) (zs := [0, 30, 300, 60, 10]) Tryd.underlying120 Tryd.underlying3 hi hc f1
  have g2 := Lib.cells_of_tab (k := .i64) (zs := [0, 30, 60, 0, 0]) Tryd.underlying120 Tryd.underlying3 hi hc f2
  have g3 := Lib.cells_of_tab (k := .i64) (zs := [0, 10, 20, 0, 0]) Tryd.underlying120 Tryd.underlying3 hi hc f3
  simp at g0 g1 g2 g3
  obtain ⟨rfl, rfl, rfl, rfl, rfl⟩ := g0
  obtain ⟨rfl, rfl, rfl, rfl, rfl⟩ := g1
  obtain ⟨rfl, rfl, rfl, rfl, rfl⟩ := g2
  obtain ⟨rfl, rfl, rfl, rfl, rfl⟩ := g3
  rfl
theorem lives_of_met {W : World} (h : laidMet Tryd.prog tabsLaid W) : Lives W := by
  obtain ⟨ps, ⟨g', t', cs, fuel, p, q, hg', ht', hvar, hd, _, _⟩, _⟩ := h
  obtain rfl := Option.some.inj ((show Tryd.prog.globalNamed "portcullis/track.lives" = some 1 by kernel_rfl).symm.trans hg')
  obtain rfl := Option.some.inj ((show (Tryd.prog.globals[1]?).map (·.type) = some 121 by kernel_rfl).symm.trans ht')
  have hc := lives_rows hd
  obtain ⟨ty, fz, hh⟩ := var_cells (show Tryd.prog.globalNamed "portcullis/track.lives" = some 1 by kernel_rfl) hvar
  refine ⟨ty, fz, ?_⟩
  rw [hh, ← Array.toArray_toList (xs := cs), hc]
theorem parts_of_laid {W : World} (h : laidMetH Tryd.prog doorLaid W) : laidMet Tryd.prog tabsLaid W ∧ handlesMet Tryd.prog [("errors.errorType", Rows.laid_errors_errorType)] W := h
theorem lives_of_laid {W : World} (h : laidMetH Tryd.prog doorLaid W) : Lives W := lives_of_met (parts_of_laid h).1
theorem errLaid_of_laid {W : World} (h : laidMetH Tryd.prog doorLaid W) : ErrLaid W := by
  obtain ⟨name, u, ty, e1, e2, e3, e4, e5⟩ := (parts_of_laid h).2 _ (List.mem_singleton.2 rfl)
  have en : name = [101, 114, 114, 111, 114] := (Option.some.inj e1).symm
  subst en
  obtain rfl := Option.some.inj (doorRtype.symm.trans e2)
  have hm : ty ∈ (List.range 151).filter fun t => Tryd.prog.rowNamed t [101, 114, 114, 111, 114] := List.mem_filter.2 ⟨List.mem_range.2 (by rw [← doorSize]; exact e3), e4⟩
  rw [doorOne] at hm
  obtain rfl := List.mem_singleton.1 hm
  have hh : typeHandle Tryd.prog 32 = .pointer (some ⟨2, 32, none⟩) := by kernel_rfl
  rw [hh] at e5
  unfold ErrLaid
  simpa using World.var?_cell doorVar e5 0
theorem tabWorld_met (os : Os) (args : Array Value) : laidMetH Tryd.prog tabsLaid ((World.laidAll Tryd.prog os tabsLaid).forCall (fun _ _ => 0) ⟨#[], args, []⟩).memory := by
  refine laidMetH_of_parts ?_ (by kernel_rfl)
  have e : (tabsLaid.filter fun x => x.2.handleName?.isNone) = tabsLaid := by kernel_rfl
  rw [e]
  exact laidMet_laidAll _ (by kernel_rfl) (by kernel_rfl)
theorem doorWorld_met (os : Os) (args : Array Value) : laidMetH Tryd.prog doorLaid ((({ World.holding Tryd.prog os ⟨#[], #[], []⟩ with heap := (World.holding Tryd.prog os ⟨#[], #[], []⟩).heap.modify 0 (fun | .cells _ t frozen => .cells #[.iface 107 (.agg #[.pointer (some ⟨2, 32, none⟩)])] t frozen | o => o) } : World).layVars Tryd.prog tabsLaid).forCall (fun _ _ => 0) ⟨#[], args, []⟩).memory := by
  refine laidMetH_of_parts ?_ (by kernel_rfl)
  have e : (doorLaid.filter fun x => x.2.handleName?.isNone) = tabsLaid := by kernel_rfl
  rw [e]
  have e1 : (tabsLaid.filter fun x => (tabsLaid.map (·.1)).contains x.1) = tabsLaid := by kernel_rfl
  have e2 : (tabsLaid.filter fun x => !(tabsLaid.map (·.1)).contains x.1) = [] := by kernel_rfl
  have h : laidMet Tryd.prog tabsLaid (({ World.holding Tryd.prog os ⟨#[], #[], []⟩ with heap := (World.holding Tryd.prog os ⟨#[], #[], []⟩).heap.modify 0 (fun | .cells _ t frozen => .cells #[.iface 107 (.agg #[.pointer (some ⟨2, 32, none⟩)])] t frozen | o => o) } : World).layVars Tryd.prog tabsLaid) := laidMet_layVars (w0 := ({ World.holding Tryd.prog os ⟨#[], #[], []⟩ with heap := (World.holding Tryd.prog os ⟨#[], #[], []⟩).heap.modify 0 (fun | .cells _ t frozen => .cells #[.iface 107 (.agg #[.pointer (some ⟨2, 32, none⟩)])] t frozen | o => o) } : World)) (tabsLaid.map (·.1)) [] (by rw [e1]) (by rw [e1]; kernel_rfl) (by rw [e1]; kernel_rfl) (by rw [e2]; exact LaidIn.none)
  exact h.of_heap (by simp [World.memory, World.forCall, Input.heap])
end Go.Proofs.YtkkefgoidjjehaaDoor
