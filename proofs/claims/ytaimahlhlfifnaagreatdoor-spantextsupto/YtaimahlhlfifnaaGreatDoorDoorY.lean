/- What the rows of this seat list of the library's variables and of errors.errorType gives the walks of SpanTexts ('TxE', 'ErrLaid'), and a world that meets the list. -/
import Derived.Test.YtaimahlhlfifnaaGreatDoorOpen
import Derived.Test.YtaimahlhlfifnaaGreatDoorSpnTxt
import Derived.Test.YtaimahlhlfifnaaGreatDoorAs
import Derived.Lay
import Derived.LaidSub
import Derived.LaidHandle
import Derived.Lib.LaidTab
import Derived.Stop.LaidErr
import Derived.Shelf.Vars
namespace Go.Proofs.YtaimahlhlfifnaaGreatDoor
open Go.ChangeShapes Go.WideShapes Go.ChangeAt Go.RowKit
set_option linter.unusedVariables false

def tabsLaid : List (String × DataW Unit) := [("math/bits.deBruijn32tab", Rows.laid_math_bits_deBruijn32tab), ("math/bits.deBruijn64tab", Rows.laid_math_bits_deBruijn64tab), ("internal/strconv.uint64pow10", Rows.laid_internal_strconv_uint64pow10), ("unicode/utf8.acceptRanges", Rows.laid_unicode_utf8_acceptRanges), ("strconv.ErrRange", Rows.laid_strconv_ErrRange), ("strconv.ErrSyntax", Rows.laid_strconv_ErrSyntax), ("unicode/utf8.first", Rows.laid_unicode_utf8_first)]
def doorLaid : List (String × DataW Unit) := [("math/bits.deBruijn32tab", Rows.laid_math_bits_deBruijn32tab), ("math/bits.deBruijn64tab", Rows.laid_math_bits_deBruijn64tab), ("internal/strconv.uint64pow10", Rows.laid_internal_strconv_uint64pow10), ("unicode/utf8.acceptRanges", Rows.laid_unicode_utf8_acceptRanges), ("errors.errorType", Rows.laid_errors_errorType), ("strconv.ErrRange", Rows.laid_strconv_ErrRange), ("strconv.ErrSyntax", Rows.laid_strconv_ErrSyntax), ("unicode/utf8.first", Rows.laid_unicode_utf8_first)]
theorem doorVar : Tryz.prog.globalNamed "errors.errorType" = some 0 := by kernel_rfl
theorem doorRtype : (Tryz.prog.cutTypes.find? (·.1 == "internal/reflectlite.rtype")).map (·.2) = some 100 := by kernel_rfl
theorem doorOne : ((List.range 204).filter fun t => Tryz.prog.rowNamed t [101, 114, 114, 111, 114]) = [27] := by kernel_rfl
theorem doorSize : Tryz.prog.types.size = 204 := by kernel_rfl

theorem starX : "*" ++ "errors.errorString" = "*errors.errorString" := by decide
theorem rowX (u : TypeId) (h : Tryz.prog.typeName? 3 u = some "*errors.errorString") : u = 163 :=
  typeName_ptr_named (nm := "errors.errorString") (by rw [starX]; kernel_rfl) (by kernel_rfl) (by decide) u (by rw [starX]; exact h)
theorem txe_of_met {W : World} (h1 : laidMet Tryz.prog tabsLaid W) (hsh : W.ShapedOpen Tryz.prog) : TxE W := by
  refine ⟨?_, ?_, ?_, ?_⟩
  · have h2 := h1.filter (fun x => x.1 == "internal/strconv.uint64pow10")
    have e : tabsLaid.filter (fun x => x.1 == "internal/strconv.uint64pow10") = [("internal/strconv.uint64pow10", Lib.tabData .u64 Lib.pow10Tab)] := by kernel_rfl
    rw [e] at h2
    exact Lib.tabIs_of_head (g := 4) (t := 153) (e := 129) (n := 20) (by kernel_rfl) (by kernel_rfl) Tryz.underlying153 Tryz.underlying129 (by kernel_rfl) (by kernel_rfl) h2
  · have h2 := h1.filter (fun x => x.1 == "strconv.ErrSyntax")
    have e : tabsLaid.filter (fun x => x.1 == "strconv.ErrSyntax") = [("strconv.ErrSyntax", Rows.laid_strconv_ErrSyntax)] := by kernel_rfl
    rw [e] at h2
    obtain ⟨a0, s0, hv0, -, -, -⟩ := laid_sentinel (g := 2) (ti := 27) (ts := 9) h2 (by kernel_rfl) (by kernel_rfl) Tryz.underlying27 rowX Tryz.underlying163 Tryz.underlying165 rfl rfl Tryz.underlying9 (by kernel_rfl) (by kernel_rfl)
    exact ⟨_, _, hv0⟩
  · have h2 := h1.filter (fun x => x.1 == "strconv.ErrRange")
    have e : tabsLaid.filter (fun x => x.1 == "strconv.ErrRange") = [("strconv.ErrRange", Rows.laid_strconv_ErrRange)] := by kernel_rfl
    rw [e] at h2
    obtain ⟨a0, s0, hv0, -, -, -⟩ := laid_sentinel (g := 3) (ti := 27) (ts := 9) h2 (by kernel_rfl) (by kernel_rfl) Tryz.underlying27 rowX Tryz.underlying163 Tryz.underlying165 rfl rfl Tryz.underlying9 (by kernel_rfl) (by kernel_rfl)
    exact ⟨_, _, hv0⟩
  · exact cell_of_shapedOpen_int (g := 1) (t := 3) (zero := #[.int .i64 0]) hsh (of_decide_eq_true (by kernel_rfl)) (by kernel_rfl) rfl (by kernel_rfl) (by kernel_rfl) Tryz.underlying3
theorem parts_of_laid {W : World} (h : laidMetH Tryz.prog doorLaid W) : laidMet Tryz.prog tabsLaid W ∧ handlesMet Tryz.prog [("errors.errorType", Rows.laid_errors_errorType)] W := h
theorem txe_of_laid {W : World} (h : laidMetH Tryz.prog doorLaid W) (hsh : W.ShapedOpen Tryz.prog) : TxE W := txe_of_met (parts_of_laid h).1 hsh
theorem errLaid_of_laid {W : World} (h : laidMetH Tryz.prog doorLaid W) : ErrLaid W := by
  obtain ⟨name, u, ty, e1, e2, e3, e4, e5⟩ := (parts_of_laid h).2 _ (List.mem_singleton.2 rfl)
  have en : name = [101, 114, 114, 111, 114] := (Option.some.inj e1).symm
  subst en
  obtain rfl := Option.some.inj (doorRtype.symm.trans e2)
  have hm : ty ∈ (List.range 204).filter fun t => Tryz.prog.rowNamed t [101, 114, 114, 111, 114] := List.mem_filter.2 ⟨List.mem_range.2 (by rw [← doorSize]; exact e3), e4⟩
  rw [doorOne] at hm
  obtain rfl := List.mem_singleton.1 hm
  have hh : typeHandle Tryz.prog 27 = .pointer (some ⟨9, 27, none⟩) := by kernel_rfl
  rw [hh] at e5
  unfold ErrLaid
  simpa using World.var?_cell doorVar e5 0

theorem doorWorld_met (os : Os) (args : Array Value) : laidMetH Tryz.prog doorLaid ((({ World.holding Tryz.prog os ⟨#[], #[], []⟩ with heap := (World.holding Tryz.prog os ⟨#[], #[], []⟩).heap.modify 0 (fun | .cells _ t frozen => .cells #[.iface 100 (.agg #[.pointer (some ⟨9, 27, none⟩)])] t frozen | o => o) } : World).layVars Tryz.prog tabsLaid).forCall (fun _ _ => 0) ⟨#[], args, []⟩).memory := by
  refine laidMetH_of_parts ?_ (by kernel_rfl)
  have e : (doorLaid.filter fun x => x.2.handleName?.isNone) = tabsLaid := by kernel_rfl
  rw [e]
  have e1 : (tabsLaid.filter fun x => (tabsLaid.map (·.1)).contains x.1) = tabsLaid := by kernel_rfl
  have e2 : (tabsLaid.filter fun x => !(tabsLaid.map (·.1)).contains x.1) = [] := by kernel_rfl
  have h : laidMet Tryz.prog tabsLaid (({ World.holding Tryz.prog os ⟨#[], #[], []⟩ with heap := (World.holding Tryz.prog os ⟨#[], #[], []⟩).heap.modify 0 (fun | .cells _ t frozen => .cells #[.iface 100 (.agg #[.pointer (some ⟨9, 27, none⟩)])] t frozen | o => o) } : World).layVars Tryz.prog tabsLaid) := laidMet_layVars (w0 := ({ World.holding Tryz.prog os ⟨#[], #[], []⟩ with heap := (World.holding Tryz.prog os ⟨#[], #[], []⟩).heap.modify 0 (fun | .cells _ t frozen => .cells #[.iface 100 (.agg #[.pointer (some ⟨9, 27, none⟩)])] t frozen | o => o) } : World)) (tabsLaid.map (·.1)) [] (by rw [e1]) (by rw [e1]; kernel_rfl) (by rw [e1]; kernel_rfl) (by rw [e2]; exact LaidIn.none)
  exact h.of_heap (by simp [World.memory, World.forCall, Input.heap])
end Go.Proofs.YtaimahlhlfifnaaGreatDoor
