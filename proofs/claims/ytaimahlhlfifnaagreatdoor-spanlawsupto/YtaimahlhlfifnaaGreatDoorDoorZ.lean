/- What the rows of this seat list of the library's variables gives the walks of span's texts ('TxE'), and a world that meets the list. -/
import Derived.Test.YtaimahlhlfifnaaGreatDoorOpen
import Derived.Test.YtaimahlhlfifnaaGreatDoorSpnTxt
import Derived.Lay
import Derived.LaidSub
import Derived.Lib.LaidTab
import Derived.Stop.LaidErr
import Derived.Shelf.Vars
namespace Go.Proofs.YtaimahlhlfifnaaGreatDoor
open Go.ChangeShapes Go.WideShapes Go.ChangeAt Go.RowKit
set_option linter.unusedVariables false

def doorLaid : List (String × DataW Unit) := [("math/bits.deBruijn32tab", Rows.laid_math_bits_deBruijn32tab), ("math/bits.deBruijn64tab", Rows.laid_math_bits_deBruijn64tab), ("internal/strconv.uint64pow10", Rows.laid_internal_strconv_uint64pow10), ("unicode/utf8.acceptRanges", Rows.laid_unicode_utf8_acceptRanges), ("strconv.ErrRange", Rows.laid_strconv_ErrRange), ("strconv.ErrSyntax", Rows.laid_strconv_ErrSyntax), ("unicode/utf8.first", Rows.laid_unicode_utf8_first)]
theorem starX : "*" ++ "errors.errorString" = "*errors.errorString" := by decide
theorem rowX (u : TypeId) (h : Tryz.prog.typeName? 3 u = some "*errors.errorString") : u = 163 :=
  typeName_ptr_named (nm := "errors.errorString") (by rw [starX]; kernel_rfl) (by kernel_rfl) (by decide) u (by rw [starX]; exact h)
theorem txe_of_met {W : World} (h1 : laidMet Tryz.prog doorLaid W) (hsh : W.ShapedOpen Tryz.prog) : TxE W := by
  refine ⟨?_, ?_, ?_, ?_⟩
  · have h2 := h1.filter (fun x => x.1 == "internal/strconv.uint64pow10")
    have e : doorLaid.filter (fun x => x.1 == "internal/strconv.uint64pow10") = [("internal/strconv.uint64pow10", Lib.tabData .u64 Lib.pow10Tab)] := by kernel_rfl
    rw [e] at h2
    exact Lib.tabIs_of_head (g := 4) (t := 153) (e := 129) (n := 20) (by kernel_rfl) (by kernel_rfl) Tryz.underlying153 Tryz.underlying129 (by kernel_rfl) (by kernel_rfl) h2
  · have h2 := h1.filter (fun x => x.1 == "strconv.ErrSyntax")
    have e : doorLaid.filter (fun x => x.1 == "strconv.ErrSyntax") = [("strconv.ErrSyntax", Rows.laid_strconv_ErrSyntax)] := by kernel_rfl
    rw [e] at h2
    obtain ⟨a0, s0, hv0, -, -, -⟩ := laid_sentinel (g := 2) (ti := 27) (ts := 9) h2 (by kernel_rfl) (by kernel_rfl) Tryz.underlying27 rowX Tryz.underlying163 Tryz.underlying165 rfl rfl Tryz.underlying9 (by kernel_rfl) (by kernel_rfl)
    exact ⟨_, _, hv0⟩
  · have h2 := h1.filter (fun x => x.1 == "strconv.ErrRange")
    have e : doorLaid.filter (fun x => x.1 == "strconv.ErrRange") = [("strconv.ErrRange", Rows.laid_strconv_ErrRange)] := by kernel_rfl
    rw [e] at h2
    obtain ⟨a0, s0, hv0, -, -, -⟩ := laid_sentinel (g := 3) (ti := 27) (ts := 9) h2 (by kernel_rfl) (by kernel_rfl) Tryz.underlying27 rowX Tryz.underlying163 Tryz.underlying165 rfl rfl Tryz.underlying9 (by kernel_rfl) (by kernel_rfl)
    exact ⟨_, _, hv0⟩
  · exact cell_of_shapedOpen_int (g := 1) (t := 3) (zero := #[.int .i64 0]) hsh (of_decide_eq_true (by kernel_rfl)) (by kernel_rfl) rfl (by kernel_rfl) (by kernel_rfl) Tryz.underlying3
theorem txe_of_laid {W : World} (h : laidMetH Tryz.prog doorLaid W) (hsh : W.ShapedOpen Tryz.prog) : TxE W := txe_of_met h hsh
theorem txWorld_met (os : Os) (args : Array Value) : laidMetH Tryz.prog doorLaid ((World.laidAll Tryz.prog os doorLaid).forCall (fun _ _ => 0) ⟨#[], args, []⟩).memory := by
  refine laidMetH_of_parts ?_ (by kernel_rfl)
  have e : (doorLaid.filter fun x => x.2.handleName?.isNone) = doorLaid := by kernel_rfl
  rw [e]
  exact laidMet_laidAll _ (by kernel_rfl) (by kernel_rfl)
end Go.Proofs.YtaimahlhlfifnaaGreatDoor
