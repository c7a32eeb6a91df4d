/- What the rows of this seat list of the library's variables and of errors.errorType and of the words of package rule gives the walks of its texts ('TxE', 'ErrLaid', 'Wrds'), and a world that meets the list. -/
import Derived.Test.YthnkjfgiclolaaaGreatDoorOpen
import Derived.Test.YthnkjfgiclolaaaGreatDoorSpnTxt
import Derived.Test.YthnkjfgiclolaaaGreatDoorAs
import Derived.Test.YthnkjfgiclolaaaGreatDoorMgJ
import Derived.Lay
import Derived.LaidSub
import Derived.LaidHandle
import Derived.Lib.LaidTab
import Derived.Stop.LaidErr
import Derived.Shelf.Vars
namespace Go.Proofs.YthnkjfgiclolaaaGreatDoor
open Go.ChangeShapes Go.WideShapes Go.ChangeAt Go.RowKit
set_option linter.unusedVariables false

def tabsLaid : List (String × DataW Unit) := [("math/bits.deBruijn32tab", Rows.laid_math_bits_deBruijn32tab), ("math/bits.deBruijn64tab", Rows.laid_math_bits_deBruijn64tab), ("internal/strconv.uint64pow10", Rows.laid_internal_strconv_uint64pow10), ("unicode/utf8.acceptRanges", Rows.laid_unicode_utf8_acceptRanges), ("strconv.ErrRange", Rows.laid_strconv_ErrRange), ("strconv.ErrSyntax", Rows.laid_strconv_ErrSyntax), ("portcullis/rule.wayWords", Rows.laid_portcullis_rule_wayWords), ("portcullis/rule.kindWords", Rows.laid_portcullis_rule_kindWords), ("unicode/utf8.first", Rows.laid_unicode_utf8_first)]
def doorLaid : List (String × DataW Unit) := [("math/bits.deBruijn32tab", Rows.laid_math_bits_deBruijn32tab), ("math/bits.deBruijn64tab", Rows.laid_math_bits_deBruijn64tab), ("internal/strconv.uint64pow10", Rows.laid_internal_strconv_uint64pow10), ("unicode/utf8.acceptRanges", Rows.laid_unicode_utf8_acceptRanges), ("errors.errorType", Rows.laid_errors_errorType), ("strconv.ErrRange", Rows.laid_strconv_ErrRange), ("strconv.ErrSyntax", Rows.laid_strconv_ErrSyntax), ("portcullis/rule.wayWords", Rows.laid_portcullis_rule_wayWords), ("portcullis/rule.kindWords", Rows.laid_portcullis_rule_kindWords), ("unicode/utf8.first", Rows.laid_unicode_utf8_first)]
theorem doorVar : Tryz.prog.globalNamed "errors.errorType" = some 2 := by kernel_rfl
theorem doorRtype : (Tryz.prog.cutTypes.find? (·.1 == "internal/reflectlite.rtype")).map (·.2) = some 152 := by kernel_rfl
theorem doorOne : ((List.range 270).filter fun t => Tryz.prog.rowNamed t [101, 114, 114, 111, 114]) = [26] := by kernel_rfl
theorem doorSize : Tryz.prog.types.size = 270 := by kernel_rfl

theorem starX : "*" ++ "errors.errorString" = "*errors.errorString" := by decide
theorem rowX (u : TypeId) (h : Tryz.prog.typeName? 3 u = some "*errors.errorString") : u = 230 :=
  typeName_ptr_named (nm := "errors.errorString") (by rw [starX]; kernel_rfl) (by kernel_rfl) (by decide) u (by rw [starX]; exact h)
theorem txe_of_met {W : World} (h1 : laidMet Tryz.prog tabsLaid W) (hsh : W.ShapedOpen Tryz.prog) : TxE W := by
  refine ⟨?_, ?_, ?_, ?_⟩
  · have h2 := h1.filter (fun x => x.1 == "internal/strconv.uint64pow10")
    have e : tabsLaid.filter (fun x => x.1 == "internal/strconv.uint64pow10") = [("internal/strconv.uint64pow10", Lib.tabData .u64 Lib.pow10Tab)] := by kernel_rfl
    rw [e] at h2
    exact Lib.tabIs_of_head (g := 4) (t := 209) (e := 189) (n := 20) (by kernel_rfl) (by kernel_rfl) Tryz.underlying209 Tryz.underlying189 (by kernel_rfl) (by kernel_rfl) h2
  · have h2 := h1.filter (fun x => x.1 == "strconv.ErrSyntax")
    have e : tabsLaid.filter (fun x => x.1 == "strconv.ErrSyntax") = [("strconv.ErrSyntax", Rows.laid_strconv_ErrSyntax)] := by kernel_rfl
    rw [e] at h2
    obtain ⟨a0, s0, hv0, -, -, -⟩ := laid_sentinel (g := 5) (ti := 26) (ts := 9) h2 (by kernel_rfl) (by kernel_rfl) Tryz.underlying26 rowX Tryz.underlying230 Tryz.underlying232 rfl rfl Tryz.underlying9 (by kernel_rfl) (by kernel_rfl)
    exact ⟨_, _, hv0⟩
  · have h2 := h1.filter (fun x => x.1 == "strconv.ErrRange")
    have e : tabsLaid.filter (fun x => x.1 == "strconv.ErrRange") = [("strconv.ErrRange", Rows.laid_strconv_ErrRange)] := by kernel_rfl
    rw [e] at h2
    obtain ⟨a0, s0, hv0, -, -, -⟩ := laid_sentinel (g := 6) (ti := 26) (ts := 9) h2 (by kernel_rfl) (by kernel_rfl) Tryz.underlying26 rowX Tryz.underlying230 Tryz.underlying232 rfl rfl Tryz.underlying9 (by kernel_rfl) (by kernel_rfl)
    exact ⟨_, _, hv0⟩
  · exact cell_of_shapedOpen_int (g := 3) (t := 3) (zero := #[.int .i64 0]) hsh (of_decide_eq_true (by kernel_rfl)) (by kernel_rfl) rfl (by kernel_rfl) (by kernel_rfl) Tryz.underlying3
/-- An array of texts that reads as listed holds these texts. -/
theorem cells_of_words {H : Type} {enc : TypeId × Value → H} {P : Program} {w : World} {base : Nat} {sp : Nat → Bool} {held : Bool} {fuel : Nat} {t e : TypeId} {n : Nat} {cs : List Value} {ws : List (List UInt8)} {p : List MemPlace}
    (ht : P.underlying t = some (.array n e)) (he : P.underlying e = some .string) (hce : P.cellsOf e = 1) (hct : P.cellsOf t = n)
    (h : DataW.trod enc P w base sp held fuel t cs = some (.agg (ws.map fun z => .lit (.string z)), p)) : cs = ws.map fun z => Value.string (mkB z) := by
  cases fuel with
  | zero => simp [DataW.trod] at h
  | succ fuel =>
    simp only [DataW.trod, ht, hce, hct, Nat.mul_one] at h
    split at h
    · rename_i hl
      obtain ⟨xs, hm, hx⟩ := Option.map_eq_some_iff.1 h
      have hxs : xs.map (·.1) = ws.map fun z => (DataW.lit (.string z) : DataW H) := by
        have := congrArg Prod.fst hx
        simpa using this
      have hxl : xs.length = n := by simpa using Lib.mapM_length hm
      have hzl : ws.length = n := by
        have := congrArg List.length hxs
        simp at this
        omega
      apply List.ext_getElem?
      intro i
      by_cases hi : i < n
      · obtain ⟨b, hb, hf⟩ := Lib.mapM_at hm i i (by simp [hi])
        obtain ⟨z, hc, rfl, _⟩ := DataW.trod_string he hf
        have h1 : cs[i]? = some (.string z) := by
          have := congrArg (·[0]?) hc
          simpa [List.getElem?_take, List.getElem?_drop] using this
        have h2 : (xs.map (·.1))[i]? = some (DataW.lit (.string z.data.toList) : DataW H) := by simp [hb]
        rw [hxs] at h2
        simp only [List.getElem?_map, Option.map_eq_some_iff, DataW.lit.injEq, Lit.string.injEq] at h2
        obtain ⟨z', hz', rfl⟩ := h2
        simp [h1, hz', mkB_data]
      · rw [List.getElem?_eq_none (by omega), List.getElem?_eq_none (by simp; omega)]
    · cases h
theorem var_cells {P : Program} {W : World} {name : String} {g : Nat} {cs : Array Value} (hg : P.globalNamed name = some g) (h : W.var? P name = some cs) : ∃ ty fz, W.heap[g]? = some (.cells cs ty fz) := by
  simp only [World.var?, hg, Option.bind_some] at h
  split at h <;> simp_all
theorem words_of_head {P : Program} {W : World} {name : String} {ws : List (List UInt8)} {g : Nat} {t e : TypeId} {n : Nat}
    (hg : P.globalNamed name = some g) (hty : (P.globals[g]?).map (·.type) = some t) (ht : P.underlying t = some (.array n e)) (he : P.underlying e = some .string) (hce : P.cellsOf e = 1) (hct : P.cellsOf t = n)
    (h : laidMet P [(name, .agg (ws.map fun z => .lit (.string z)))] W) : ∃ ty fz, W.heap[g]? = some (.cells (ws.map fun z => Value.string (mkB z)).toArray ty fz) := by
  obtain ⟨ps, ⟨g', t', cs, fuel, p, q, hg', ht', hvar, hd, _, _⟩, _⟩ := h
  obtain rfl := Option.some.inj (hg.symm.trans hg')
  obtain rfl := Option.some.inj (hty.symm.trans ht')
  have hc := cells_of_words ht he hce hct hd
  obtain ⟨ty, fz, hh⟩ := var_cells hg hvar
  refine ⟨ty, fz, ?_⟩
  rw [hh, ← hc]
theorem wrds_of_met {W : World} (h1 : laidMet Tryz.prog tabsLaid W) : Wrds W := by
  constructor
  · have h2 := h1.filter (fun x => x.1 == "portcullis/rule.wayWords")
    have e : tabsLaid.filter (fun x => x.1 == "portcullis/rule.wayWords") = [("portcullis/rule.wayWords", .agg ([wayL 0, wayL 1, wayL 2].map fun z => .lit (.string z)))] := by kernel_rfl
    rw [e] at h2
    exact words_of_head (g := 0) (t := 89) (e := 9) (n := 3) (by kernel_rfl) (by kernel_rfl) Tryz.underlying89 Tryz.underlying9 (by kernel_rfl) (by kernel_rfl) h2
  · have h2 := h1.filter (fun x => x.1 == "portcullis/rule.kindWords")
    have e : tabsLaid.filter (fun x => x.1 == "portcullis/rule.kindWords") = [("portcullis/rule.kindWords", .agg ([kindL 0, kindL 1, kindL 2, kindL 3].map fun z => .lit (.string z)))] := by kernel_rfl
    rw [e] at h2
    exact words_of_head (g := 1) (t := 90) (e := 9) (n := 4) (by kernel_rfl) (by kernel_rfl) Tryz.underlying90 Tryz.underlying9 (by kernel_rfl) (by kernel_rfl) h2
theorem parts_of_laid {W : World} (h : laidMetH Tryz.prog doorLaid W) : laidMet Tryz.prog tabsLaid W ∧ handlesMet Tryz.prog [("errors.errorType", Rows.laid_errors_errorType)] W := h
theorem txe_of_laid {W : World} (h : laidMetH Tryz.prog doorLaid W) (hsh : W.ShapedOpen Tryz.prog) : TxE W := txe_of_met (parts_of_laid h).1 hsh
theorem wrds_of_laid {W : World} (h : laidMetH Tryz.prog doorLaid W) : Wrds W := wrds_of_met (parts_of_laid h).1
theorem errLaid_of_laid {W : World} (h : laidMetH Tryz.prog doorLaid W) : ErrLaid W := by
  obtain ⟨name, u, ty, e1, e2, e3, e4, e5⟩ := (parts_of_laid h).2 _ (List.mem_singleton.2 rfl)
  have en : name = [101, 114, 114, 111, 114] := (Option.some.inj e1).symm
  subst en
  obtain rfl := Option.some.inj (doorRtype.symm.trans e2)
  have hm : ty ∈ (List.range 270).filter fun t => Tryz.prog.rowNamed t [101, 114, 114, 111, 114] := List.mem_filter.2 ⟨List.mem_range.2 (by rw [← doorSize]; exact e3), e4⟩
  rw [doorOne] at hm
  obtain rfl := List.mem_singleton.1 hm
  have hh : typeHandle Tryz.prog 26 = .pointer (some ⟨11, 26, none⟩) := by kernel_rfl
  rw [hh] at e5
  unfold ErrLaid
  simpa using World.var?_cell doorVar e5 0

theorem doorWorld_met (os : Os) (args : Array Value) : laidMetH Tryz.prog doorLaid ((({ World.holding Tryz.prog os ⟨#[], #[], []⟩ with heap := (World.holding Tryz.prog os ⟨#[], #[], []⟩).heap.modify 2 (fun | .cells _ t frozen => .cells #[.iface 152 (.agg #[.pointer (some ⟨11, 26, none⟩)])] t frozen | o => o) } : World).layVars Tryz.prog tabsLaid).forCall (fun _ _ => 0) ⟨#[], args, []⟩).memory := by
  refine laidMetH_of_parts ?_ (by kernel_rfl)
  have e : (doorLaid.filter fun x => x.2.handleName?.isNone) = tabsLaid := by kernel_rfl
  rw [e]
  have e1 : (tabsLaid.filter fun x => (tabsLaid.map (·.1)).contains x.1) = tabsLaid := by kernel_rfl
  have e2 : (tabsLaid.filter fun x => !(tabsLaid.map (·.1)).contains x.1) = [] := by kernel_rfl
  have h : laidMet Tryz.prog tabsLaid (({ World.holding Tryz.prog os ⟨#[], #[], []⟩ with heap := (World.holding Tryz.prog os ⟨#[], #[], []⟩).heap.modify 2 (fun | .cells _ t frozen => .cells #[.iface 152 (.agg #[.pointer (some ⟨11, 26, none⟩)])] t frozen | o => o) } : World).layVars Tryz.prog tabsLaid) := laidMet_layVars (w0 := ({ World.holding Tryz.prog os ⟨#[], #[], []⟩ with heap := (World.holding Tryz.prog os ⟨#[], #[], []⟩).heap.modify 2 (fun | .cells _ t frozen => .cells #[.iface 152 (.agg #[.pointer (some ⟨11, 26, none⟩)])] t frozen | o => o) } : World)) (tabsLaid.map (·.1)) [] (by rw [e1]) (by rw [e1]; kernel_rfl) (by rw [e1]; kernel_rfl) (by rw [e2]; exact LaidIn.none)
  exact h.of_heap (by simp [World.memory, World.forCall, Input.heap])
end Go.Proofs.YthnkjfgiclolaaaGreatDoor
