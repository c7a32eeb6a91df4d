/- strings.Split at one byte. -/
import Derived.Test.YtjhofmmmlemfcaaDoorCutM
namespace Go.Proofs.YtjhofmmmlemfcaaDoor
open Go.RowKit
set_option linter.unusedVariables false
set_option maxRecDepth 10000

/-- The variable is laid. -/
def MxL (w : World) : Prop := ∃ m : Int, w.cell? ⟨1, 0, none⟩ = some (.int .i64 m)
theorem splitM_any (c : UInt8) (l : List UInt8) (w : World) (htx : MxL w) (hl : l.length ≤ 1048576) :
    Calls Tryd.prog 35 #[.string (mkB l), .string ⟨#[c]⟩] w fun e w' => e = .returned (.slice (some ⟨w.heap.size, 0, none⟩) (cutL c l).length (cutL c l).length) ∧ w' = w.alloc (.cells ((cutL c l).map fun x => Value.string (mkB x)).toArray 9) := by
  obtain ⟨m, hm⟩ := htx
  have hsp := Tryd.strings_Split (mkB l) ⟨#[c]⟩ m w (by rw [mkB_size]; omega) hm (by show 1 ≤ 1; omega)
  have hwc := words_cutC c _ (mkB l) rfl
  rw [mkB_toList] at hwc
  have hlen := Lib.splitB_all ⟨#[c]⟩ (by show 1 ≤ 1; omega) 0 (Lib.countB (mkB l) ⟨#[c]⟩) (mkB l) rfl
  have e1 : (cutL c l).length = Lib.countB (mkB l) ⟨#[c]⟩ + 1 := by rw [← hwc, List.length_map, hlen]
  have e2 : ((cutL c l).map fun x => Value.string (mkB x)) = (Lib.splitB ⟨#[c]⟩ 0 (Lib.countB (mkB l) ⟨#[c]⟩) (mkB l)).map Value.string := by
    rw [← hwc, List.map_map]
    apply List.map_congr_left
    intro x _
    simp [mkB_data]
  rw [e1, e2]
  exact hsp
end Go.Proofs.YtjhofmmmlemfcaaDoor
