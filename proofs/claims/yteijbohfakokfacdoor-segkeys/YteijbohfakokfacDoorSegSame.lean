/- What portsame.Segment returns of two segments that are the same: true. -/
import Derived.Test.YteijbohfakokfacDoorSegAt
import Derived.Laws.BytesArg
namespace Go.Proofs.YteijbohfakokfacDoor
open Go.RowKit
set_option linter.unusedVariables false

theorem conv_bytesS {w : World} {v : Value} {zs : List Int} (h : Bytes w v zs) : (convert 22 9 v).run Tryd.prog w = .ok (.string (strOfNums zs)) w := by
  rcases h with ⟨rfl, a, cap, rfl, hn⟩ | ⟨b, off, len, cap, rfl, h2, h3, h4, h5, h6⟩
  · rw [run_convert_bytes_string w _ _ _ a 0 cap Tryd.underlying22 Tryd.underlying5 Tryd.underlying9]
    rcases a with _ | ad
    · simp [Conv.bytesToString, strOfNums, ByteArray.empty, ByteArray.emptyWithCapacity]
      rfl
    · have := run_bytesToString (P := Tryd.prog) w ad 0 cap [] (by simp [loadCells, loadCellsFrom])
      rw [this]; rfl
  · exact run_convert_bytes_arg (P := Tryd.prog) w _ _ Tryd.underlying22 Tryd.underlying5 b off len cap zs h5 (fun i hi => h6.1 i (by omega)) _ Tryd.underlying9
set_option maxHeartbeats 4000000 in
theorem sameSg_raw (x0 x1 x2 x3 x4 x5 : Int) (a a' : Option Addr) (l c l' c' : Nat) (zs : List Int) (w : World) (h : Bytes w (.slice a l c) zs) (h' : Bytes w (.slice a' l' c') zs) :
    Calls Tryd.prog 9 #[.agg #[.int .i64 x0, .int .i64 x1, .int .i64 x2, .int .i64 x3, .int .i64 x4, .int .i64 x5, .slice a l c], .agg #[.int .i64 x0, .int .i64 x1, .int .i64 x2, .int .i64 x3, .int .i64 x4, .int .i64 x5, .slice a' l' c']] w fun e w' =>
      e = .returned (.bool true) ∧ Below w.heap.size w w' := by
  have b1 : Below w.heap.size w ((w.alloc (.cells #[.int .i64 x0, .int .i64 x1, .int .i64 x2, .int .i64 x3, .int .i64 x4, .int .i64 x5, .slice a l c] 29)).alloc (.cells #[.int .i64 x0, .int .i64 x1, .int .i64 x2, .int .i64 x3, .int .i64 x4, .int .i64 x5, .slice a' l' c'] 29)) :=
    ((Below.refl _ _).alloc (Nat.le_refl _) _).alloc (by simp) _
  have q := conv_bytesS (h.below (Nat.le_refl _) b1)
  have q' := conv_bytesS (h'.below (Nat.le_refl _) b1)
  generalize strOfNums zs = S at q q'
  have B1 : Hid _ := b1
  clear h h' b1
  go_enter Tryd.func9, Tryd.ntmps9
  go_wp2
  go_ret
  exact ⟨rfl, B1.out⟩
theorem sameSg (p : Sg) (bv bv' : Value) (w : World) (h : Bytes w bv p.body) (h' : Bytes w bv' p.body) :
    Calls Tryd.prog 9 #[segV p bv, segV p bv'] w fun e w' => e = .returned (.bool true) ∧ Below w.heap.size w w' := by
  obtain ⟨a, c, rfl⟩ := len_body h
  obtain ⟨a', c', rfl⟩ := len_body h'
  exact sameSg_raw _ _ _ _ _ _ _ _ _ _ _ _ _ w h h'
end Go.Proofs.YteijbohfakokfacDoor
