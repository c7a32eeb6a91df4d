/- What portsame.Packet returns of two packets that are the same: true. -/
import Derived.Test.YtgodjaffmojhlaaDoorWirePk
import Derived.Laws.BytesArg
namespace Go.Proofs.YtgodjaffmojhlaaDoor
open Go.RowKit
set_option linter.unusedVariables false

theorem conv_bytes {w : World} {v : Value} {zs : List Int} (h : Bytes w v zs) : (convert 38 9 v).run Tryd.prog w = .ok (.string (strOfNums zs)) w := by
  rcases h with ⟨rfl, a, cap, rfl, hn⟩ | ⟨b, off, len, cap, rfl, h2, h3, h4, h5, h6⟩
  · rw [run_convert_bytes_string w _ _ _ a 0 cap Tryd.underlying38 Tryd.underlying5 Tryd.underlying9]
    rcases a with _ | ad
    · simp [Conv.bytesToString, strOfNums, ByteArray.empty, ByteArray.emptyWithCapacity]
      rfl
    · have := run_bytesToString (P := Tryd.prog) w ad 0 cap [] (by simp [loadCells, loadCellsFrom])
      rw [this]; rfl
  · exact run_convert_bytes_arg (P := Tryd.prog) w _ _ Tryd.underlying38 Tryd.underlying5 b off len cap zs h5 (fun i hi => h6.1 i (by omega)) _ Tryd.underlying9

set_option maxHeartbeats 4000000 in
theorem samePk_raw (k t i s d o : Int) (m : Bool) (a a' : Option Addr) (l c l' c' : Nat) (zs : List Int) (w : World) (h : Bytes w (.slice a l c) zs) (h' : Bytes w (.slice a' l' c') zs) :
    Calls Tryd.prog 10 #[.agg #[.int .i64 k, .int .i64 t, .int .i64 i, .int .i64 s, .int .i64 d, .int .i64 o, .bool m, .slice a l c], .agg #[.int .i64 k, .int .i64 t, .int .i64 i, .int .i64 s, .int .i64 d, .int .i64 o, .bool m, .slice a' l' c']] w fun e w' =>
      e = .returned (.bool true) ∧ Below w.heap.size w w' := by
  have b1 : Below w.heap.size w ((w.alloc (.cells #[.int .i64 k, .int .i64 t, .int .i64 i, .int .i64 s, .int .i64 d, .int .i64 o, .bool m, .slice a l c] 40)).alloc (.cells #[.int .i64 k, .int .i64 t, .int .i64 i, .int .i64 s, .int .i64 d, .int .i64 o, .bool m, .slice a' l' c'] 40)) :=
    ((Below.refl _ _).alloc (Nat.le_refl _) _).alloc (by simp) _
  have q := conv_bytes (h.below (Nat.le_refl _) b1)
  have q' := conv_bytes (h'.below (Nat.le_refl _) b1)
  generalize strOfNums zs = S at q q'
  have B1 : Hid _ := b1
  clear h h' b1
  go_enter Tryd.func10, Tryd.ntmps10
  go_wp2
  go_ret
  exact ⟨rfl, B1.out⟩
theorem samePk (p : Pk) (bv bv' : Value) (w : World) (h : Bytes w bv p.body) (h' : Bytes w bv' p.body) :
    Calls Tryd.prog 10 #[pkV p bv, pkV p bv'] w fun e w' => e = .returned (.bool true) ∧ Below w.heap.size w w' := by
  obtain ⟨a, c, rfl⟩ := len_body h
  obtain ⟨a', c', rfl⟩ := len_body h'
  exact samePk_raw _ _ _ _ _ _ _ _ _ _ _ _ _ _ w h h'
end Go.Proofs.YtgodjaffmojhlaaDoor
