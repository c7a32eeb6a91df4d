/- What the program's PrintPrefix returns (package addr), for every prefix. Condition: the library's table of powers of ten holds what its text lays. -/
import Derived.Test.YtkjjalaelehjeabDoorAddrPrint
import Derived.Test.YtkjjalaelehjeabDoorShowMath
import Derived.Test.YtkjjalaelehjeabDoorPairs
namespace Go.Proofs.YtkjjalaelehjeabDoor
open Go.RowKit
set_option linter.unusedVariables false


theorem printPrefix_bad (a l : Int) (w : World) (h : prefE a l ≠ 0) :
    Calls Tryd.prog 12 #[.agg #[.int .i64 a, .int .i64 l]] w fun e w' => e = .returned (.tuple #[.string ⟨#[]⟩, .iface 46 (.int .i64 (prefE a l))]) ∧ Below w.heap.size w w' := by
  have hck := fun w => check_bad a l w h
  clear h
  go_enter Tryd.func12, Tryd.ntmps12
  go_wp2_with (go_at_call 8; refine (hck _).mono ?_; rintro e w1 ⟨rfl, hb1⟩; obtain ⟨c0, c1, b1, z1⟩ := boxed hb1)
  exact bodyPost_ret (v := .tuple #[.string ⟨#[]⟩, .iface 46 (.int .i64 (prefE a l))]) (by simp [results, Tryd.results12, go_sem]) rfl ⟨rfl, b1⟩

set_option maxHeartbeats 2000000 in
theorem printPrefix_ok (a l : Int) (w : World) (h : prefE a l = 0) (ht : Tab w) :
    Calls Tryd.prog 12 #[.agg #[.int .i64 a, .int .i64 l]] w fun e w' => e = .returned (.tuple #[.string (mkB (showPrefL a l)), .nilIface]) ∧ Below w.heap.size w w' := by
  have hck := fun w => check_ok a l w h
  obtain ⟨⟨h0, h1⟩, ⟨h2, h3⟩, _⟩ := prefE_zero h
  have hA := isAddr_yes h0 h1
  rcases hl : (l == 0) with _ | _
  · have HS : Hid (mkB (showL a) ++ mkB [47] ++ mkB (digL l.toNat) = mkB (showPrefL a l)) := by
      show _ = mkB (showPrefL a l)
      unfold showPrefL
      rw [if_neg (by simpa using hl)]
      simp only [mkB_append]
    have z1 : (mkB (showL a)).size ≤ 2000 := by rw [mkB_size]; exact showL_short a
    have z2 : (mkB (digL l.toNat)).size ≤ 2000 := by rw [mkB_size]; have := digL_small (n := l.toNat) (by omega); omega
    have hpr := fun w ht => print_ok a w hA ht
    have hit := fun w ht => itoa_any l w h2 (by omega) ht
    clear h
    go_enter Tryd.func12, Tryd.ntmps12
    go_wp2_with (first
      | (go_at_call 8; refine (hck _).mono ?_; rintro e w1 ⟨rfl, hb1⟩; obtain ⟨c0, c1, b1, zz1⟩ := boxed hb1)
      | (go_at_call 14; refine (hpr _ (ht.below b1)).mono ?_; rintro e w2 ⟨rfl, hb2⟩; have d0 := (hb2.cell (p := ⟨w.heap.size, 0, none⟩) zz1).trans c0; have d1 := (hb2.cell (p := ⟨w.heap.size, 1, none⟩) zz1).trans c1; have b2 := b1.trans (hb2.mono b1.size))
      | (go_at_call 22; refine (hit _ (ht.below b2)).mono ?_; rintro e w3 ⟨rfl, hb3⟩))
    exact bodyPost_ret (v := .tuple #[.string (mkB (showL a) ++ mkB [47] ++ mkB (digL l.toNat)), .nilIface]) (by simp [results, Tryd.results12, go_sem, mkB]) rfl ⟨by rw [HS.out], b2.trans (hb3.mono b2.size)⟩
  · have HS : Hid (mkB [97, 110, 121] = mkB (showPrefL a l)) := by
      show _ = mkB (showPrefL a l)
      unfold showPrefL
      rw [if_pos (by simpa using hl)]
    clear h
    go_enter Tryd.func12, Tryd.ntmps12
    go_wp2_with (go_at_call 8; refine (hck _).mono ?_; rintro e w1 ⟨rfl, hb1⟩; obtain ⟨c0, c1, b1, z1⟩ := boxed hb1)
    exact bodyPost_ret (v := .tuple #[.string (mkB [97, 110, 121]), .nilIface]) (by simp [results, Tryd.results12, go_sem, mkB]) rfl ⟨by rw [← HS.out], b1⟩
end Go.Proofs.YtkjjalaelehjeabDoor
