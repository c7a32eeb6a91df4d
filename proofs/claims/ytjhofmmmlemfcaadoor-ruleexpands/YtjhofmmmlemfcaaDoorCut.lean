/- What the reference's Cut returns (package portref1): a text in pieces, in a row of the call's own. Condition: the text is not longer than 1048576 bytes. -/
import Derived.Deep.DeepMust
import Derived.Test.YtjhofmmmlemfcaaDoorOwnS
import Derived.Test.YtjhofmmmlemfcaaDoorCuts
namespace Go.Proofs.YtjhofmmmlemfcaaDoor
open Go.RowKit
set_option linter.unusedVariables false

set_option maxHeartbeats 2000000 in
theorem cut_any (s : ByteArray) (c : UInt8) (w : World) (hs : s.size ≤ 1048576) :
    Calls Tryd.prog 9 #[.string s, .int .u8 c.toNat] w fun e w' => ∃ v, e = .returned v ∧ OwnS w' w.heap.size v ((cutL c s.data.toList).map mkB) ∧ Below w.heap.size w w' := by
  go_enter Tryd.func9, Tryd.ntmps9
  go_wp2
  go_loopw [5, 6, 7] (fun v f i wr => ∃ (k a : Nat) (ss : List ByteArray), k ≤ s.size ∧ a ≤ k ∧ i = .int .i64 k ∧ f = .int .i64 a ∧ OwnS wr w.heap.size v ss ∧ ss.length ≤ k ∧ Below w.heap.size w wr ∧ Hid (ss ++ (cutG c ((s.data.toList.drop a).take (k - a)) (s.data.toList.drop k)).map mkB = (cutL c s.data.toList).map mkB)) (fun _ _ i _ => s.size - (intOf i).toNat)
  case atStart => exact ⟨0, 0, [], by omega, by omega, rfl, rfl, OwnS.nil _ _, by simp, Below.refl _ _, by show _ = _; simp [cutL]⟩
  case round =>
    obtain ⟨k, a, ss, hk, ha, rfl, rfl, hown, hlen, hbel, hT⟩ := hrel
    by_cases hlt : k < s.size
    · have hlt' : (k : Int) < (s.size : Int) := by omega
      rcases hq : ((s[k].toNat : Int) == (c.toNat : Int)) with _ | _
      · have HT : Hid (ss ++ (cutG c ((s.data.toList.drop a).take (k + 1 - a)) (s.data.toList.drop (k + 1))).map mkB = (cutL c s.data.toList).map mkB) := cut_miss s c a k ss hlt ha (byte_ne hq) hT.out
        clear hT
        go_wp2
        go_roundw
        case rel => exact ⟨k + 1, a, ss, by omega, by omega, by go_num, rfl, hown, by omega, hbel, HT⟩
        case measure => simp [intOf]; omega
      · have HT : Hid ((ss ++ [s.extract a k]) ++ (cutG c ((s.data.toList.drop (k + 1)).take (k + 1 - (k + 1))) (s.data.toList.drop (k + 1))).map mkB = (cutL c s.data.toList).map mkB) := cut_hit s c a k ss hlt (byte_eq hq) hT.out
        clear hT
        have hbz := hbel.size
        have hak : (a : Int) ≤ (k : Int) := by omega
        go_wp2_with (at_builtin; refine wpList_append_str rfl (.tmp 19) (.tmp 24) rfl w.heap.size _ ss rfl hown (s.extract a k) rfl (by omega) (by omega) ?_; intro v1 w1 own1 grow1)
        have b1 : Below w.heap.size w w1 := (hbel.alloc hbz _).grown grow1 (by simp; omega) (fun j hj => (World.ownsRow.lt hown j hj).1)
        go_roundw
        case rel => exact ⟨k + 1, k + 1, ss ++ [s.extract a k], by omega, by omega, by go_num, by go_num, own1, by simp; omega, b1, HT⟩
        case measure => simp [intOf]; omega
    · have HT : Hid (ss ++ [s.extract a s.size] = (cutL c s.data.toList).map mkB) := cut_end s c a k ss (by omega) hT.out
      clear hT
      have hbz := hbel.size
      have has : (a : Int) ≤ (s.size : Int) := by omega
      have hge : (s.size : Int) ≤ (k : Int) := by omega
      clear hlt
      go_wp2_with (at_builtin; refine wpList_append_str rfl (.tmp 28) (.tmp 32) rfl w.heap.size _ ss rfl hown (s.extract a s.size) rfl (by omega) (by omega) ?_; intro v1 w1 own1 grow1)
      have b1 : Below w.heap.size w w1 := (hbel.alloc hbz _).grown grow1 (by simp; omega) (fun j hj => (World.ownsRow.lt hown j hj).1)
      go_ret
      exact ⟨v1, rfl, by rw [← HT.out]; exact own1, b1⟩
end Go.Proofs.YtjhofmmmlemfcaaDoor
