/- What strings.Cut at a separator of one byte returns. -/
import Derived.Test.YtjhofmmmlemfcaaDoorTxt
import Derived.Test.YtjhofmmmlemfcaaDoorShelf
import Derived.Deep.RegionWith
import Derived.Deep.DeepCutAuto
namespace Go.Proofs.YtjhofmmmlemfcaaDoor
open Go.RowKit
set_option linter.unusedVariables false

/-- Nothing but draws. -/
def Drew (w w' : World) : Prop := ∃ n, w' = w.drewN n
theorem Drew.refl (w : World) : Drew w w := ⟨0, rfl⟩
theorem Drew.trans {a b c : World} (h : Drew a b) (k : Drew b c) : Drew a c := by
  obtain ⟨n, rfl⟩ := h
  obtain ⟨m, rfl⟩ := k
  exact ⟨n + m, by simp [World.drewN, Nat.add_assoc]⟩
theorem Drew.below {a b : World} (h : Drew a b) (B : Nat) : Below B a b := by
  obtain ⟨n, rfl⟩ := h
  exact below_drewN (Below.refl _ _) n
theorem Drew.size {a b : World} (h : Drew a b) : b.heap.size = a.heap.size := by
  obtain ⟨n, rfl⟩ := h; rfl

/-- A text around the first c. -/
def splitC (c : UInt8) : List UInt8 → List UInt8 × List UInt8 × Bool
  | [] => ([], [], false)
  | x :: r => if x = c then ([], r, true) else (x :: (splitC c r).1, (splitC c r).2.1, (splitC c r).2.2)
theorem splitC_index (c : UInt8) : ∀ (s : List UInt8), (Lib.indexByte s c < 0 ∧ splitC c s = (s, [], false)) ∨ ∃ k : Nat, k < s.length ∧ Lib.indexByte s c = k ∧ splitC c s = (s.take k, s.drop (k + 1), true)
  | [] => .inl ⟨by unfold Lib.indexByte; decide, rfl⟩
  | x :: r => by
      unfold splitC Lib.indexByte
      by_cases h : x = c
      · rw [if_pos h, if_pos (by simpa using h)]
        exact .inr ⟨0, by simp, rfl, rfl⟩
      · rw [if_neg h, if_neg (by simpa using h)]
        rcases splitC_index c r with ⟨h1, h2⟩ | ⟨k, hk, h1, h2⟩
        · rw [h2]
          have : Lib.indexByte r c = -1 := by have := Lib.indexByte_ge r c; omega
          rw [this]
          exact .inl ⟨by decide, rfl⟩
        · rw [h2, h1, if_neg (by simp)]
          exact .inr ⟨k + 1, by simp; omega, by omega, rfl⟩
theorem splitC_len (c : UInt8) (s : List UInt8) : (splitC c s).1.length ≤ s.length ∧ (splitC c s).2.1.length ≤ s.length := by
  rcases splitC_index c s with ⟨_, h⟩ | ⟨k, hk, _, h⟩ <;> rw [h] <;> simp <;> omega
theorem ret_cut {a a' b b' : ByteArray} {t t' : Bool} (h : a = a') (h2 : b = b') (h3 : t = t') : Ending.returned (.tuple #[.string a, .string b, .bool t]) = .returned (.tuple #[.string a', .string b', .bool t']) := by rw [h, h2, h3]
theorem ext_take (s : ByteArray) (k : Nat) : s.extract 0 k = mkB (s.data.toList.take k) := by
  apply ByteArray.ext; apply Array.ext'; simp [mkB, ByteArray.data_extract]
theorem ext_drop (s : ByteArray) (k : Nat) : s.extract k s.size = mkB (s.data.toList.drop k) := by
  apply ByteArray.ext; apply Array.ext'
  simp [mkB, ByteArray.data_extract]
  rw [List.take_of_length_le (by simp)]

theorem scut_any (s : ByteArray) (c : UInt8) (w : World) (hs : s.size ≤ maxLen) :
    Calls Tryd.prog 24 #[.string s, .string ⟨#[c]⟩] w fun e w' => e = .returned (.tuple #[.string (mkB (splitC c s.data.toList).1), .string (mkB (splitC c s.data.toList).2.1), .bool (splitC c s.data.toList).2.2]) ∧ Drew w w' := by
  unfold maxLen at hs
  have hi := fun w => Tryd.stringslite_Index_one s c w
  rcases splitC_index c s.data.toList with ⟨h1, h2⟩ | ⟨k, hk, h1, h2⟩
  · rw [h2]
    have HS : Hid (mkB s.data.toList = s) := mkB_data s
    generalize Lib.indexByte s.data.toList c = i at hi h1
    clear h2
    go_enter Tryd.func24, Tryd.ntmps24
    go_wp2_with (go_at_call 44; refine (hi _).mono ?_; rintro e w' ⟨rfl, rfl⟩)
    exact bodyPost_ret (v := .tuple #[.string s, .string ⟨#[]⟩, .bool false]) (by simp [results, Tryd.results24, go_sem]) rfl ⟨ret_cut HS.out.symm rfl rfl, Drew.refl _⟩
  · rw [h2]
    have hk' : k < s.size := by simpa using hk
    have H1 : Hid (s.extract 0 k = mkB (s.data.toList.take k)) := ext_take s k
    have H2 : Hid (s.extract (k + 1) s.size = mkB (s.data.toList.drop (k + 1))) := ext_drop s (k + 1)
    rw [h1] at hi
    clear h1 h2 hk
    go_enter Tryd.func24, Tryd.ntmps24
    go_wp2_with (go_at_call 44; refine (hi _).mono ?_; rintro e w' ⟨rfl, rfl⟩)
    go_quiet (fail)
    go_wp2
    exact bodyPost_ret (v := .tuple #[.string (s.extract 0 k), .string (s.extract (k + 1) s.size), .bool true]) (by simp [results, Tryd.results24, go_sem]) rfl ⟨ret_cut H1.out H2.out rfl, _, rfl⟩

theorem strCut_any (s : ByteArray) (c : UInt8) (w : World) (hs : s.size ≤ maxLen) :
    Calls Tryd.prog 13 #[.string s, .string ⟨#[c]⟩] w fun e w' => e = .returned (.tuple #[.string (mkB (splitC c s.data.toList).1), .string (mkB (splitC c s.data.toList).2.1), .bool (splitC c s.data.toList).2.2]) ∧ Drew w w' := by
  have hc := fun w => scut_any s c w hs
  generalize splitC c s.data.toList = t at hc ⊢
  go_enter Tryd.func13, Tryd.ntmps13
  go_wp2_with (go_at_call 24; refine (hc _).mono ?_; rintro e w' ⟨rfl, hd⟩)
  exact bodyPost_ret (v := .tuple #[.string (mkB t.1), .string (mkB t.2.1), .bool t.2.2]) (by simp [results, Tryd.results13, go_sem]) rfl ⟨rfl, hd⟩

end Go.Proofs.YtjhofmmmlemfcaaDoor
