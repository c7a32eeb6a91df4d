/- What strings.Cut at a separator of one byte, and the program's number, return (package addr). -/
import Derived.Test.YtkjjalaelehjeabDoorTxt
import Derived.Test.YtkjjalaelehjeabDoorShelf
import Derived.Deep.RegionWith
import Derived.Deep.DeepCutAuto
namespace Go.Proofs.YtkjjalaelehjeabDoor
open Go.RowKit
set_option linter.unusedVariables false

/-- Nothing but draws. -/
def Drew (w w' : World) : Prop := ∃ n, w' = w.drewN n
theorem Drew.refl (w : World) : Drew w w := ⟨0, rfl⟩
theorem Drew.trans {a b c : World} (h : Drew a b) (k : Drew b c) : Drew a c := by
  obtain ⟨n, rfl⟩ := h
  obtain ⟨m, rfl⟩ := k
  exact ⟨n + m, by simp [World.drewN, Nat.add_assoc]⟩
theorem Drew.below {a b : World} (h : Drew a b) (B : Nat) : Below B a b := by
  obtain ⟨n, rfl⟩ := h
  exact below_drewN (Below.refl _ _) n
theorem Drew.size {a b : World} (h : Drew a b) : b.heap.size = a.heap.size := by
  obtain ⟨n, rfl⟩ := h; rfl

/-- A text around the first c. -/
def splitC (c : UInt8) : List UInt8 → List UInt8 × List UInt8 × Bool
  | [] => ([], [], false)
  | x :: r => if x = c then ([], r, true) else (x :: (splitC c r).1, (splitC c r).2.1, (splitC c r).2.2)
theorem splitC_index (c : UInt8) : ∀ (s : List UInt8), (Lib.indexByte s c < 0 ∧ splitC c s = (s, [], false)) ∨ ∃ k : Nat, k < s.length ∧ Lib.indexByte s c = k ∧ splitC c s = (s.take k, s.drop (k + 1), true)
  | [] => .inl ⟨by unfold Lib.indexByte; decide, rfl⟩
  | x :: r => by
      unfold splitC Lib.indexByte
      by_cases h : x = c
      · rw [if_pos h, if_pos (by simpa using h)]
        exact .inr ⟨0, by simp, rfl, rfl⟩
      · rw [if_neg h, if_neg (by simpa using h)]
        rcases splitC_index c r with ⟨h1, h2⟩ | ⟨k, hk, h1, h2⟩
        · rw [h2]
          have : Lib.indexByte r c = -1 := by have := Lib.indexByte_ge r c; omega
          rw [this]
          exact .inl ⟨by decide, rfl⟩
        · rw [h2, h1, if_neg (by simp)]
          exact .inr ⟨k + 1, by simp; omega, by omega, rfl⟩
theorem splitC_len (c : UInt8) (s : List UInt8) : (splitC c s).1.length ≤ s.length ∧ (splitC c s).2.1.length ≤ s.length := by
  rcases splitC_index c s with ⟨_, h⟩ | ⟨k, hk, _, h⟩ <;> rw [h] <;> simp <;> omega
theorem ret_cut {a a' b b' : ByteArray} {t t' : Bool} (h : a = a') (h2 : b = b') (h3 : t = t') : Ending.returned (.tuple #[.string a, .string b, .bool t]) = .returned (.tuple #[.string a', .string b', .bool t']) := by rw [h, h2, h3]
theorem ext_take (s : ByteArray) (k : Nat) : s.extract 0 k = mkB (s.data.toList.take k) := by
  apply ByteArray.ext; apply Array.ext'; simp [mkB, ByteArray.data_extract]
theorem ext_drop (s : ByteArray) (k : Nat) : s.extract k s.size = mkB (s.data.toList.drop k) := by
  apply ByteArray.ext; apply Array.ext'
  simp [mkB, ByteArray.data_extract]
  rw [List.take_of_length_le (by simp)]

theorem scut_any (s : ByteArray) (c : UInt8) (w : World) (hs : s.size ≤ maxLen) :
    Calls Tryd.prog 28 #[.string s, .string ⟨#[c]⟩] w fun e w' => e = .returned (.tuple #[.string (mkB (splitC c s.data.toList).1), .string (mkB (splitC c s.data.toList).2.1), .bool (splitC c s.data.toList).2.2]) ∧ Drew w w' := by
  unfold maxLen at hs
  have hi := fun w => Tryd.stringslite_Index_one s c w
  rcases splitC_index c s.data.toList with ⟨h1, h2⟩ | ⟨k, hk, h1, h2⟩
  · rw [h2]
    have HS : Hid (mkB s.data.toList = s) := mkB_data s
    generalize Lib.indexByte s.data.toList c = i at hi h1
    clear h2
    go_enter Tryd.func28, Tryd.ntmps28
    go_wp2_with (go_at_call 36; refine (hi _).mono ?_; rintro e w' ⟨rfl, rfl⟩)
    exact bodyPost_ret (v := .tuple #[.string s, .string ⟨#[]⟩, .bool false]) (by simp [results, Tryd.results28, go_sem]) rfl ⟨ret_cut HS.out.symm rfl rfl, Drew.refl _⟩
  · rw [h2]
    have hk' : k < s.size := by simpa using hk
    have H1 : Hid (s.extract 0 k = mkB (s.data.toList.take k)) := ext_take s k
    have H2 : Hid (s.extract (k + 1) s.size = mkB (s.data.toList.drop (k + 1))) := ext_drop s (k + 1)
    rw [h1] at hi
    clear h1 h2 hk
    go_enter Tryd.func28, Tryd.ntmps28
    go_wp2_with (go_at_call 36; refine (hi _).mono ?_; rintro e w' ⟨rfl, rfl⟩)
    go_quiet (fail)
    go_wp2
    exact bodyPost_ret (v := .tuple #[.string (s.extract 0 k), .string (s.extract (k + 1) s.size), .bool true]) (by simp [results, Tryd.results28, go_sem]) rfl ⟨ret_cut H1.out H2.out rfl, _, rfl⟩

theorem strCut_any (s : ByteArray) (c : UInt8) (w : World) (hs : s.size ≤ maxLen) :
    Calls Tryd.prog 20 #[.string s, .string ⟨#[c]⟩] w fun e w' => e = .returned (.tuple #[.string (mkB (splitC c s.data.toList).1), .string (mkB (splitC c s.data.toList).2.1), .bool (splitC c s.data.toList).2.2]) ∧ Drew w w' := by
  have hc := fun w => scut_any s c w hs
  generalize splitC c s.data.toList = t at hc ⊢
  go_enter Tryd.func20, Tryd.ntmps20
  go_wp2_with (go_at_call 28; refine (hc _).mono ?_; rintro e w' ⟨rfl, hd⟩)
  exact bodyPost_ret (v := .tuple #[.string (mkB t.1), .string (mkB t.2.1), .bool t.2.2]) (by simp [results, Tryd.results20, go_sem]) rfl ⟨rfl, hd⟩

def numOK (z most : Int) : Bool := decide (0 ≤ z ∧ z ≤ most)
def numV (z most : Int) : Int := if 0 ≤ z ∧ z ≤ most then z else 0
theorem num_bad {most : Int} : numV (-1) most = 0 ∧ numOK (-1) most = false := by
  unfold numV numOK; rw [if_neg (by omega)]; simp
theorem ret_num {z z' most n : Int} {b : Bool} (h : z' = z) (k : numV z' most = n ∧ numOK z' most = b) : Ending.returned (.tuple #[.int .i64 n, .bool b]) = .returned (.tuple #[.int .i64 (numV z most), .bool (numOK z most)]) := by
  rw [← h, k.1, k.2]

set_option maxHeartbeats 1000000 in
theorem number_any (s : ByteArray) (most : Int) (w : World) (hs : s.size ≤ maxLen) :
    Calls Tryd.prog 21 #[.string s, .int .i64 most] w fun e w' => e = .returned (.tuple #[.int .i64 (numV (wholeL s.data.toList 3) most), .bool (numOK (wholeL s.data.toList 3) most)]) ∧ w' = w := by
  unfold maxLen at hs
  by_cases hz : s.size = 0
  · have hE := empty_of_size hz
    have e : wholeL s.data.toList 3 = -1 := by
      unfold wholeL; rw [if_pos (.inl (List.length_eq_zero_iff.1 (by rw [size_list, hz])))]
    have HF : Hid (numV (-1) most = 0 ∧ numOK (-1) most = false) := num_bad
    rw [e]
    clear e hz
    go_enter Tryd.func21, Tryd.ntmps21
    go_wp2
    exact bodyPost_ret (v := .tuple #[.int .i64 0, .bool false]) (by simp [results, Tryd.results21, go_sem]) rfl ⟨ret_num rfl HF.out, rfl⟩
  have hp : 0 < s.size := by omega
  have hE := full_of_size hp
  by_cases hm : 3 < (s.size : Int)
  · have e : wholeL s.data.toList 3 = -1 := by
      unfold wholeL; rw [if_pos (.inr (.inl (by rw [size_list]; exact hm)))]
    have HF : Hid (numV (-1) most = 0 ∧ numOK (-1) most = false) := num_bad
    rw [e]
    clear e hz
    go_enter Tryd.func21, Tryd.ntmps21
    go_wp2
    exact bodyPost_ret (v := .tuple #[.int .i64 0, .bool false]) (by simp [results, Tryd.results21, go_sem]) rfl ⟨ret_num rfl HF.out, rfl⟩
  have hp' : (0 : Int) < (s.size : Int) := by omega
  have hm' : (s.size : Int) ≤ 3 := by omega
  by_cases hc : (s[0].toNat : Int) = 48 ∧ 1 < s.size
  · obtain ⟨hc1, hc2⟩ := hc
    have e : wholeL s.data.toList 3 = -1 := by
      unfold wholeL; rw [if_pos (.inr (.inr ⟨by rw [head_list hp]; exact hc1, by rw [size_list]; exact hc2⟩))]
    have HF : Hid (numV (-1) most = 0 ∧ numOK (-1) most = false) := num_bad
    rw [e]
    have hc3 : ((s[0].toNat : Int) == 48) = true := by simpa using hc1
    have hc4 : (1 : Int) < (s.size : Int) := by omega
    clear e hz hc1 hm
    go_enter Tryd.func21, Tryd.ntmps21
    go_wp2
    exact bodyPost_ret (v := .tuple #[.int .i64 0, .bool false]) (by simp [results, Tryd.results21, go_sem]) rfl ⟨ret_num rfl HF.out, rfl⟩
  have HE : Hid (numL 0 s.data.toList = wholeL s.data.toList 3) := by
    show numL 0 s.data.toList = wholeL s.data.toList 3
    unfold wholeL
    rw [if_neg]
    rintro (h | h | ⟨h, h'⟩)
    · exact ne_nil_of_size hp h
    · rw [size_list] at h; omega
    · exact hc ⟨by rw [← head_list hp]; exact h, by rw [← size_list]; exact h'⟩
  clear hm hz
  rcases hc3 : ((s[0].toNat : Int) == 48) with _ | _
  · clear hc
    go_enter Tryd.func21, Tryd.ntmps21
    go_wp2
    go_loop [6, 27] (fun v i => ∃ (k : Nat) (n : Int), k ≤ s.size ∧ i = .int .i64 k ∧ v = .int .i64 n ∧ 0 ≤ n ∧ n + 1 ≤ p10 k ∧ Hid (numL n (s.data.toList.drop k) = numL 0 s.data.toList)) (fun _ i => s.size - (intOf i).toNat)
    case atStart => exact ⟨0, 0, by omega, rfl, rfl, by omega, by decide, rfl⟩
    case round =>
      obtain ⟨k, n, hk, rfl, rfl, hn, hp10, hT⟩ := hrel
      have hk18 := p10_le (k := k) (by omega)
      by_cases hlt : k < s.size
      · have hlt' : (k : Int) < (s.size : Int) := by omega
        have st := numL_drop s k n hlt
        by_cases hd : 48 ≤ (s[k].toNat : Int) ∧ (s[k].toNat : Int) ≤ 57
        · rw [if_pos hd] at st
          obtain ⟨d1, d2⟩ := hd
          have HT : Hid (numL (n * 10 + ((s[k].toNat : Int) - 48)) (s.data.toList.drop (k + 1)) = numL 0 s.data.toList) := by
            show numL (n * 10 + ((s[k].toNat : Int) - 48)) (s.data.toList.drop (k + 1)) = numL 0 s.data.toList
            rw [← hT.out, st]; congr 1; omega
          have hs10 := p10_succ k
          have HB : Hid (n * 10 + ((s[k].toNat : Int) - 48) + 1 ≤ p10 (k + 1)) := by
            show n * 10 + ((s[k].toNat : Int) - 48) + 1 ≤ p10 (k + 1)
            omega
          have hk17 := p10_le17 (k := k) (by omega)
          have hn17 : n ≤ 100000000000000000 := by omega
          clear st hT hs10 hp10 hk18 hk17
          go_wp2
          go_round
          case rel => exact ⟨k + 1, n * 10 + ((s[k].toNat : Int) - 48), by omega, by go_num, rfl, by omega, HB.out, HT⟩
          case measure => simp [intOf]; omega
        · rw [if_neg hd] at st
          have HT : Hid ((-1 : Int) = numL 0 s.data.toList) := by
            show (-1 : Int) = numL 0 s.data.toList
            rw [← st]; exact hT.out
          clear st hT hp10 hk18
          have HF : Hid (numV (numL 0 s.data.toList) most = 0 ∧ numOK (numL 0 s.data.toList) most = false) := by
            show numV (numL 0 s.data.toList) most = 0 ∧ numOK (numL 0 s.data.toList) most = false
            rw [← HT.out]; exact num_bad
          by_cases hd1 : (s[k].toNat : Int) < 48
          · clear hd
            go_wp2
            exact bodyPost_ret (v := .tuple #[.int .i64 0, .bool false]) (by simp [results, Tryd.results21, go_sem]) rfl ⟨ret_num HE.out HF.out, rfl⟩
          · have hd2 : 57 < (s[k].toNat : Int) := by omega
            clear hd
            go_wp2
            exact bodyPost_ret (v := .tuple #[.int .i64 0, .bool false]) (by simp [results, Tryd.results21, go_sem]) rfl ⟨ret_num HE.out HF.out, rfl⟩
      · have HT : Hid (n = numL 0 s.data.toList) := by
          show n = numL 0 s.data.toList
          rw [← hT.out, numL_end s k n (by omega)]
        have hge : (s.size : Int) ≤ (k : Int) := by omega
        clear hT hp10 hk18 hlt
        by_cases hmo : most < n
        · have HF : Hid (numV (numL 0 s.data.toList) most = 0 ∧ numOK (numL 0 s.data.toList) most = false) := by
            show numV (numL 0 s.data.toList) most = 0 ∧ numOK (numL 0 s.data.toList) most = false
            rw [← HT.out]; unfold numV numOK; rw [if_neg (by omega)]; simp; omega
          go_wp2
          exact bodyPost_ret (v := .tuple #[.int .i64 0, .bool false]) (by simp [results, Tryd.results21, go_sem]) rfl ⟨ret_num HE.out HF.out, rfl⟩
        · have HF : Hid (numV (numL 0 s.data.toList) most = n ∧ numOK (numL 0 s.data.toList) most = true) := by
            show numV (numL 0 s.data.toList) most = n ∧ numOK (numL 0 s.data.toList) most = true
            rw [← HT.out]; unfold numV numOK; rw [if_pos (by omega)]; simp; omega
          have hmo' : n ≤ most := by omega
          clear hmo
          go_wp2
          exact bodyPost_ret (v := .tuple #[.int .i64 n, .bool true]) (by simp [results, Tryd.results21, go_sem]) rfl ⟨ret_num HE.out HF.out, rfl⟩
  · have hc5 : (s.size : Int) ≤ 1 := by
      rcases Nat.lt_or_ge 1 s.size with h | h
      · exact absurd ⟨by simpa using hc3, h⟩ hc
      · omega
    clear hc
    go_enter Tryd.func21, Tryd.ntmps21
    go_wp2
    go_loop [6, 27] (fun v i => ∃ (k : Nat) (n : Int), k ≤ s.size ∧ i = .int .i64 k ∧ v = .int .i64 n ∧ 0 ≤ n ∧ n + 1 ≤ p10 k ∧ Hid (numL n (s.data.toList.drop k) = numL 0 s.data.toList)) (fun _ i => s.size - (intOf i).toNat)
    case atStart => exact ⟨0, 0, by omega, rfl, rfl, by omega, by decide, rfl⟩
    case round =>
      obtain ⟨k, n, hk, rfl, rfl, hn, hp10, hT⟩ := hrel
      have hk18 := p10_le (k := k) (by omega)
      by_cases hlt : k < s.size
      · have hlt' : (k : Int) < (s.size : Int) := by omega
        have st := numL_drop s k n hlt
        by_cases hd : 48 ≤ (s[k].toNat : Int) ∧ (s[k].toNat : Int) ≤ 57
        · rw [if_pos hd] at st
          obtain ⟨d1, d2⟩ := hd
          have HT : Hid (numL (n * 10 + ((s[k].toNat : Int) - 48)) (s.data.toList.drop (k + 1)) = numL 0 s.data.toList) := by
            show numL (n * 10 + ((s[k].toNat : Int) - 48)) (s.data.toList.drop (k + 1)) = numL 0 s.data.toList
            rw [← hT.out, st]; congr 1; omega
          have hs10 := p10_succ k
          have HB : Hid (n * 10 + ((s[k].toNat : Int) - 48) + 1 ≤ p10 (k + 1)) := by
            show n * 10 + ((s[k].toNat : Int) - 48) + 1 ≤ p10 (k + 1)
            omega
          have hk17 := p10_le17 (k := k) (by omega)
          have hn17 : n ≤ 100000000000000000 := by omega
          clear st hT hs10 hp10 hk18 hk17
          go_wp2
          go_round
          case rel => exact ⟨k + 1, n * 10 + ((s[k].toNat : Int) - 48), by omega, by go_num, rfl, by omega, HB.out, HT⟩
          case measure => simp [intOf]; omega
        · rw [if_neg hd] at st
          have HT : Hid ((-1 : Int) = numL 0 s.data.toList) := by
            show (-1 : Int) = numL 0 s.data.toList
            rw [← st]; exact hT.out
          clear st hT hp10 hk18
          have HF : Hid (numV (numL 0 s.data.toList) most = 0 ∧ numOK (numL 0 s.data.toList) most = false) := by
            show numV (numL 0 s.data.toList) most = 0 ∧ numOK (numL 0 s.data.toList) most = false
            rw [← HT.out]; exact num_bad
          by_cases hd1 : (s[k].toNat : Int) < 48
          · clear hd
            go_wp2
            exact bodyPost_ret (v := .tuple #[.int .i64 0, .bool false]) (by simp [results, Tryd.results21, go_sem]) rfl ⟨ret_num HE.out HF.out, rfl⟩
          · have hd2 : 57 < (s[k].toNat : Int) := by omega
            clear hd
            go_wp2
            exact bodyPost_ret (v := .tuple #[.int .i64 0, .bool false]) (by simp [results, Tryd.results21, go_sem]) rfl ⟨ret_num HE.out HF.out, rfl⟩
      · have HT : Hid (n = numL 0 s.data.toList) := by
          show n = numL 0 s.data.toList
          rw [← hT.out, numL_end s k n (by omega)]
        have hge : (s.size : Int) ≤ (k : Int) := by omega
        clear hT hp10 hk18 hlt
        by_cases hmo : most < n
        · have HF : Hid (numV (numL 0 s.data.toList) most = 0 ∧ numOK (numL 0 s.data.toList) most = false) := by
            show numV (numL 0 s.data.toList) most = 0 ∧ numOK (numL 0 s.data.toList) most = false
            rw [← HT.out]; unfold numV numOK; rw [if_neg (by omega)]; simp; omega
          go_wp2
          exact bodyPost_ret (v := .tuple #[.int .i64 0, .bool false]) (by simp [results, Tryd.results21, go_sem]) rfl ⟨ret_num HE.out HF.out, rfl⟩
        · have HF : Hid (numV (numL 0 s.data.toList) most = n ∧ numOK (numL 0 s.data.toList) most = true) := by
            show numV (numL 0 s.data.toList) most = n ∧ numOK (numL 0 s.data.toList) most = true
            rw [← HT.out]; unfold numV numOK; rw [if_pos (by omega)]; simp; omega
          have hmo' : n ≤ most := by omega
          clear hmo
          go_wp2
          exact bodyPost_ret (v := .tuple #[.int .i64 n, .bool true]) (by simp [results, Tryd.results21, go_sem]) rfl ⟨ret_num HE.out HF.out, rfl⟩
end Go.Proofs.YtkjjalaelehjeabDoor
