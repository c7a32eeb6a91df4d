/- What the reference's Whole and ShowPrefix return (package portref1): a number of a text of digits; a prefix as text. -/
import Derived.Test.YtaimahlhlfifnaaGreatDoorStr
namespace Go.Proofs.YtaimahlhlfifnaaGreatDoor
open Go.RowKit
set_option linter.unusedVariables false

set_option maxHeartbeats 1000000 in
theorem whole_any (s : ByteArray) (most : Int) (w : World) (h0 : 0 ≤ most) (h1 : most ≤ 18) (hs : s.size ≤ maxLen) :
    Calls Tryz.prog 26 #[.string s, .int .i64 most] w fun e w' => e = .returned (.int .i64 (wholeL s.data.toList most)) ∧ w' = w := by
  unfold maxLen at hs
  by_cases hz : s.size = 0
  · have hE := empty_of_size hz
    have e : wholeL s.data.toList most = -1 := by
      unfold wholeL; rw [if_pos (.inl (List.length_eq_zero_iff.1 (by rw [size_list, hz])))]
    rw [e]
    clear e hz
    go_enter Tryz.func26, Tryz.ntmps26
    go_wp2
    go_ret
    exact ⟨rfl, rfl⟩
  have hp : 0 < s.size := by omega
  have hE := full_of_size hp
  by_cases hm : most < (s.size : Int)
  · have e : wholeL s.data.toList most = -1 := by
      unfold wholeL; rw [if_pos (.inr (.inl (by rw [size_list]; exact hm)))]
    rw [e]
    clear e hz
    go_enter Tryz.func26, Tryz.ntmps26
    go_wp2
    go_ret
    exact ⟨rfl, rfl⟩
  have hp' : (0 : Int) < (s.size : Int) := by omega
  have hm' : (s.size : Int) ≤ most := by omega
  by_cases hc : (s[0].toNat : Int) = 48 ∧ 1 < s.size
  · obtain ⟨hc1, hc2⟩ := hc
    have e : wholeL s.data.toList most = -1 := by
      unfold wholeL; rw [if_pos (.inr (.inr ⟨by rw [head_list hp]; exact hc1, by rw [size_list]; exact hc2⟩))]
    rw [e]
    have hc3 : ((s[0].toNat : Int) == 48) = true := by simpa using hc1
    have hc4 : (1 : Int) < (s.size : Int) := by omega
    clear e hz hc1 hm
    go_enter Tryz.func26, Tryz.ntmps26
    go_wp2
    go_ret
    exact ⟨rfl, rfl⟩
  have HE : Hid (numL 0 s.data.toList = wholeL s.data.toList most) := by
    show numL 0 s.data.toList = wholeL s.data.toList most
    unfold wholeL
    rw [if_neg]
    rintro (h | h | ⟨h, h'⟩)
    · exact ne_nil_of_size hp h
    · rw [size_list] at h; omega
    · exact hc ⟨by rw [← head_list hp]; exact h, by rw [← size_list]; exact h'⟩
  clear hm hz
  rcases hc3 : ((s[0].toNat : Int) == 48) with _ | _
  · clear hc
    go_enter Tryz.func26, Tryz.ntmps26
    go_wp2
    go_loop [5, 6] (fun v i => ∃ (k : Nat) (n : Int), k ≤ s.size ∧ i = .int .i64 k ∧ v = .int .i64 n ∧ 0 ≤ n ∧ n + 1 ≤ p10 k ∧ Hid (numL n (s.data.toList.drop k) = numL 0 s.data.toList)) (fun _ i => s.size - (intOf i).toNat)
    case atStart => exact ⟨0, 0, by omega, rfl, rfl, by omega, by decide, rfl⟩
    case round =>
      obtain ⟨k, n, hk, rfl, rfl, hn, hp10, hT⟩ := hrel
      have hk18 := p10_le (k := k) (by omega)
      by_cases hlt : k < s.size
      · have hlt' : (k : Int) < (s.size : Int) := by omega
        have st := numL_drop s k n hlt
        by_cases hd : 48 ≤ (s[k].toNat : Int) ∧ (s[k].toNat : Int) ≤ 57
        · rw [if_pos hd] at st
          obtain ⟨d1, d2⟩ := hd
          have HT : Hid (numL (n * 10 + (s[k].toNat : Int) - 48) (s.data.toList.drop (k + 1)) = numL 0 s.data.toList) := by
            show numL (n * 10 + (s[k].toNat : Int) - 48) (s.data.toList.drop (k + 1)) = numL 0 s.data.toList
            rw [← st]; exact hT.out
          have hs10 := p10_succ k
          have HB : Hid (n * 10 + (s[k].toNat : Int) - 48 + 1 ≤ p10 (k + 1)) := by
            show n * 10 + (s[k].toNat : Int) - 48 + 1 ≤ p10 (k + 1)
            omega
          have hk17 := p10_le17 (k := k) (by omega)
          have hn17 : n ≤ 100000000000000000 := by omega
          clear st hT hs10 hp10 hk18 hk17
          go_wp2
          go_round
          case rel => exact ⟨k + 1, _, by omega, by go_num, rfl, by omega, HB.out, HT⟩
          case measure => simp [intOf]; omega
        · rw [if_neg hd] at st
          have HT : Hid ((-1 : Int) = numL 0 s.data.toList) := by
            show (-1 : Int) = numL 0 s.data.toList
            rw [← st]; exact hT.out
          clear st hT hp10 hk18
          by_cases hd1 : (s[k].toNat : Int) < 48
          · clear hd
            go_wp2
            go_ret
            exact ⟨ret_i64 (HT.out.trans HE.out), rfl⟩
          · have hd2 : 57 < (s[k].toNat : Int) := by omega
            clear hd
            go_wp2
            go_ret
            exact ⟨ret_i64 (HT.out.trans HE.out), rfl⟩
      · have HT : Hid (n = numL 0 s.data.toList) := by
          show n = numL 0 s.data.toList
          rw [← hT.out, numL_end s k n (by omega)]
        have hge : (s.size : Int) ≤ (k : Int) := by omega
        clear hT hp10 hk18 hlt
        go_wp2
        go_ret
        exact ⟨ret_i64 (HT.out.trans HE.out), rfl⟩
  · have hc5 : (s.size : Int) ≤ 1 := by
      rcases Nat.lt_or_ge 1 s.size with h | h
      · exact absurd ⟨by simpa using hc3, h⟩ hc
      · omega
    clear hc
    go_enter Tryz.func26, Tryz.ntmps26
    go_wp2
    go_loop [5, 6] (fun v i => ∃ (k : Nat) (n : Int), k ≤ s.size ∧ i = .int .i64 k ∧ v = .int .i64 n ∧ 0 ≤ n ∧ n + 1 ≤ p10 k ∧ Hid (numL n (s.data.toList.drop k) = numL 0 s.data.toList)) (fun _ i => s.size - (intOf i).toNat)
    case atStart => exact ⟨0, 0, by omega, rfl, rfl, by omega, by decide, rfl⟩
    case round =>
      obtain ⟨k, n, hk, rfl, rfl, hn, hp10, hT⟩ := hrel
      have hk18 := p10_le (k := k) (by omega)
      by_cases hlt : k < s.size
      · have hlt' : (k : Int) < (s.size : Int) := by omega
        have st := numL_drop s k n hlt
        by_cases hd : 48 ≤ (s[k].toNat : Int) ∧ (s[k].toNat : Int) ≤ 57
        · rw [if_pos hd] at st
          obtain ⟨d1, d2⟩ := hd
          have HT : Hid (numL (n * 10 + (s[k].toNat : Int) - 48) (s.data.toList.drop (k + 1)) = numL 0 s.data.toList) := by
            show numL (n * 10 + (s[k].toNat : Int) - 48) (s.data.toList.drop (k + 1)) = numL 0 s.data.toList
            rw [← st]; exact hT.out
          have hs10 := p10_succ k
          have HB : Hid (n * 10 + (s[k].toNat : Int) - 48 + 1 ≤ p10 (k + 1)) := by
            show n * 10 + (s[k].toNat : Int) - 48 + 1 ≤ p10 (k + 1)
            omega
          have hk17 := p10_le17 (k := k) (by omega)
          have hn17 : n ≤ 100000000000000000 := by omega
          clear st hT hs10 hp10 hk18 hk17
          go_wp2
          go_round
          case rel => exact ⟨k + 1, _, by omega, by go_num, rfl, by omega, HB.out, HT⟩
          case measure => simp [intOf]; omega
        · rw [if_neg hd] at st
          have HT : Hid ((-1 : Int) = numL 0 s.data.toList) := by
            show (-1 : Int) = numL 0 s.data.toList
            rw [← st]; exact hT.out
          clear st hT hp10 hk18
          by_cases hd1 : (s[k].toNat : Int) < 48
          · clear hd
            go_wp2
            go_ret
            exact ⟨ret_i64 (HT.out.trans HE.out), rfl⟩
          · have hd2 : 57 < (s[k].toNat : Int) := by omega
            clear hd
            go_wp2
            go_ret
            exact ⟨ret_i64 (HT.out.trans HE.out), rfl⟩
      · have HT : Hid (n = numL 0 s.data.toList) := by
          show n = numL 0 s.data.toList
          rw [← hT.out, numL_end s k n (by omega)]
        have hge : (s.size : Int) ≤ (k : Int) := by omega
        clear hT hp10 hk18 hlt
        go_wp2
        go_ret
        exact ⟨ret_i64 (HT.out.trans HE.out), rfl⟩
end Go.Proofs.YtaimahlhlfifnaaGreatDoor
