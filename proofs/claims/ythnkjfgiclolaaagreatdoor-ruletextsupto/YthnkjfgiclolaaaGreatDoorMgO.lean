/- What the reference's Digits and Show return (package portref1). -/
import Derived.Test.YthnkjfgiclolaaaGreatDoorMgM
import Derived.Test.YthnkjfgiclolaaaGreatDoorMgF
namespace Go.Proofs.YthnkjfgiclolaaaGreatDoor
open Go.RowKit
set_option linter.unusedVariables false

theorem ten_digits (m : Nat) (h : m < 10) : ByteArray.extract ⟨#[48, 49, 50, 51, 52, 53, 54, 55, 56, 57]⟩ m (m + 1) = mkB [48 + UInt8.ofNat m] := by
  have : ∀ k : Fin 10, ByteArray.extract ⟨#[48, 49, 50, 51, 52, 53, 54, 55, 56, 57]⟩ k.val (k.val + 1) = mkB [48 + UInt8.ofNat k.val] := by decide
  exact this ⟨m, h⟩

theorem digits_nat (m : Nat) : m ≤ 4611686018427387904 → ∀ w : World,
    Calls Tryz.prog 45 #[.int .i64 m] w fun e w' => e = .returned (.string (mkB (digL m))) ∧ w' = w := by
  induction m using Nat.strongRecOn with
  | _ m ih =>
    intro hm w
    by_cases h : m < 10
    · have HT : Hid (ByteArray.extract ⟨#[48, 49, 50, 51, 52, 53, 54, 55, 56, 57]⟩ m (m + 1) = mkB (digL m)) := by
        show ByteArray.extract _ m (m + 1) = mkB (digL m)
        rw [digL_lt h]; exact ten_digits m h
      clear ih
      go_enter Tryz.func45, Tryz.ntmps45
      go_wp2
      go_ret
      exact ⟨ret_str HT.out, rfl⟩
    · have hc := ih (m / 10) (by omega) (by omega) w
      have HT : Hid (mkB (digL (m / 10)) ++ ByteArray.extract ⟨#[48, 49, 50, 51, 52, 53, 54, 55, 56, 57]⟩ (m % 10) (m % 10 + 1) = mkB (digL m)) := by
        show mkB (digL (m / 10)) ++ ByteArray.extract _ (m % 10) (m % 10 + 1) = mkB (digL m)
        rw [digL_ge h, ten_digits (m % 10) (by omega), mkB_append]
      have hl := digL_len (m / 10)
      have hz : (mkB (digL (m / 10))).size ≤ m / 10 + 1 := by rw [mkB_size]; exact hl
      have r1 : m % 10 < 10 := by omega
      have r2 : (m : Int) % 10 < 10 := by omega
      have r3 : 0 ≤ (m : Int) % 10 := by omega
      have e1 : ((m / 10 : Nat) : Int) = (m : Int) / 10 := by omega
      rw [e1] at hc
      clear ih hl e1
      go_enter Tryz.func45, Tryz.ntmps45
      go_wp2_with (go_at_call 45; refine hc.mono ?_; rintro e w' ⟨rfl, rfl⟩)
      go_ret
      exact ⟨ret_str HT.out, rfl⟩
theorem digits_any (n : Int) (w : World) (h0 : 0 ≤ n) (h1 : n ≤ 4611686018427387904) :
    Calls Tryz.prog 45 #[.int .i64 n] w fun e w' => e = .returned (.string (mkB (digL n.toNat))) ∧ w' = w := by
  obtain ⟨m, rfl⟩ := Int.eq_ofNat_of_zero_le h0
  have := digits_nat m (by omega) w
  simpa using this

set_option maxHeartbeats 2000000 in
theorem show_any (a : Int) (w : World) (h0 : 0 ≤ a) (h1 : a ≤ 4294967295) :
    Calls Tryz.prog 44 #[.int .i64 a] w fun e w' => e = .returned (.string (mkB (showL a))) ∧ w' = w := by
  have q24 : pw 24 = 16777216 := by decide
  have q16 : pw 16 = 65536 := by decide
  have q8 : pw 8 = 256 := by decide
  have q0 : pw 0 = 1 := by decide
  have HS : Hid (mkB [] ++ mkB (digL (a / 16777216 % 256).toNat) ++ mkB [46] ++ mkB (digL (a / 65536 % 256).toNat) ++ mkB [46] ++ mkB (digL (a / 256 % 256).toNat) ++ mkB [46] ++ mkB (digL (a % 256).toNat) = mkB (showL a)) := by
    show _ = mkB (showL a)
    simp only [mkB_append, showL, List.nil_append]
  have z3 : (mkB (digL (a / 16777216 % 256).toNat)).size ≤ 256 := by rw [mkB_size]; exact digL_small (by omega)
  have z2 : (mkB (digL (a / 65536 % 256).toNat)).size ≤ 256 := by rw [mkB_size]; exact digL_small (by omega)
  have z1 : (mkB (digL (a / 256 % 256).toNat)).size ≤ 256 := by rw [mkB_size]; exact digL_small (by omega)
  have z0 : (mkB (digL (a % 256).toNat)).size ≤ 256 := by rw [mkB_size]; exact digL_small (by omega)
  go_enter Tryz.func44, Tryz.ntmps44
  go_wp2
  refine wp_loop_rounds 5 ?_
  rw [rounds_succ]
  go_wp2_with (first | (go_at_call 78; refine (pow_any _ _ (by omega) (by omega)).mono ?_; rintro e w' ⟨rfl, rfl⟩) | (go_at_call 45; refine (digits_any _ _ (by omega) (by omega)).mono ?_; rintro e w' ⟨rfl, rfl⟩))
  rw [rounds_succ]
  go_wp2_with (first | (go_at_call 78; refine (pow_any _ _ (by omega) (by omega)).mono ?_; rintro e w' ⟨rfl, rfl⟩) | (go_at_call 45; refine (digits_any _ _ (by omega) (by omega)).mono ?_; rintro e w' ⟨rfl, rfl⟩))
  rw [rounds_succ]
  go_wp2_with (first | (go_at_call 78; refine (pow_any _ _ (by omega) (by omega)).mono ?_; rintro e w' ⟨rfl, rfl⟩) | (go_at_call 45; refine (digits_any _ _ (by omega) (by omega)).mono ?_; rintro e w' ⟨rfl, rfl⟩))
  rw [rounds_succ]
  go_wp2_with (first | (go_at_call 78; refine (pow_any _ _ (by omega) (by omega)).mono ?_; rintro e w' ⟨rfl, rfl⟩) | (go_at_call 45; refine (digits_any _ _ (by omega) (by omega)).mono ?_; rintro e w' ⟨rfl, rfl⟩))
  rw [rounds_succ]
  go_wp2_with (first | (go_at_call 78; refine (pow_any _ _ (by omega) (by omega)).mono ?_; rintro e w' ⟨rfl, rfl⟩) | (go_at_call 45; refine (digits_any _ _ (by omega) (by omega)).mono ?_; rintro e w' ⟨rfl, rfl⟩))
  go_ret
  exact ⟨ret_str HS.out, rfl⟩
end Go.Proofs.YthnkjfgiclolaaaGreatDoor

namespace Go.Proofs.YthnkjfgiclolaaaGreatDoor
open Go.RowKit
set_option linter.unusedVariables false

set_option maxHeartbeats 1000000 in
theorem whole_any (s : ByteArray) (most : Int) (w : World) (h0 : 0 ≤ most) (h1 : most ≤ 18) (hs : s.size ≤ maxLen) :
    Calls Tryz.prog 116 #[.string s, .int .i64 most] w fun e w' => e = .returned (.int .i64 (wholeL s.data.toList most)) ∧ w' = w := by
  unfold maxLen at hs
  by_cases hz : s.size = 0
  · have hE := empty_of_size hz
    have e : wholeL s.data.toList most = -1 := by
      unfold wholeL; rw [if_pos (.inl (List.length_eq_zero_iff.1 (by rw [size_list, hz])))]
    rw [e]
    clear e hz
    go_enter Tryz.func116, Tryz.ntmps116
    go_wp2
    go_ret
    exact ⟨rfl, rfl⟩
  have hp : 0 < s.size := by omega
  have hE := full_of_size hp
  by_cases hm : most < (s.size : Int)
  · have e : wholeL s.data.toList most = -1 := by
      unfold wholeL; rw [if_pos (.inr (.inl (by rw [size_list]; exact hm)))]
    rw [e]
    clear e hz
    go_enter Tryz.func116, Tryz.ntmps116
    go_wp2
    go_ret
    exact ⟨rfl, rfl⟩
  have hp' : (0 : Int) < (s.size : Int) := by omega
  have hm' : (s.size : Int) ≤ most := by omega
  by_cases hc : (s[0].toNat : Int) = 48 ∧ 1 < s.size
  · obtain ⟨hc1, hc2⟩ := hc
    have e : wholeL s.data.toList most = -1 := by
      unfold wholeL; rw [if_pos (.inr (.inr ⟨by rw [head_list hp]; exact hc1, by rw [size_list]; exact hc2⟩))]
    rw [e]
    have hc3 : ((s[0].toNat : Int) == 48) = true := by simpa using hc1
    have hc4 : (1 : Int) < (s.size : Int) := by omega
    clear e hz hc1 hm
    go_enter Tryz.func116, Tryz.ntmps116
    go_wp2
    go_ret
    exact ⟨rfl, rfl⟩
  have HE : Hid (numL 0 s.data.toList = wholeL s.data.toList most) := by
    show numL 0 s.data.toList = wholeL s.data.toList most
    unfold wholeL
    rw [if_neg]
    rintro (h | h | ⟨h, h'⟩)
    · exact ne_nil_of_size hp h
    · rw [size_list] at h; omega
    · exact hc ⟨by rw [← head_list hp]; exact h, by rw [← size_list]; exact h'⟩
  clear hm hz
  rcases hc3 : ((s[0].toNat : Int) == 48) with _ | _
  · clear hc
    go_enter Tryz.func116, Tryz.ntmps116
    go_wp2
    go_loop [5, 6] (fun v i => ∃ (k : Nat) (n : Int), k ≤ s.size ∧ i = .int .i64 k ∧ v = .int .i64 n ∧ 0 ≤ n ∧ n + 1 ≤ p10 k ∧ Hid (numL n (s.data.toList.drop k) = numL 0 s.data.toList)) (fun _ i => s.size - (intOf i).toNat)
    case atStart => exact ⟨0, 0, by omega, rfl, rfl, by omega, by decide, rfl⟩
    case round =>
      obtain ⟨k, n, hk, rfl, rfl, hn, hp10, hT⟩ := hrel
      have hk18 := p10_le (k := k) (by omega)
      by_cases hlt : k < s.size
      · have hlt' : (k : Int) < (s.size : Int) := by omega
        have st := numL_drop s k n hlt
        by_cases hd : 48 ≤ (s[k].toNat : Int) ∧ (s[k].toNat : Int) ≤ 57
        · rw [if_pos hd] at st
          obtain ⟨d1, d2⟩ := hd
          have HT : Hid (numL (n * 10 + (s[k].toNat : Int) - 48) (s.data.toList.drop (k + 1)) = numL 0 s.data.toList) := by
            show numL (n * 10 + (s[k].toNat : Int) - 48) (s.data.toList.drop (k + 1)) = numL 0 s.data.toList
            rw [← st]; exact hT.out
          have hs10 := p10_succ k
          have HB : Hid (n * 10 + (s[k].toNat : Int) - 48 + 1 ≤ p10 (k + 1)) := by
            show n * 10 + (s[k].toNat : Int) - 48 + 1 ≤ p10 (k + 1)
            omega
          have hk17 := p10_le17 (k := k) (by omega)
          have hn17 : n ≤ 100000000000000000 := by omega
          clear st hT hs10 hp10 hk18 hk17
          go_wp2
          go_round
          case rel => exact ⟨k + 1, _, by omega, by go_num, rfl, by omega, HB.out, HT⟩
          case measure => simp [intOf]; omega
        · rw [if_neg hd] at st
          have HT : Hid ((-1 : Int) = numL 0 s.data.toList) := by
            show (-1 : Int) = numL 0 s.data.toList
            rw [← st]; exact hT.out
          clear st hT hp10 hk18
          by_cases hd1 : (s[k].toNat : Int) < 48
          · clear hd
            go_wp2
            go_ret
            exact ⟨ret_i64 (HT.out.trans HE.out), rfl⟩
          · have hd2 : 57 < (s[k].toNat : Int) := by omega
            clear hd
            go_wp2
            go_ret
            exact ⟨ret_i64 (HT.out.trans HE.out), rfl⟩
      · have HT : Hid (n = numL 0 s.data.toList) := by
          show n = numL 0 s.data.toList
          rw [← hT.out, numL_end s k n (by omega)]
        have hge : (s.size : Int) ≤ (k : Int) := by omega
        clear hT hp10 hk18 hlt
        go_wp2
        go_ret
        exact ⟨ret_i64 (HT.out.trans HE.out), rfl⟩
  · have hc5 : (s.size : Int) ≤ 1 := by
      rcases Nat.lt_or_ge 1 s.size with h | h
      · exact absurd ⟨by simpa using hc3, h⟩ hc
      · omega
    clear hc
    go_enter Tryz.func116, Tryz.ntmps116
    go_wp2
    go_loop [5, 6] (fun v i => ∃ (k : Nat) (n : Int), k ≤ s.size ∧ i = .int .i64 k ∧ v = .int .i64 n ∧ 0 ≤ n ∧ n + 1 ≤ p10 k ∧ Hid (numL n (s.data.toList.drop k) = numL 0 s.data.toList)) (fun _ i => s.size - (intOf i).toNat)
    case atStart => exact ⟨0, 0, by omega, rfl, rfl, by omega, by decide, rfl⟩
    case round =>
      obtain ⟨k, n, hk, rfl, rfl, hn, hp10, hT⟩ := hrel
      have hk18 := p10_le (k := k) (by omega)
      by_cases hlt : k < s.size
      · have hlt' : (k : Int) < (s.size : Int) := by omega
        have st := numL_drop s k n hlt
        by_cases hd : 48 ≤ (s[k].toNat : Int) ∧ (s[k].toNat : Int) ≤ 57
        · rw [if_pos hd] at st
          obtain ⟨d1, d2⟩ := hd
          have HT : Hid (numL (n * 10 + (s[k].toNat : Int) - 48) (s.data.toList.drop (k + 1)) = numL 0 s.data.toList) := by
            show numL (n * 10 + (s[k].toNat : Int) - 48) (s.data.toList.drop (k + 1)) = numL 0 s.data.toList
            rw [← st]; exact hT.out
          have hs10 := p10_succ k
          have HB : Hid (n * 10 + (s[k].toNat : Int) - 48 + 1 ≤ p10 (k + 1)) := by
            show n * 10 + (s[k].toNat : Int) - 48 + 1 ≤ p10 (k + 1)
            omega
          have hk17 := p10_le17 (k := k) (by omega)
          have hn17 : n ≤ 100000000000000000 := by omega
          clear st hT hs10 hp10 hk18 hk17
          go_wp2
          go_round
          case rel => exact ⟨k + 1, _, by omega, by go_num, rfl, by omega, HB.out, HT⟩
          case measure => simp [intOf]; omega
        · rw [if_neg hd] at st
          have HT : Hid ((-1 : Int) = numL 0 s.data.toList) := by
            show (-1 : Int) = numL 0 s.data.toList
            rw [← st]; exact hT.out
          clear st hT hp10 hk18
          by_cases hd1 : (s[k].toNat : Int) < 48
          · clear hd
            go_wp2
            go_ret
            exact ⟨ret_i64 (HT.out.trans HE.out), rfl⟩
          · have hd2 : 57 < (s[k].toNat : Int) := by omega
            clear hd
            go_wp2
            go_ret
            exact ⟨ret_i64 (HT.out.trans HE.out), rfl⟩
      · have HT : Hid (n = numL 0 s.data.toList) := by
          show n = numL 0 s.data.toList
          rw [← hT.out, numL_end s k n (by omega)]
        have hge : (s.size : Int) ≤ (k : Int) := by omega
        clear hT hp10 hk18 hlt
        go_wp2
        go_ret
        exact ⟨ret_i64 (HT.out.trans HE.out), rfl⟩
end Go.Proofs.YthnkjfgiclolaaaGreatDoor

namespace Go.Proofs.YthnkjfgiclolaaaGreatDoor
open Go.RowKit
set_option linter.unusedVariables false

set_option maxHeartbeats 2000000 in
theorem cut_any (s : ByteArray) (c : UInt8) (w : World) (hs : s.size ≤ 1048576) :
    Calls Tryz.prog 22 #[.string s, .int .u8 c.toNat] w fun e w' => ∃ v, e = .returned v ∧ OwnS w' w.heap.size v ((cutL c s.data.toList).map mkB) ∧ Below w.heap.size w w' := by
  go_enter Tryz.func22, Tryz.ntmps22
  go_wp2
  go_loopw [5, 6, 7] (fun v f i wr => ∃ (k a : Nat) (ss : List ByteArray), k ≤ s.size ∧ a ≤ k ∧ i = .int .i64 k ∧ f = .int .i64 a ∧ OwnS wr w.heap.size v ss ∧ ss.length ≤ k ∧ Below w.heap.size w wr ∧ Hid (ss ++ (cutG c ((s.data.toList.drop a).take (k - a)) (s.data.toList.drop k)).map mkB = (cutL c s.data.toList).map mkB)) (fun _ _ i _ => s.size - (intOf i).toNat)
  case atStart => exact ⟨0, 0, [], by omega, by omega, rfl, rfl, OwnS.nil _ _, by simp, Below.refl _ _, by show _ = _; simp [cutL]⟩
  case round =>
    obtain ⟨k, a, ss, hk, ha, rfl, rfl, hown, hlen, hbel, hT⟩ := hrel
    by_cases hlt : k < s.size
    · have hlt' : (k : Int) < (s.size : Int) := by omega
      rcases hq : ((s[k].toNat : Int) == (c.toNat : Int)) with _ | _
      · have HT : Hid (ss ++ (cutG c ((s.data.toList.drop a).take (k + 1 - a)) (s.data.toList.drop (k + 1))).map mkB = (cutL c s.data.toList).map mkB) := cut_miss s c a k ss hlt ha (byte_ne hq) hT.out
        clear hT
        go_wp2
        go_roundw
        case rel => exact ⟨k + 1, a, ss, by omega, by omega, by go_num, rfl, hown, by omega, hbel, HT⟩
        case measure => simp [intOf]; omega
      · have HT : Hid ((ss ++ [s.extract a k]) ++ (cutG c ((s.data.toList.drop (k + 1)).take (k + 1 - (k + 1))) (s.data.toList.drop (k + 1))).map mkB = (cutL c s.data.toList).map mkB) := cut_hit s c a k ss hlt (byte_eq hq) hT.out
        clear hT
        have hbz := hbel.size
        have hak : (a : Int) ≤ (k : Int) := by omega
        go_wp2_with (at_builtin; refine wpList_append_str rfl (.tmp 19) (.tmp 24) rfl w.heap.size _ ss rfl hown (s.extract a k) rfl (by omega) (by omega) ?_; intro v1 w1 own1 grow1)
        have b1 : Below w.heap.size w w1 := (hbel.alloc hbz _).grown grow1 (by simp; omega) (fun j hj => (World.ownsRow.lt hown j hj).1)
        go_roundw
        case rel => exact ⟨k + 1, k + 1, ss ++ [s.extract a k], by omega, by omega, by go_num, by go_num, own1, by simp; omega, b1, HT⟩
        case measure => simp [intOf]; omega
    · have HT : Hid (ss ++ [s.extract a s.size] = (cutL c s.data.toList).map mkB) := cut_end s c a k ss (by omega) hT.out
      clear hT
      have hbz := hbel.size
      have has : (a : Int) ≤ (s.size : Int) := by omega
      have hge : (s.size : Int) ≤ (k : Int) := by omega
      clear hlt
      go_wp2_with (at_builtin; refine wpList_append_str rfl (.tmp 28) (.tmp 32) rfl w.heap.size _ ss rfl hown (s.extract a s.size) rfl (by omega) (by omega) ?_; intro v1 w1 own1 grow1)
      have b1 : Below w.heap.size w w1 := (hbel.alloc hbz _).grown grow1 (by simp; omega) (fun j hj => (World.ownsRow.lt hown j hj).1)
      go_ret
      exact ⟨v1, rfl, by rw [← HT.out]; exact own1, b1⟩
end Go.Proofs.YthnkjfgiclolaaaGreatDoor
