/- What strings.Cut at a separator of one byte, and the program's number, return (package addr). -/
import Derived.Test.YthnkjfgiclolaaaGreatDoorMgF
import Derived.Deep.RegionWith
import Derived.Deep.DeepCutAuto
import Derived.Laws.BitsLemmas
import Derived.Test.YthnkjfgiclolaaaGreatDoorAddrNum
namespace Go.Proofs.YthnkjfgiclolaaaGreatDoor
open Go.RowKit
set_option linter.unusedVariables false

def numOK (z most : Int) : Bool := decide (0 ≤ z ∧ z ≤ most)
def numV (z most : Int) : Int := if 0 ≤ z ∧ z ≤ most then z else 0
theorem num_bad {most : Int} : numV (-1) most = 0 ∧ numOK (-1) most = false := by
  unfold numV numOK; rw [if_neg (by omega)]; simp
theorem ret_num {z z' most n : Int} {b : Bool} (h : z' = z) (k : numV z' most = n ∧ numOK z' most = b) : Ending.returned (.tuple #[.int .i64 n, .bool b]) = .returned (.tuple #[.int .i64 (numV z most), .bool (numOK z most)]) := by
  rw [← h, k.1, k.2]

set_option maxHeartbeats 1000000 in
theorem number_any (s : ByteArray) (most : Int) (w : World) (hs : s.size ≤ maxLen) :
    Calls Tryz.prog 99 #[.string s, .int .i64 most] w fun e w' => e = .returned (.tuple #[.int .i64 (numV (wholeL s.data.toList 3) most), .bool (numOK (wholeL s.data.toList 3) most)]) ∧ w' = w := by
  unfold maxLen at hs
  by_cases hz : s.size = 0
  · have hE := empty_of_size hz
    have e : wholeL s.data.toList 3 = -1 := by
      unfold wholeL; rw [if_pos (.inl (List.length_eq_zero_iff.1 (by rw [size_list, hz])))]
    have HF : Hid (numV (-1) most = 0 ∧ numOK (-1) most = false) := num_bad
    rw [e]
    clear e hz
    go_enter Tryz.func99, Tryz.ntmps99
    go_wp2
    exact bodyPost_ret (v := .tuple #[.int .i64 0, .bool false]) (by simp [results, Tryz.results99, go_sem]) rfl ⟨ret_num rfl HF.out, rfl⟩
  have hp : 0 < s.size := by omega
  have hE := full_of_size hp
  by_cases hm : 3 < (s.size : Int)
  · have e : wholeL s.data.toList 3 = -1 := by
      unfold wholeL; rw [if_pos (.inr (.inl (by rw [size_list]; exact hm)))]
    have HF : Hid (numV (-1) most = 0 ∧ numOK (-1) most = false) := num_bad
    rw [e]
    clear e hz
    go_enter Tryz.func99, Tryz.ntmps99
    go_wp2
    exact bodyPost_ret (v := .tuple #[.int .i64 0, .bool false]) (by simp [results, Tryz.results99, go_sem]) rfl ⟨ret_num rfl HF.out, rfl⟩
  have hp' : (0 : Int) < (s.size : Int) := by omega
  have hm' : (s.size : Int) ≤ 3 := by omega
  by_cases hc : (s[0].toNat : Int) = 48 ∧ 1 < s.size
  · obtain ⟨hc1, hc2⟩ := hc
    have e : wholeL s.data.toList 3 = -1 := by
      unfold wholeL; rw [if_pos (.inr (.inr ⟨by rw [head_list hp]; exact hc1, by rw [size_list]; exact hc2⟩))]
    have HF : Hid (numV (-1) most = 0 ∧ numOK (-1) most = false) := num_bad
    rw [e]
    have hc3 : ((s[0].toNat : Int) == 48) = true := by simpa using hc1
    have hc4 : (1 : Int) < (s.size : Int) := by omega
    clear e hz hc1 hm
    go_enter Tryz.func99, Tryz.ntmps99
    go_wp2
    exact bodyPost_ret (v := .tuple #[.int .i64 0, .bool false]) (by simp [results, Tryz.results99, go_sem]) rfl ⟨ret_num rfl HF.out, rfl⟩
  have HE : Hid (numL 0 s.data.toList = wholeL s.data.toList 3) := by
    show numL 0 s.data.toList = wholeL s.data.toList 3
    unfold wholeL
    rw [if_neg]
    rintro (h | h | ⟨h, h'⟩)
    · exact ne_nil_of_size hp h
    · rw [size_list] at h; omega
    · exact hc ⟨by rw [← head_list hp]; exact h, by rw [← size_list]; exact h'⟩
  clear hm hz
  rcases hc3 : ((s[0].toNat : Int) == 48) with _ | _
  · clear hc
    go_enter Tryz.func99, Tryz.ntmps99
    go_wp2
    go_loop [6, 27] (fun v i => ∃ (k : Nat) (n : Int), k ≤ s.size ∧ i = .int .i64 k ∧ v = .int .i64 n ∧ 0 ≤ n ∧ n + 1 ≤ p10 k ∧ Hid (numL n (s.data.toList.drop k) = numL 0 s.data.toList)) (fun _ i => s.size - (intOf i).toNat)
    case atStart => exact ⟨0, 0, by omega, rfl, rfl, by omega, by decide, rfl⟩
    case round =>
      obtain ⟨k, n, hk, rfl, rfl, hn, hp10, hT⟩ := hrel
      have hk18 := p10_le (k := k) (by omega)
      by_cases hlt : k < s.size
      · have hlt' : (k : Int) < (s.size : Int) := by omega
        have st := numL_drop s k n hlt
        by_cases hd : 48 ≤ (s[k].toNat : Int) ∧ (s[k].toNat : Int) ≤ 57
        · rw [if_pos hd] at st
          obtain ⟨d1, d2⟩ := hd
          have HT : Hid (numL (n * 10 + ((s[k].toNat : Int) - 48)) (s.data.toList.drop (k + 1)) = numL 0 s.data.toList) := by
            show numL (n * 10 + ((s[k].toNat : Int) - 48)) (s.data.toList.drop (k + 1)) = numL 0 s.data.toList
            rw [← hT.out, st]; congr 1; omega
          have hs10 := p10_succ k
          have HB : Hid (n * 10 + ((s[k].toNat : Int) - 48) + 1 ≤ p10 (k + 1)) := by
            show n * 10 + ((s[k].toNat : Int) - 48) + 1 ≤ p10 (k + 1)
            omega
          have hk17 := p10_le17 (k := k) (by omega)
          have hn17 : n ≤ 100000000000000000 := by omega
          clear st hT hs10 hp10 hk18 hk17
          go_wp2
          go_round
          case rel => exact ⟨k + 1, n * 10 + ((s[k].toNat : Int) - 48), by omega, by go_num, rfl, by omega, HB.out, HT⟩
          case measure => simp [intOf]; omega
        · rw [if_neg hd] at st
          have HT : Hid ((-1 : Int) = numL 0 s.data.toList) := by
            show (-1 : Int) = numL 0 s.data.toList
            rw [← st]; exact hT.out
          clear st hT hp10 hk18
          have HF : Hid (numV (numL 0 s.data.toList) most = 0 ∧ numOK (numL 0 s.data.toList) most = false) := by
            show numV (numL 0 s.data.toList) most = 0 ∧ numOK (numL 0 s.data.toList) most = false
            rw [← HT.out]; exact num_bad
          by_cases hd1 : (s[k].toNat : Int) < 48
          · clear hd
            go_wp2
            exact bodyPost_ret (v := .tuple #[.int .i64 0, .bool false]) (by simp [results, Tryz.results99, go_sem]) rfl ⟨ret_num HE.out HF.out, rfl⟩
          · have hd2 : 57 < (s[k].toNat : Int) := by omega
            clear hd
            go_wp2
            exact bodyPost_ret (v := .tuple #[.int .i64 0, .bool false]) (by simp [results, Tryz.results99, go_sem]) rfl ⟨ret_num HE.out HF.out, rfl⟩
      · have HT : Hid (n = numL 0 s.data.toList) := by
          show n = numL 0 s.data.toList
          rw [← hT.out, numL_end s k n (by omega)]
        have hge : (s.size : Int) ≤ (k : Int) := by omega
        clear hT hp10 hk18 hlt
        by_cases hmo : most < n
        · have HF : Hid (numV (numL 0 s.data.toList) most = 0 ∧ numOK (numL 0 s.data.toList) most = false) := by
            show numV (numL 0 s.data.toList) most = 0 ∧ numOK (numL 0 s.data.toList) most = false
            rw [← HT.out]; unfold numV numOK; rw [if_neg (by omega)]; simp; omega
          go_wp2
          exact bodyPost_ret (v := .tuple #[.int .i64 0, .bool false]) (by simp [results, Tryz.results99, go_sem]) rfl ⟨ret_num HE.out HF.out, rfl⟩
        · have HF : Hid (numV (numL 0 s.data.toList) most = n ∧ numOK (numL 0 s.data.toList) most = true) := by
            show numV (numL 0 s.data.toList) most = n ∧ numOK (numL 0 s.data.toList) most = true
            rw [← HT.out]; unfold numV numOK; rw [if_pos (by omega)]; simp; omega
          have hmo' : n ≤ most := by omega
          clear hmo
          go_wp2
          exact bodyPost_ret (v := .tuple #[.int .i64 n, .bool true]) (by simp [results, Tryz.results99, go_sem]) rfl ⟨ret_num HE.out HF.out, rfl⟩
  · have hc5 : (s.size : Int) ≤ 1 := by
      rcases Nat.lt_or_ge 1 s.size with h | h
      · exact absurd ⟨by simpa using hc3, h⟩ hc
      · omega
    clear hc
    go_enter Tryz.func99, Tryz.ntmps99
    go_wp2
    go_loop [6, 27] (fun v i => ∃ (k : Nat) (n : Int), k ≤ s.size ∧ i = .int .i64 k ∧ v = .int .i64 n ∧ 0 ≤ n ∧ n + 1 ≤ p10 k ∧ Hid (numL n (s.data.toList.drop k) = numL 0 s.data.toList)) (fun _ i => s.size - (intOf i).toNat)
    case atStart => exact ⟨0, 0, by omega, rfl, rfl, by omega, by decide, rfl⟩
    case round =>
      obtain ⟨k, n, hk, rfl, rfl, hn, hp10, hT⟩ := hrel
      have hk18 := p10_le (k := k) (by omega)
      by_cases hlt : k < s.size
      · have hlt' : (k : Int) < (s.size : Int) := by omega
        have st := numL_drop s k n hlt
        by_cases hd : 48 ≤ (s[k].toNat : Int) ∧ (s[k].toNat : Int) ≤ 57
        · rw [if_pos hd] at st
          obtain ⟨d1, d2⟩ := hd
          have HT : Hid (numL (n * 10 + ((s[k].toNat : Int) - 48)) (s.data.toList.drop (k + 1)) = numL 0 s.data.toList) := by
            show numL (n * 10 + ((s[k].toNat : Int) - 48)) (s.data.toList.drop (k + 1)) = numL 0 s.data.toList
            rw [← hT.out, st]; congr 1; omega
          have hs10 := p10_succ k
          have HB : Hid (n * 10 + ((s[k].toNat : Int) - 48) + 1 ≤ p10 (k + 1)) := by
            show n * 10 + ((s[k].toNat : Int) - 48) + 1 ≤ p10 (k + 1)
            omega
          have hk17 := p10_le17 (k := k) (by omega)
          have hn17 : n ≤ 100000000000000000 := by omega
          clear st hT hs10 hp10 hk18 hk17
          go_wp2
          go_round
          case rel => exact ⟨k + 1, n * 10 + ((s[k].toNat : Int) - 48), by omega, by go_num, rfl, by omega, HB.out, HT⟩
          case measure => simp [intOf]; omega
        · rw [if_neg hd] at st
          have HT : Hid ((-1 : Int) = numL 0 s.data.toList) := by
            show (-1 : Int) = numL 0 s.data.toList
            rw [← st]; exact hT.out
          clear st hT hp10 hk18
          have HF : Hid (numV (numL 0 s.data.toList) most = 0 ∧ numOK (numL 0 s.data.toList) most = false) := by
            show numV (numL 0 s.data.toList) most = 0 ∧ numOK (numL 0 s.data.toList) most = false
            rw [← HT.out]; exact num_bad
          by_cases hd1 : (s[k].toNat : Int) < 48
          · clear hd
            go_wp2
            exact bodyPost_ret (v := .tuple #[.int .i64 0, .bool false]) (by simp [results, Tryz.results99, go_sem]) rfl ⟨ret_num HE.out HF.out, rfl⟩
          · have hd2 : 57 < (s[k].toNat : Int) := by omega
            clear hd
            go_wp2
            exact bodyPost_ret (v := .tuple #[.int .i64 0, .bool false]) (by simp [results, Tryz.results99, go_sem]) rfl ⟨ret_num HE.out HF.out, rfl⟩
      · have HT : Hid (n = numL 0 s.data.toList) := by
          show n = numL 0 s.data.toList
          rw [← hT.out, numL_end s k n (by omega)]
        have hge : (s.size : Int) ≤ (k : Int) := by omega
        clear hT hp10 hk18 hlt
        by_cases hmo : most < n
        · have HF : Hid (numV (numL 0 s.data.toList) most = 0 ∧ numOK (numL 0 s.data.toList) most = false) := by
            show numV (numL 0 s.data.toList) most = 0 ∧ numOK (numL 0 s.data.toList) most = false
            rw [← HT.out]; unfold numV numOK; rw [if_neg (by omega)]; simp; omega
          go_wp2
          exact bodyPost_ret (v := .tuple #[.int .i64 0, .bool false]) (by simp [results, Tryz.results99, go_sem]) rfl ⟨ret_num HE.out HF.out, rfl⟩
        · have HF : Hid (numV (numL 0 s.data.toList) most = n ∧ numOK (numL 0 s.data.toList) most = true) := by
            show numV (numL 0 s.data.toList) most = n ∧ numOK (numL 0 s.data.toList) most = true
            rw [← HT.out]; unfold numV numOK; rw [if_pos (by omega)]; simp; omega
          have hmo' : n ≤ most := by omega
          clear hmo
          go_wp2
          exact bodyPost_ret (v := .tuple #[.int .i64 n, .bool true]) (by simp [results, Tryz.results99, go_sem]) rfl ⟨ret_num HE.out HF.out, rfl⟩
end Go.Proofs.YthnkjfgiclolaaaGreatDoor

namespace Go.Proofs.YthnkjfgiclolaaaGreatDoor
open Go.RowKit
set_option linter.unusedVariables false

/-- An address of k numbers that stand in a text, behind the number a; -1 where it is none. -/
def parseL : Nat → Int → List UInt8 → Int
  | 0, a, _ => a
  | k + 1, a, s => if numOK (wholeL (splitC 46 s).1 3) 255 = true ∧ (splitC 46 s).2.2 = decide (0 < k) then parseL k (a * 256 + wholeL (splitC 46 s).1 3) (splitC 46 s).2.1 else -1
theorem numL_ge : ∀ (l : List UInt8) (n : Int), 0 ≤ n → -1 ≤ numL n l
  | [], n, h => by unfold numL; omega
  | c :: r, n, h => by
      unfold numL
      split
      · exact numL_ge r _ (by omega)
      · omega
theorem number_mk (l : List UInt8) (most : Int) (w : World) (hs : l.length ≤ 9223372036854775807) :
    Calls Tryz.prog 99 #[.string (mkB l), .int .i64 most] w fun e w' => e = .returned (.tuple #[.int .i64 (numV (wholeL l 3) most), .bool (numOK (wholeL l 3) most)]) ∧ w' = w := by
  have := number_any (mkB l) most w (by rw [mkB_size]; unfold maxLen; omega)
  rw [mkB_toList] at this; exact this
theorem strCut_mk (l : List UInt8) (c : UInt8) (w : World) (hs : l.length ≤ 9223372036854775807) :
    Calls Tryz.prog 59 #[.string (mkB l), .string ⟨#[c]⟩] w fun e w' => e = .returned (.tuple #[.string (mkB (splitC c l).1), .string (mkB (splitC c l).2.1), .bool (splitC c l).2.2]) ∧ Drew w w' := by
  have := strCut_any (mkB l) c w (by rw [mkB_size]; unfold maxLen; omega)
  rw [mkB_toList] at this; exact this

theorem wrap_in63 {n : Int} (h0 : 0 ≤ n) (h1 : n < 2 ^ 63) : IntKind.i64.wrap n = n := by
  rw [IntKind.wrap_i64]; omega
def parR (z : Int) : Value := if 0 ≤ z then .tuple #[.int .i64 z, .nilIface] else .tuple #[.int .i64 0, .iface 45 (.int .i64 2)]
theorem parR_ok {z : Int} (h : 0 ≤ z) : parR z = .tuple #[.int .i64 z, .nilIface] := by unfold parR; rw [if_pos h]
theorem parR_bad {z : Int} (h : z = -1) : parR z = .tuple #[.int .i64 0, .iface 45 (.int .i64 2)] := by unfold parR; rw [if_neg (by omega)]
theorem ret_any {a b : Value} (h : a = b) : Ending.returned a = .returned b := by rw [h]

set_option maxHeartbeats 2000000 in
theorem parse_any (l0 : List UInt8) (w : World) (hs : l0.length ≤ 9223372036854775807) :
    Calls Tryz.prog 98 #[.string (mkB l0)] w fun e w' => e = .returned (parR (parseL 4 0 l0)) ∧ Drew w w' := by
  obtain ⟨z, hz⟩ : ∃ z, z = parseL 4 0 l0 := ⟨_, rfl⟩
  rw [← hz]
  have HZ : Hid (parseL 4 0 l0 = z) := hz.symm
  clear hz
  go_enter Tryz.func98, Tryz.ntmps98
  go_wp2
  go_loopw [0, 4, 11] (fun s v i wr => ∃ (k : Nat) (a : Int) (l : List UInt8), k ≤ 4 ∧ i = .int .i64 k ∧ v = .int .i64 a ∧ s = .string (mkB l) ∧ l.length ≤ 9223372036854775807 ∧ 0 ≤ a ∧ a + 1 ≤ p256 k ∧ Drew w wr ∧ Hid (parseL (4 - k) a l = z)) (fun _ _ i _ => 4 - (intOf i).toNat)
  case atStart => exact ⟨0, 0, l0, by omega, rfl, rfl, rfl, hs, by omega, by decide, Drew.refl _, HZ⟩
  case round =>
    obtain ⟨k, a, l, hk, rfl, rfl, rfl, hl, ha0, ha1, hd, hT⟩ := hrel
    have hp4 := p256_le hk
    clear HZ
    by_cases hlt : k < 4
    · have hc := fun w => strCut_mk l 46 w hl
      have hsl := splitC_len 46 l
      have hT' : (if numOK (wholeL (splitC 46 l).1 3) 255 = true ∧ (splitC 46 l).2.2 = decide (0 < 3 - k) then parseL (3 - k) (a * 256 + wholeL (splitC 46 l).1 3) (splitC 46 l).2.1 else -1) = z := by
        rw [← hT.out]
        have e : 4 - k = (3 - k) + 1 := by omega
        rw [e]; rfl
      generalize splitC 46 l = t at hc hsl hT'
      obtain ⟨p, r, dot⟩ := t
      simp only at hc hsl hT'
      have hn := fun w => number_mk p 255 w (by omega)
      generalize wholeL p 3 = y at hn hT'
      have hdk : decide (0 < 3 - k) = decide ((k : Int) < 3) := by by_cases h : k < 3 <;> simp <;> omega
      rw [hdk] at hT'
      have hr : r.length ≤ 9223372036854775807 := by omega
      have hlt' : (k : Int) < 4 := by omega
      clear hT hsl hdk
      rcases hok : numOK y 255 with _ | _
      · rw [if_neg (by simp [hok])] at hT'
        have HR : Hid (parR z = .tuple #[.int .i64 0, .iface 45 (.int .i64 2)]) := parR_bad hT'.symm
        rw [hok] at hn
        clear hT' hok hlt
        go_wp2_with (first
          | (go_at_call 59; refine (hc _).mono ?_; rintro e w1 ⟨rfl, hd1⟩)
          | (go_at_call 99; refine (hn _).mono ?_; rintro e w2 ⟨rfl, rfl⟩))
        exact bodyPost_ret (v := .tuple #[.int .i64 0, .iface 45 (.int .i64 2)]) (by simp [results, Tryz.results98, go_sem]) rfl ⟨ret_any HR.out.symm, hd.trans hd1⟩
      · have hy : 0 ≤ y ∧ y ≤ 255 := by simpa [numOK] using hok
        have hnv : numV y 255 = y := by unfold numV; rw [if_pos hy]
        rw [hok, hnv] at hn
        by_cases hdt : dot = decide ((k : Int) < 3)
        · rw [if_pos ⟨hok, hdt⟩] at hT'
          obtain ⟨y0, y1⟩ := hy
          have hs := p256_succ k
          have HB : Hid (a * 256 + y + 1 ≤ p256 (k + 1)) := by
            show a * 256 + y + 1 ≤ p256 (k + 1)
            omega
          have HT : Hid (parseL (4 - (k + 1)) (a * 256 + y) r = z) := by
            show parseL (4 - (k + 1)) (a * 256 + y) r = z
            have e : 4 - (k + 1) = 3 - k := by omega
            rw [e]; exact hT'
          have haa : a ≤ 4294967296 := by omega
          have HO : Hid (bits .or .i64 (a * 256) y = a * 256 + y) := bits_join .i64 63 (by decide) (fun n h0 h1 => wrap_in63 h0 h1) 8 _ _ (by omega) (by omega) (by omega) y0 (by omega) (by omega)
          have hne : (!(dot == decide ((k : Int) < 3))) = false := by simp [hdt]
          clear hT' hok hnv hdt hs ha1 hp4 hlt
          go_wp2_with (first
            | (go_at_call 59; refine (hc _).mono ?_; rintro e w1 ⟨rfl, hd1⟩)
            | (go_at_call 99; refine (hn _).mono ?_; rintro e w2 ⟨rfl, rfl⟩))
          go_roundw
          case rel => exact ⟨k + 1, a * 256 + y, r, by omega, by go_num, by rw [HO.out], rfl, hr, by omega, HB.out, hd.trans hd1, HT⟩
          case measure => simp [intOf]; omega
        · rw [if_neg (fun h => hdt h.2)] at hT'
          have HR : Hid (parR z = .tuple #[.int .i64 0, .iface 45 (.int .i64 2)]) := parR_bad hT'.symm
          have hne : (!(dot == decide ((k : Int) < 3))) = true := by simpa using hdt
          clear hT' hok hnv hdt hy hlt
          go_wp2_with (first
            | (go_at_call 59; refine (hc _).mono ?_; rintro e w1 ⟨rfl, hd1⟩)
            | (go_at_call 99; refine (hn _).mono ?_; rintro e w2 ⟨rfl, rfl⟩))
          exact bodyPost_ret (v := .tuple #[.int .i64 0, .iface 45 (.int .i64 2)]) (by simp [results, Tryz.results98, go_sem]) rfl ⟨ret_any HR.out.symm, hd.trans hd1⟩
    · have hk4 : 4 ≤ (k : Int) := by omega
      have HR : Hid (parR z = .tuple #[.int .i64 a, .nilIface]) := by
        show parR z = .tuple #[.int .i64 a, .nilIface]
        have e : 4 - k = 0 := by omega
        have := hT.out
        rw [e, parseL] at this
        rw [← this]; exact parR_ok ha0
      clear hT ha1 hp4 hlt
      go_wp2
      exact bodyPost_ret (v := .tuple #[.int .i64 a, .nilIface]) (by simp [results, Tryz.results98, go_sem]) rfl ⟨ret_any HR.out.symm, hd⟩
end Go.Proofs.YthnkjfgiclolaaaGreatDoor

namespace Go.Proofs.YthnkjfgiclolaaaGreatDoor
open Go.RowKit
set_option linter.unusedVariables false

/-- The prefix of a text, or none. -/
def readP (l : List UInt8) : Int × Int × Bool :=
  if l = [97, 110, 121] then (0, 0, true) else
  if parseL 4 0 (splitC 47 l).1 < 0 then (0, 0, false) else
  if (splitC 47 l).2.2 = false then (parseL 4 0 (splitC 47 l).1, 32, true) else
  if numOK (wholeL (splitC 47 l).2.1 3) 32 = true ∧ wholeL (splitC 47 l).2.1 3 ≠ 0 ∧ prefE (parseL 4 0 (splitC 47 l).1) (wholeL (splitC 47 l).2.1 3) = 0 then (parseL 4 0 (splitC 47 l).1, wholeL (splitC 47 l).2.1 3, true) else (0, 0, false)
def prefR (t : Int × Int × Bool) : Value := if t.2.2 = true then .tuple #[.agg #[.int .i64 t.1, .int .i64 t.2.1], .nilIface] else .tuple #[.agg #[.int .i64 0, .int .i64 0], .iface 45 (.int .i64 2)]
theorem prefR_ok (a l : Int) : prefR (a, l, true) = .tuple #[.agg #[.int .i64 a, .int .i64 l], .nilIface] := rfl
theorem prefR_bad : prefR (0, 0, false) = .tuple #[.agg #[.int .i64 0, .int .i64 0], .iface 45 (.int .i64 2)] := rfl
theorem parse_good (l0 : List UInt8) (w : World) (hs : l0.length ≤ 9223372036854775807) (h : 0 ≤ parseL 4 0 l0) :
    Calls Tryz.prog 98 #[.string (mkB l0)] w fun e w' => e = .returned (.tuple #[.int .i64 (parseL 4 0 l0), .nilIface]) ∧ Drew w w' := by
  have := parse_any l0 w hs
  rw [parR_ok h] at this; exact this
theorem parse_evil (l0 : List UInt8) (w : World) (hs : l0.length ≤ 9223372036854775807) (h : parseL 4 0 l0 < 0) :
    Calls Tryz.prog 98 #[.string (mkB l0)] w fun e w' => e = .returned (.tuple #[.int .i64 0, .iface 45 (.int .i64 2)]) ∧ Drew w w' := by
  have := parse_any l0 w hs
  unfold parR at this
  rw [if_neg (by omega)] at this; exact this
theorem any_ne {l : List UInt8} (h : ¬ l = [97, 110, 121]) : ((mkB l).toList == [97, 110, 121]) = false := by
  rw [ByteArray.toList_eq, mkB_toList]; simpa using h

set_option maxHeartbeats 2000000 in
theorem parsePrefix_any (l : List UInt8) (w : World) (hs : l.length ≤ 9223372036854775807) :
    Calls Tryz.prog 61 #[.string (mkB l)] w fun e w' => e = .returned (prefR (readP l)) ∧ Below w.heap.size w w' := by
  by_cases h0 : l = [97, 110, 121]
  · have hany : ((mkB l).toList == [97, 110, 121]) = true := by rw [h0, ByteArray.toList_eq, mkB_toList]; rfl
    have HR : Hid (prefR (readP l) = .tuple #[.agg #[.int .i64 0, .int .i64 0], .nilIface]) := by show prefR (readP l) = _; rw [h0]; rfl
    clear h0
    go_enter Tryz.func61, Tryz.ntmps61
    go_wp2
    exact bodyPost_ret (v := .tuple #[.agg #[.int .i64 0, .int .i64 0], .nilIface]) (by simp [results, Tryz.results61, go_sem]) rfl ⟨ret_any HR.out.symm, by repeat (first | exact Below.refl _ _ | refine Below.setCell ?_ (by simp) _ | refine below_drewN ?_ _ | refine Below.drew ?_ | refine Below.alloc ?_ (by simp) _)⟩
  have hany := any_ne h0
  have hc := fun w => strCut_mk l 47 w hs
  have hsl := splitC_len 47 l
  have hE : readP l = (if parseL 4 0 (splitC 47 l).1 < 0 then (0, 0, false) else
    if (splitC 47 l).2.2 = false then (parseL 4 0 (splitC 47 l).1, 32, true) else
    if numOK (wholeL (splitC 47 l).2.1 3) 32 = true ∧ wholeL (splitC 47 l).2.1 3 ≠ 0 ∧ prefE (parseL 4 0 (splitC 47 l).1) (wholeL (splitC 47 l).2.1 3) = 0 then (parseL 4 0 (splitC 47 l).1, wholeL (splitC 47 l).2.1 3, true) else (0, 0, false)) := by
    unfold readP; rw [if_neg h0]
  generalize readP l = R at hE ⊢
  generalize splitC 47 l = t at hc hsl hE
  obtain ⟨hd, tl, sl⟩ := t
  simp only at hc hsl hE
  clear h0
  by_cases h1 : parseL 4 0 hd < 0
  · rw [if_pos h1] at hE
    have HR : Hid (prefR R = .tuple #[.agg #[.int .i64 0, .int .i64 0], .iface 45 (.int .i64 2)]) := by show prefR R = _; rw [hE]; exact prefR_bad
    have hp := fun w => parse_evil hd w (by omega) h1
    clear hE h1
    go_enter Tryz.func61, Tryz.ntmps61
    go_wp2_with (first
      | (go_at_call 59; refine (hc _).mono ?_; rintro e w1 ⟨rfl, n1, rfl⟩)
      | (go_at_call 98; refine (hp _).mono ?_; rintro e w2 ⟨rfl, n2, rfl⟩))
    exact bodyPost_ret (v := .tuple #[.agg #[.int .i64 0, .int .i64 0], .iface 45 (.int .i64 2)]) (by simp [results, Tryz.results61, go_sem]) rfl ⟨ret_any HR.out.symm, by repeat (first | exact Below.refl _ _ | refine Below.setCell ?_ (by simp) _ | refine below_drewN ?_ _ | refine Below.drew ?_ | refine Below.alloc ?_ (by simp) _)⟩
  rw [if_neg h1] at hE
  have hp := fun w => parse_good hd w (by omega) (by omega)
  generalize parseL 4 0 hd = a at hp hE h1
  cases sl
  · rw [if_pos rfl] at hE
    have HR : Hid (prefR R = .tuple #[.agg #[.int .i64 a, .int .i64 32], .nilIface]) := by show prefR R = _; rw [hE]; exact prefR_ok _ _
    clear hE
    go_enter Tryz.func61, Tryz.ntmps61
    go_wp2_with (first
      | (go_at_call 59; refine (hc _).mono ?_; rintro e w1 ⟨rfl, n1, rfl⟩)
      | (go_at_call 98; refine (hp _).mono ?_; rintro e w2 ⟨rfl, n2, rfl⟩))
    exact bodyPost_ret (v := .tuple #[.agg #[.int .i64 a, .int .i64 32], .nilIface]) (by simp [results, Tryz.results61, go_sem]) rfl ⟨ret_any HR.out.symm, by repeat (first | exact Below.refl _ _ | refine Below.setCell ?_ (by simp) _ | refine below_drewN ?_ _ | refine Below.drew ?_ | refine Below.alloc ?_ (by simp) _)⟩
  · rw [if_neg (by simp)] at hE
    have hn := fun w => number_mk tl 32 w (by omega)
    generalize wholeL tl 3 = y at hn hE
    rcases hok : numOK y 32 with _ | _
    · rw [if_neg (by simp [hok])] at hE
      have HR : Hid (prefR R = .tuple #[.agg #[.int .i64 0, .int .i64 0], .iface 45 (.int .i64 2)]) := by show prefR R = _; rw [hE]; exact prefR_bad
      rw [hok] at hn
      clear hE hok
      go_enter Tryz.func61, Tryz.ntmps61
      go_wp2_with (first
        | (go_at_call 59; refine (hc _).mono ?_; rintro e w1 ⟨rfl, n1, rfl⟩)
        | (go_at_call 98; refine (hp _).mono ?_; rintro e w2 ⟨rfl, n2, rfl⟩)
        | (go_at_call 99; refine (hn _).mono ?_; rintro e w3 ⟨rfl, rfl⟩))
      exact bodyPost_ret (v := .tuple #[.agg #[.int .i64 0, .int .i64 0], .iface 45 (.int .i64 2)]) (by simp [results, Tryz.results61, go_sem]) rfl ⟨ret_any HR.out.symm, by repeat (first | exact Below.refl _ _ | refine Below.setCell ?_ (by simp) _ | refine below_drewN ?_ _ | refine Below.drew ?_ | refine Below.alloc ?_ (by simp) _)⟩
    · have hy : 0 ≤ y ∧ y ≤ 32 := by simpa [numOK] using hok
      have hnv : numV y 32 = y := by unfold numV; rw [if_pos hy]
      rw [hok, hnv] at hn
      rcases hyz : (y == 0) with _ | _
      · have hyn : y ≠ 0 := by simpa using hyz
        by_cases hpe : prefE a y = 0
        · rw [if_pos ⟨hok, hyn, hpe⟩] at hE
          have HR : Hid (prefR R = .tuple #[.agg #[.int .i64 a, .int .i64 y], .nilIface]) := by show prefR R = _; rw [hE]; exact prefR_ok _ _
          have hck := fun w => check_ok a y w hpe
          clear hE hok hnv hpe hyn
          go_enter Tryz.func61, Tryz.ntmps61
          go_wp2_with (first
            | (go_at_call 59; refine (hc _).mono ?_; rintro e w1 ⟨rfl, n1, rfl⟩)
            | (go_at_call 98; refine (hp _).mono ?_; rintro e w2 ⟨rfl, n2, rfl⟩)
            | (go_at_call 99; refine (hn _).mono ?_; rintro e w3 ⟨rfl, rfl⟩)
            | (go_at_call 36; refine (hck _).mono ?_; rintro e w4 ⟨rfl, hb4⟩; obtain ⟨q0, q1, q2, q3⟩ := PairAt.keep (B := w.heap.size) (x := 0) (y := 0) hb4 ⟨by simp [go_sem], by simp [go_sem], by simp [go_sem], by simp [go_sem]⟩; obtain ⟨r0, r1, r2, r3⟩ := PairAt.keep (B := w.heap.size + 1) (x := a) (y := y) hb4 ⟨by simp [go_sem], by simp [go_sem], by simp [go_sem], by simp [go_sem]⟩))
          have bw4 : Below w.heap.size w w4 := by
            refine Below.trans ?_ (hb4.mono ?_)
            · repeat (first | exact Below.refl _ _ | refine Below.setCell ?_ (by simp) _ | refine below_drewN ?_ _ | refine Below.drew ?_ | refine Below.alloc ?_ (by simp) _)
            · simp; omega
          exact bodyPost_ret (v := .tuple #[.agg #[.int .i64 a, .int .i64 y], .nilIface]) (by simp [results, Tryz.results61, go_sem, q0, q1]) rfl ⟨ret_any HR.out.symm, (bw4.setCell (by simp) _).setCell (by simp) _⟩
        · rw [if_neg (fun h => hpe h.2.2)] at hE
          have HR : Hid (prefR R = .tuple #[.agg #[.int .i64 0, .int .i64 0], .iface 45 (.int .i64 2)]) := by show prefR R = _; rw [hE]; exact prefR_bad
          have hck := fun w => check_bad a y w hpe
          clear hE hok hnv hpe hyn
          go_enter Tryz.func61, Tryz.ntmps61
          go_wp2_with (first
            | (go_at_call 59; refine (hc _).mono ?_; rintro e w1 ⟨rfl, n1, rfl⟩)
            | (go_at_call 98; refine (hp _).mono ?_; rintro e w2 ⟨rfl, n2, rfl⟩)
            | (go_at_call 99; refine (hn _).mono ?_; rintro e w3 ⟨rfl, rfl⟩)
            | (go_at_call 36; refine (hck _).mono ?_; rintro e w4 ⟨rfl, hb4⟩; obtain ⟨q0, q1, q2, q3⟩ := PairAt.keep (B := w.heap.size) (x := 0) (y := 0) hb4 ⟨by simp [go_sem], by simp [go_sem], by simp [go_sem], by simp [go_sem]⟩; obtain ⟨r0, r1, r2, r3⟩ := PairAt.keep (B := w.heap.size + 1) (x := a) (y := y) hb4 ⟨by simp [go_sem], by simp [go_sem], by simp [go_sem], by simp [go_sem]⟩))
          have bw4 : Below w.heap.size w w4 := by
            refine Below.trans ?_ (hb4.mono ?_)
            · repeat (first | exact Below.refl _ _ | refine Below.setCell ?_ (by simp) _ | refine below_drewN ?_ _ | refine Below.drew ?_ | refine Below.alloc ?_ (by simp) _)
            · simp; omega
          exact bodyPost_ret (v := .tuple #[.agg #[.int .i64 0, .int .i64 0], .iface 45 (.int .i64 2)]) (by simp [results, Tryz.results61, go_sem, q0, q1]) rfl ⟨ret_any HR.out.symm, (bw4.setCell (by simp) _).setCell (by simp) _⟩
      · rw [if_neg (fun h => h.2.1 (by simpa using hyz))] at hE
        have HR : Hid (prefR R = .tuple #[.agg #[.int .i64 0, .int .i64 0], .iface 45 (.int .i64 2)]) := by show prefR R = _; rw [hE]; exact prefR_bad
        clear hE hok hnv
        go_enter Tryz.func61, Tryz.ntmps61
        go_wp2_with (first
          | (go_at_call 59; refine (hc _).mono ?_; rintro e w1 ⟨rfl, n1, rfl⟩)
          | (go_at_call 98; refine (hp _).mono ?_; rintro e w2 ⟨rfl, n2, rfl⟩)
          | (go_at_call 99; refine (hn _).mono ?_; rintro e w3 ⟨rfl, rfl⟩))
        exact bodyPost_ret (v := .tuple #[.agg #[.int .i64 0, .int .i64 0], .iface 45 (.int .i64 2)]) (by simp [results, Tryz.results61, go_sem]) rfl ⟨ret_any HR.out.symm, by repeat (first | exact Below.refl _ _ | refine Below.setCell ?_ (by simp) _ | refine below_drewN ?_ _ | refine Below.drew ?_ | refine Below.alloc ?_ (by simp) _)⟩
end Go.Proofs.YthnkjfgiclolaaaGreatDoor
