/- What the program's Parse returns (package addr), for every text. -/
import Derived.Test.YtkjjalaelehjeabDoorAddrTxt
import Derived.Laws.BitsLemmas
namespace Go.Proofs.YtkjjalaelehjeabDoor
open Go.RowKit
set_option linter.unusedVariables false

/-- An address of k numbers that stand in a text, behind the number a; -1 where it is none. -/
def parseL : Nat → Int → List UInt8 → Int
  | 0, a, _ => a
  | k + 1, a, s => if numOK (wholeL (splitC 46 s).1 3) 255 = true ∧ (splitC 46 s).2.2 = decide (0 < k) then parseL k (a * 256 + wholeL (splitC 46 s).1 3) (splitC 46 s).2.1 else -1
theorem numL_ge : ∀ (l : List UInt8) (n : Int), 0 ≤ n → -1 ≤ numL n l
  | [], n, h => by unfold numL; omega
  | c :: r, n, h => by
      unfold numL
      split
      · exact numL_ge r _ (by omega)
      · omega
theorem number_mk (l : List UInt8) (most : Int) (w : World) (hs : l.length ≤ 9223372036854775807) :
    Calls Tryd.prog 21 #[.string (mkB l), .int .i64 most] w fun e w' => e = .returned (.tuple #[.int .i64 (numV (wholeL l 3) most), .bool (numOK (wholeL l 3) most)]) ∧ w' = w := by
  have := number_any (mkB l) most w (by rw [mkB_size]; unfold maxLen; omega)
  rw [mkB_toList] at this; exact this
theorem strCut_mk (l : List UInt8) (c : UInt8) (w : World) (hs : l.length ≤ 9223372036854775807) :
    Calls Tryd.prog 20 #[.string (mkB l), .string ⟨#[c]⟩] w fun e w' => e = .returned (.tuple #[.string (mkB (splitC c l).1), .string (mkB (splitC c l).2.1), .bool (splitC c l).2.2]) ∧ Drew w w' := by
  have := strCut_any (mkB l) c w (by rw [mkB_size]; unfold maxLen; omega)
  rw [mkB_toList] at this; exact this

theorem wrap_in63 {n : Int} (h0 : 0 ≤ n) (h1 : n < 2 ^ 63) : IntKind.i64.wrap n = n := by
  rw [IntKind.wrap_i64]; omega
def parR (z : Int) : Value := if 0 ≤ z then .tuple #[.int .i64 z, .nilIface] else .tuple #[.int .i64 0, .iface 46 (.int .i64 2)]
theorem parR_ok {z : Int} (h : 0 ≤ z) : parR z = .tuple #[.int .i64 z, .nilIface] := by unfold parR; rw [if_pos h]
theorem parR_bad {z : Int} (h : z = -1) : parR z = .tuple #[.int .i64 0, .iface 46 (.int .i64 2)] := by unfold parR; rw [if_neg (by omega)]
theorem ret_any {a b : Value} (h : a = b) : Ending.returned a = .returned b := by rw [h]

set_option maxHeartbeats 2000000 in
theorem parse_any (l0 : List UInt8) (w : World) (hs : l0.length ≤ 9223372036854775807) :
    Calls Tryd.prog 13 #[.string (mkB l0)] w fun e w' => e = .returned (parR (parseL 4 0 l0)) ∧ Drew w w' := by
  obtain ⟨z, hz⟩ : ∃ z, z = parseL 4 0 l0 := ⟨_, rfl⟩
  rw [← hz]
  have HZ : Hid (parseL 4 0 l0 = z) := hz.symm
  clear hz
  go_enter Tryd.func13, Tryd.ntmps13
  go_wp2
  go_loopw [0, 4, 11] (fun s v i wr => ∃ (k : Nat) (a : Int) (l : List UInt8), k ≤ 4 ∧ i = .int .i64 k ∧ v = .int .i64 a ∧ s = .string (mkB l) ∧ l.length ≤ 9223372036854775807 ∧ 0 ≤ a ∧ a + 1 ≤ p256 k ∧ Drew w wr ∧ Hid (parseL (4 - k) a l = z)) (fun _ _ i _ => 4 - (intOf i).toNat)
  case atStart => exact ⟨0, 0, l0, by omega, rfl, rfl, rfl, hs, by omega, by decide, Drew.refl _, HZ⟩
  case round =>
    obtain ⟨k, a, l, hk, rfl, rfl, rfl, hl, ha0, ha1, hd, hT⟩ := hrel
    have hp4 := p256_le hk
    clear HZ
    by_cases hlt : k < 4
    · have hc := fun w => strCut_mk l 46 w hl
      have hsl := splitC_len 46 l
      have hT' : (if numOK (wholeL (splitC 46 l).1 3) 255 = true ∧ (splitC 46 l).2.2 = decide (0 < 3 - k) then parseL (3 - k) (a * 256 + wholeL (splitC 46 l).1 3) (splitC 46 l).2.1 else -1) = z := by
        rw [← hT.out]
        have e : 4 - k = (3 - k) + 1 := by omega
        rw [e]; rfl
      generalize splitC 46 l = t at hc hsl hT'
      obtain ⟨p, r, dot⟩ := t
      simp only at hc hsl hT'
      have hn := fun w => number_mk p 255 w (by omega)
      generalize wholeL p 3 = y at hn hT'
      have hdk : decide (0 < 3 - k) = decide ((k : Int) < 3) := by by_cases h : k < 3 <;> simp <;> omega
      rw [hdk] at hT'
      have hr : r.length ≤ 9223372036854775807 := by omega
      have hlt' : (k : Int) < 4 := by omega
      clear hT hsl hdk
      rcases hok : numOK y 255 with _ | _
      · rw [if_neg (by simp [hok])] at hT'
        have HR : Hid (parR z = .tuple #[.int .i64 0, .iface 46 (.int .i64 2)]) := parR_bad hT'.symm
        rw [hok] at hn
        clear hT' hok hlt
        go_wp2_with (first
          | (go_at_call 20; refine (hc _).mono ?_; rintro e w1 ⟨rfl, hd1⟩)
          | (go_at_call 21; refine (hn _).mono ?_; rintro e w2 ⟨rfl, rfl⟩))
        exact bodyPost_ret (v := .tuple #[.int .i64 0, .iface 46 (.int .i64 2)]) (by simp [results, Tryd.results13, go_sem]) rfl ⟨ret_any HR.out.symm, hd.trans hd1⟩
      · have hy : 0 ≤ y ∧ y ≤ 255 := by simpa [numOK] using hok
        have hnv : numV y 255 = y := by unfold numV; rw [if_pos hy]
        rw [hok, hnv] at hn
        by_cases hdt : dot = decide ((k : Int) < 3)
        · rw [if_pos ⟨hok, hdt⟩] at hT'
          obtain ⟨y0, y1⟩ := hy
          have hs := p256_succ k
          have HB : Hid (a * 256 + y + 1 ≤ p256 (k + 1)) := by
            show a * 256 + y + 1 ≤ p256 (k + 1)
            omega
          have HT : Hid (parseL (4 - (k + 1)) (a * 256 + y) r = z) := by
            show parseL (4 - (k + 1)) (a * 256 + y) r = z
            have e : 4 - (k + 1) = 3 - k := by omega
            rw [e]; exact hT'
          have haa : a ≤ 4294967296 := by omega
          have HO : Hid (bits .or .i64 (a * 256) y = a * 256 + y) := bits_join .i64 63 (by decide) (fun n h0 h1 => wrap_in63 h0 h1) 8 _ _ (by omega) (by omega) (by omega) y0 (by omega) (by omega)
          have hne : (!(dot == decide ((k : Int) < 3))) = false := by simp [hdt]
          clear hT' hok hnv hdt hs ha1 hp4 hlt
          go_wp2_with (first
            | (go_at_call 20; refine (hc _).mono ?_; rintro e w1 ⟨rfl, hd1⟩)
            | (go_at_call 21; refine (hn _).mono ?_; rintro e w2 ⟨rfl, rfl⟩))
          go_roundw
          case rel => exact ⟨k + 1, a * 256 + y, r, by omega, by go_num, by rw [HO.out], rfl, hr, by omega, HB.out, hd.trans hd1, HT⟩
          case measure => simp [intOf]; omega
        · rw [if_neg (fun h => hdt h.2)] at hT'
          have HR : Hid (parR z = .tuple #[.int .i64 0, .iface 46 (.int .i64 2)]) := parR_bad hT'.symm
          have hne : (!(dot == decide ((k : Int) < 3))) = true := by simpa using hdt
          clear hT' hok hnv hdt hy hlt
          go_wp2_with (first
            | (go_at_call 20; refine (hc _).mono ?_; rintro e w1 ⟨rfl, hd1⟩)
            | (go_at_call 21; refine (hn _).mono ?_; rintro e w2 ⟨rfl, rfl⟩))
          exact bodyPost_ret (v := .tuple #[.int .i64 0, .iface 46 (.int .i64 2)]) (by simp [results, Tryd.results13, go_sem]) rfl ⟨ret_any HR.out.symm, hd.trans hd1⟩
    · have hk4 : 4 ≤ (k : Int) := by omega
      have HR : Hid (parR z = .tuple #[.int .i64 a, .nilIface]) := by
        show parR z = .tuple #[.int .i64 a, .nilIface]
        have e : 4 - k = 0 := by omega
        have := hT.out
        rw [e, parseL] at this
        rw [← this]; exact parR_ok ha0
      clear hT ha1 hp4 hlt
      go_wp2
      exact bodyPost_ret (v := .tuple #[.int .i64 a, .nilIface]) (by simp [results, Tryd.results13, go_sem]) rfl ⟨ret_any HR.out.symm, hd⟩
end Go.Proofs.YtkjjalaelehjeabDoor
