/- The program reads addresses and prefixes of texts as the reference does: 'parseL' is 'readAddrL', 'readP' is 'readPrefL'. -/
import Derived.Test.YtkjjalaelehjeaaDoorAddrPP
import Derived.Test.YtkjjalaelehjeaaDoorReadP
namespace Go.Proofs.YtkjjalaelehjeaaDoor
open Go.RowKit
set_option linter.unusedVariables false

theorem cutG_split (c : UInt8) : ∀ (l cur : List UInt8), cutG c cur l = (cur ++ (splitC c l).1) :: (if (splitC c l).2.2 = true then cutG c [] (splitC c l).2.1 else [])
  | [], cur => by simp [cutG, splitC]
  | x :: r, cur => by
      have h1 : cutG c cur (x :: r) = if x = c then cur :: cutG c [] r else cutG c (cur ++ [x]) r := rfl
      have h2 : splitC c (x :: r) = if x = c then ([], r, true) else (x :: (splitC c r).1, (splitC c r).2.1, (splitC c r).2.2) := rfl
      rw [h1, h2]
      by_cases h : x = c
      · rw [if_pos h, if_pos h]; simp
      · rw [if_neg h, if_neg h, cutG_split c r (cur ++ [x])]
        simp
theorem cutL_split (c : UInt8) (l : List UInt8) : cutL c l = (splitC c l).1 :: (if (splitC c l).2.2 = true then cutL c (splitC c l).2.1 else []) := by
  unfold cutL; rw [cutG_split]; simp
theorem cutL_pos (c : UInt8) (l : List UInt8) : 0 < (cutL c l).length := cutG_pos c l []
theorem numOK_iff (z most : Int) : numOK z most = true ↔ 0 ≤ z ∧ z ≤ most := by simp [numOK]
theorem parse_fold : ∀ (k : Nat) (a : Int) (l : List UInt8), parseL (k + 1) a l = if (cutL 46 l).length = k + 1 then foldAddr a (cutL 46 l) else -1
  | k, a, l => by
      rw [parseL]
      have e := cutL_split 46 l
      generalize splitC 46 l = t at e ⊢
      obtain ⟨p, r, d⟩ := t
      simp only at e ⊢
      generalize hz : wholeL p 3 = z
      by_cases hn : numOK z 255 = true
      · have hz' := (numOK_iff _ _).1 hn
        by_cases hd : d = decide (0 < k)
        · rw [if_pos ⟨hn, hd⟩]
          cases k with
          | zero =>
            have hd' : d = false := by simpa using hd
            subst hd'
            rw [if_neg (by simp)] at e
            rw [e, if_pos (by simp), foldAddr, hz, if_neg (by omega), foldAddr, parseL]
          | succ k =>
            have hd' : d = true := by simpa using hd
            subst hd'
            rw [if_pos rfl] at e
            rw [parse_fold k _ r, e]
            by_cases hl : (cutL 46 r).length = k + 1
            · rw [if_pos hl, if_pos (by simp [hl]), foldAddr, hz, if_neg (by omega)]
            · rw [if_neg hl, if_neg (by simpa using hl)]
        · rw [if_neg (fun h => hd h.2)]
          cases k with
          | zero =>
            have hd' : d = true := by simpa using hd
            subst hd'
            rw [if_pos rfl] at e
            have := cutL_pos 46 r
            rw [if_neg (by rw [e, List.length_cons]; omega)]
          | succ k =>
            have hd' : d = false := by simpa using hd
            subst hd'
            rw [if_neg (by rw [e]; simp)]
      · rw [if_neg (fun h => hn h.1)]
        have hz' : z < 0 ∨ 255 < z := by
          have := mt (numOK_iff z 255).2 hn
          omega
        by_cases hl : (cutL 46 l).length = k + 1
        · rw [if_pos hl, e, foldAddr, hz, if_pos hz']
        · rw [if_neg hl]
theorem parse_read (l : List UInt8) : parseL 4 0 l = readAddrL l := by
  rw [parse_fold 3 0 l]; rfl
theorem numL_bad : ∀ (l : List UInt8) (n : Int) (c : UInt8), c ∈ l → ¬ (48 ≤ (c.toNat : Int) ∧ (c.toNat : Int) ≤ 57) → numL n l = -1
  | [], n, c, h, _ => by simp at h
  | x :: r, n, c, h, hc => by
      unfold numL
      by_cases hx : 48 ≤ (x.toNat : Int) ∧ (x.toNat : Int) ≤ 57
      · rw [if_pos hx]
        rcases List.mem_cons.1 h with rfl | h
        · exact absurd hx hc
        · exact numL_bad r _ c h hc
      · rw [if_neg hx]
theorem whole_bad {l : List UInt8} {c : UInt8} {most : Int} (h : c ∈ l) (hc : ¬ (48 ≤ (c.toNat : Int) ∧ (c.toNat : Int) ≤ 57)) : wholeL l most = -1 := by
  unfold wholeL; split
  · rfl
  · exact numL_bad l 0 c h hc
theorem splitC_mem {c : UInt8} : ∀ {l : List UInt8}, (splitC c l).2.2 = true → c ∈ l
  | [], h => by simp [splitC] at h
  | x :: r, h => by
      unfold splitC at h
      by_cases hx : x = c
      · simp [hx]
      · rw [if_neg hx] at h
        have := splitC_mem (l := r) h
        simp [this]
theorem splitC_whole {c : UInt8} {l : List UInt8} (h : (splitC c l).2.2 = false) : (splitC c l).1 = l := by
  rcases splitC_index c l with ⟨_, e⟩ | ⟨k, _, _, e⟩
  · rw [e]
  · rw [e] at h; simp at h
/-- A number of at most two digits, and one of at most three, are the same up to 32. -/
theorem whole_two (l : List UInt8) : (wholeL l 2 = wholeL l 3 ∧ wholeL l 2 ≤ 99) ∨ (wholeL l 2 = -1 ∧ (wholeL l 3 < 0 ∨ 99 < wholeL l 3)) := by
  match l with
  | [] => left; decide
  | [c] =>
    left
    have : wholeL [c] 2 = numL 0 [c] ∧ wholeL [c] 3 = numL 0 [c] := by constructor <;> (unfold wholeL; rw [if_neg (by simp)])
    rw [this.1, this.2]
    refine ⟨rfl, ?_⟩
    unfold numL; split
    · unfold numL; omega
    · omega
  | [c, d] =>
    left
    have e : wholeL [c, d] 2 = wholeL [c, d] 3 := by unfold wholeL; simp
    refine ⟨e, ?_⟩
    unfold wholeL; split
    · omega
    · unfold numL; split
      · unfold numL; split
        · unfold numL; omega
        · omega
      · omega
  | [c, d, f] =>
    right
    refine ⟨by unfold wholeL; rw [if_pos (by simp)], ?_⟩
    unfold wholeL; split
    · omega
    · rename_i h
      have hc : ¬ (c.toNat : Int) = 48 := fun e => h (.inr (.inr ⟨by simpa using e, by simp⟩))
      unfold numL; split
      · unfold numL; split
        · unfold numL; split
          · unfold numL; omega
          · omega
        · omega
      · omega
  | c :: d :: f :: g :: r =>
    right
    refine ⟨by unfold wholeL; rw [if_pos (by simp; omega)], ?_⟩
    left
    have : wholeL (c :: d :: f :: g :: r) 3 = -1 := by unfold wholeL; rw [if_pos (by simp; omega)]
    omega
theorem foldAddr_le : ∀ (ps : List (List UInt8)) (a : Int), 0 ≤ a → -1 ≤ foldAddr a ps ∧ foldAddr a ps + 1 ≤ (a + 1) * p256 ps.length
  | [], a, h => by simp [foldAddr, p256]; omega
  | p :: r, a, h => by
      unfold foldAddr
      have hp : 1 ≤ p256 (p :: r).length := by
        unfold p256
        have := Nat.pow_pos (n := (p :: r).length) (by omega : 0 < 256)
        omega
      split
      · have : 1 * 1 ≤ (a + 1) * p256 (p :: r).length := Int.mul_le_mul (by omega) hp (by omega) (by omega)
        omega
      · rename_i hz
        obtain ⟨h1, h2⟩ := foldAddr_le r (a * 256 + wholeL p 3) (by omega)
        refine ⟨h1, ?_⟩
        rw [List.length_cons, p256_succ]
        have h3 : (a * 256 + wholeL p 3 + 1) * p256 r.length ≤ ((a + 1) * 256) * p256 r.length := by
          apply Int.mul_le_mul_of_nonneg_right (by omega)
          unfold p256; exact Int.natCast_nonneg _
        have h4 : (a + 1) * (p256 r.length * 256) = ((a + 1) * 256) * p256 r.length := by
          rw [Int.mul_assoc, Int.mul_comm (p256 r.length) 256]
        rw [h4]; omega
theorem readAddr_le (l : List UInt8) : -1 ≤ readAddrL l ∧ readAddrL l ≤ 4294967295 := by
  unfold readAddrL
  split
  · rename_i h
    obtain ⟨h1, h2⟩ := foldAddr_le (cutL 46 l) 0 (by omega)
    rw [h] at h2
    have : p256 4 = 4294967296 := by decide
    rw [this] at h2
    omega
  · omega
theorem prefE_neg {a l : Int} (h : a < 0) : prefE a l ≠ 0 := by
  intro e
  have := prefE_zero e
  omega
theorem prefE_32 {a : Int} (h0 : 0 ≤ a) (h1 : a ≤ 4294967295) : prefE a 32 = 0 := by
  unfold prefE
  rw [if_pos ⟨isAddr_yes h0 h1, by omega, by omega⟩, if_pos]
  have : pw (32 - 32) = 1 := by decide
  rw [this]; omega
theorem read_eq (l : List UInt8) : readP l = readPrefL l := by
  unfold readP readPrefL
  by_cases h0 : l = [97, 110, 121]
  · rw [if_pos h0, if_pos h0]
  rw [if_neg h0, if_neg h0]
  have e := cutL_split 47 l
  rw [parse_read]
  have hw := splitC_whole (c := 47) (l := l)
  generalize splitC 47 l = t at e hw ⊢
  obtain ⟨p, r, d⟩ := t
  simp only at e hw ⊢
  have hh : (cutL 47 l).headD [] = p := by rw [e]; rfl
  rw [hh]
  obtain ⟨hr1, hr2⟩ := readAddr_le p
  generalize readAddrL p = A at *
  cases d
  · rw [if_neg (by simp)] at e
    rw [e]
    have hlen : [p].length = 1 := rfl
    by_cases hA : A < 0
    · rw [if_pos hA, if_pos (.inr (.inr (prefE_neg hA)))]
    · have h3 := prefE_32 (by omega : 0 ≤ A) hr2
      rw [if_neg hA, if_pos rfl, hlen, if_neg (by decide : ¬ 1 = 2), if_neg]
      rintro (h | h | h)
      · omega
      · omega
      · exact h h3
  · rw [if_pos rfl] at e
    have e2 := cutL_split 47 r
    rw [e]
    rcases hd2 : (splitC 47 r).2.2 with _ | _
    · have hr := splitC_whole hd2
      rw [hd2, hr, if_neg (by simp)] at e2
      rw [e2]
      have hlen : [p, r].length = 2 := rfl
      have hget : [p, r].getD 1 [] = r := rfl
      rw [hlen, hget, if_pos rfl]
      by_cases hA : A < 0
      · rw [if_pos hA, if_pos (.inr (.inr (prefE_neg hA)))]
      rw [if_neg hA, if_neg (by simp)]
      rcases whole_two r with ⟨h1, h2⟩ | ⟨h1, h2⟩
      · rw [h1]
        by_cases hg : numOK (wholeL r 3) 32 = true ∧ wholeL r 3 ≠ 0 ∧ prefE A (wholeL r 3) = 0
        · have h5 := (numOK_iff _ _).1 hg.1
          rw [if_pos hg, if_neg]
          rintro (h | h | h)
          · omega
          · have := hg.2.1; omega
          · exact h hg.2.2
        · rw [if_neg hg, if_pos]
          by_cases h3 : wholeL r 3 < 1
          · exact .inr (.inl h3)
          · by_cases h4 : prefE A (wholeL r 3) = 0
            · exfalso
              have := prefE_zero h4
              exact hg ⟨(numOK_iff _ _).2 ⟨by omega, by omega⟩, by omega, h4⟩
            · exact .inr (.inr h4)
      · have hn : ¬ (numOK (wholeL r 3) 32 = true ∧ wholeL r 3 ≠ 0 ∧ prefE A (wholeL r 3) = 0) := by
          intro h
          have := (numOK_iff _ _).1 h.1
          omega
        rw [if_neg hn, h1, if_pos (.inr (.inl (by decide)))]
    · have hz := whole_bad (most := 3) (splitC_mem hd2) (by decide)
      rw [hd2] at e2
      have hpos := cutL_pos 47 (splitC 47 r).2.1
      have hl : 2 < (p :: cutL 47 r).length := by rw [e2]; simp; omega
      have hn : ¬ (numOK (wholeL r 3) 32 = true ∧ wholeL r 3 ≠ 0 ∧ prefE A (wholeL r 3) = 0) := by
        intro h
        have := (numOK_iff _ _).1 h.1
        omega
      by_cases hA : A < 0
      · rw [if_pos hA, if_pos]
        exact .inl hl
      · rw [if_neg hA, if_neg (by simp), if_neg hn, if_pos]
        exact .inl hl
end Go.Proofs.YtkjjalaelehjeaaDoor
