/- Plain facts on texts: what is read as an address or a prefix is printed as that text. -/
import Derived.Test.YtlpgppjdmjcooaaGreatDoorMgI
namespace Go.Proofs.YtlpgppjdmjcooaaGreatDoor
open Go.RowKit
set_option linter.unusedVariables false

theorem digit_back {c : UInt8} (h : 48 ≤ (c.toNat : Int) ∧ (c.toNat : Int) ≤ 57) : 48 + UInt8.ofNat (c.toNat - 48) = c := by
  have hc : c.toNat < 256 := c.toNat_lt
  apply UInt8.toNat_inj.1
  have e : (UInt8.ofNat (c.toNat - 48)).toNat = c.toNat - 48 := by
    rw [UInt8.toNat_ofNat']; omega
  rw [UInt8.toNat_add, e]
  show (48 + (c.toNat - 48)) % 256 = c.toNat
  omega
theorem whole_digits : ∀ {p : List UInt8}, 0 ≤ wholeL p 3 → digL (wholeL p 3).toNat = p
  | [], h => by unfold wholeL at h; rw [if_pos (.inl rfl)] at h; omega
  | [c], h => by
      have e : wholeL [c] 3 = numL 0 [c] := by unfold wholeL; rw [if_neg (by simp)]
      rw [e] at h ⊢
      unfold numL at h ⊢
      split at h
      · rename_i hc
        rw [if_pos hc]
        unfold numL
        have e2 : (0 * 10 + (c.toNat : Int) - 48).toNat = c.toNat - 48 := by omega
        rw [e2, digL_lt (by omega), digit_back hc]
      · omega
  | [c, d], h => by
      by_cases hz : (c.toNat : Int) = 48
      · unfold wholeL at h; rw [if_pos (.inr (.inr ⟨by simpa using hz, by simp⟩))] at h; omega
      have e : wholeL [c, d] 3 = numL 0 [c, d] := by
        unfold wholeL; rw [if_neg]
        rintro (h | h | h)
        · cases h
        · simp at h
        · exact hz (by simpa using h.1)
      rw [e] at h ⊢
      unfold numL at h ⊢
      split at h
      · rename_i hc
        rw [if_pos hc]
        unfold numL at h ⊢
        split at h
        · rename_i hd
          rw [if_pos hd]
          unfold numL
          have e2 : ((0 * 10 + (c.toNat : Int) - 48) * 10 + (d.toNat : Int) - 48).toNat = (c.toNat - 48) * 10 + (d.toNat - 48) := by omega
          rw [e2, digL_ge (by omega)]
          have e3 : ((c.toNat - 48) * 10 + (d.toNat - 48)) / 10 = c.toNat - 48 := by omega
          have e4 : ((c.toNat - 48) * 10 + (d.toNat - 48)) % 10 = d.toNat - 48 := by omega
          rw [e3, e4, digL_lt (by omega), digit_back hc, digit_back hd]; rfl
        · omega
      · omega
  | [c, d, f], h => by
      by_cases hz : (c.toNat : Int) = 48
      · unfold wholeL at h; rw [if_pos (.inr (.inr ⟨by simpa using hz, by simp⟩))] at h; omega
      have e : wholeL [c, d, f] 3 = numL 0 [c, d, f] := by
        unfold wholeL; rw [if_neg]
        rintro (h | h | h)
        · cases h
        · simp at h
        · exact hz (by simpa using h.1)
      rw [e] at h ⊢
      unfold numL at h ⊢
      split at h
      · rename_i hc
        rw [if_pos hc]
        unfold numL at h ⊢
        split at h
        · rename_i hd
          rw [if_pos hd]
          unfold numL at h ⊢
          split at h
          · rename_i hf
            rw [if_pos hf]
            unfold numL
            have e2 : (((0 * 10 + (c.toNat : Int) - 48) * 10 + (d.toNat : Int) - 48) * 10 + (f.toNat : Int) - 48).toNat = ((c.toNat - 48) * 10 + (d.toNat - 48)) * 10 + (f.toNat - 48) := by omega
            rw [e2, digL_ge (by omega)]
            have e3 : (((c.toNat - 48) * 10 + (d.toNat - 48)) * 10 + (f.toNat - 48)) / 10 = (c.toNat - 48) * 10 + (d.toNat - 48) := by omega
            have e4 : (((c.toNat - 48) * 10 + (d.toNat - 48)) * 10 + (f.toNat - 48)) % 10 = f.toNat - 48 := by omega
            rw [e3, e4, digL_ge (by omega)]
            have e5 : ((c.toNat - 48) * 10 + (d.toNat - 48)) / 10 = c.toNat - 48 := by omega
            have e6 : ((c.toNat - 48) * 10 + (d.toNat - 48)) % 10 = d.toNat - 48 := by omega
            rw [e5, e6, digL_lt (by omega), digit_back hc, digit_back hd, digit_back hf]; rfl
          · omega
        · omega
      · omega
  | c :: d :: f :: g :: r, h => by
      unfold wholeL at h; rw [if_pos (.inr (.inl (by simp; omega)))] at h; omega
theorem splitC_join {c : UInt8} : ∀ {l : List UInt8}, (splitC c l).2.2 = true → l = (splitC c l).1 ++ c :: (splitC c l).2.1
  | [], h => by simp [splitC] at h
  | x :: r, h => by
      have e : splitC c (x :: r) = if x = c then ([], r, true) else (x :: (splitC c r).1, (splitC c r).2.1, (splitC c r).2.2) := rfl
      rw [e] at h ⊢
      by_cases hx : x = c
      · rw [if_pos hx]; simp [hx]
      · rw [if_neg hx] at h ⊢
        have := splitC_join (l := r) h
        simp only [List.cons_append]
        rw [← this]
theorem splitC_all {c : UInt8} {l : List UInt8} (h : (splitC c l).2.2 = false) : (splitC c l).1 = l := by
  rcases splitC_index c l with ⟨_, e⟩ | ⟨k, _, _, e⟩
  · rw [e]
  · rw [e] at h; simp at h
theorem parse_step {k : Nat} {a : Int} {l : List UInt8} (ha : 0 ≤ a) (h : 0 ≤ parseL (k + 1) a l) : ∃ (z : Int) (p r : List UInt8), 0 ≤ z ∧ z ≤ 255 ∧ digL z.toNat = p ∧ parseL (k + 1) a l = parseL k (a * 256 + z) r ∧ ((0 < k ∧ l = p ++ 46 :: r) ∨ (k = 0 ∧ l = p)) := by
  rw [parseL] at h ⊢
  by_cases hc : numOK (wholeL (splitC 46 l).1 3) 255 = true ∧ (splitC 46 l).2.2 = decide (0 < k)
  · rw [if_pos hc] at h ⊢
    have hn : 0 ≤ wholeL (splitC 46 l).1 3 ∧ wholeL (splitC 46 l).1 3 ≤ 255 := by simpa [numOK] using hc.1
    refine ⟨wholeL (splitC 46 l).1 3, (splitC 46 l).1, (splitC 46 l).2.1, hn.1, hn.2, whole_digits hn.1, rfl, ?_⟩
    rcases Nat.eq_zero_or_pos k with h0 | h0
    · right
      refine ⟨h0, (splitC_all ?_).symm⟩
      rw [hc.2, h0]; rfl
    · left
      refine ⟨h0, splitC_join ?_⟩
      rw [hc.2]; simpa using h0
  · rw [if_neg hc] at h; omega
theorem parse_back {l : List UInt8} (h : 0 ≤ parseL 4 0 l) : parseL 4 0 l ≤ 4294967295 ∧ showL (parseL 4 0 l) = l := by
  obtain ⟨z3, p3, r3, a0, a1, a2, a3, a4⟩ := parse_step (Int.le_refl 0) h
  rw [a3] at h
  obtain ⟨z2, p2, r2, b0, b1, b2, b3, b4⟩ := parse_step (by omega) h
  rw [b3] at h
  obtain ⟨z1, p1, r1, c0, c1, c2, c3, c4⟩ := parse_step (by omega) h
  rw [c3] at h
  obtain ⟨z0, p0, r0, d0, d1, d2, d3, d4⟩ := parse_step (by omega) h
  rw [a3, b3, c3, d3, parseL]
  refine ⟨by omega, ?_⟩
  have e3 : (((0 * 256 + z3) * 256 + z2) * 256 + z1) * 256 + z0 = z3 * 16777216 + z2 * 65536 + z1 * 256 + z0 := by omega
  rw [e3]
  unfold showL
  have f3 : ((z3 * 16777216 + z2 * 65536 + z1 * 256 + z0) / 16777216 % 256) = z3 := by omega
  have f2 : ((z3 * 16777216 + z2 * 65536 + z1 * 256 + z0) / 65536 % 256) = z2 := by omega
  have f1 : ((z3 * 16777216 + z2 * 65536 + z1 * 256 + z0) / 256 % 256) = z1 := by omega
  have f0 : ((z3 * 16777216 + z2 * 65536 + z1 * 256 + z0) % 256) = z0 := by omega
  rw [f3, f2, f1, f0, a2, b2, c2, d2]
  rcases a4 with ⟨_, a4⟩ | ⟨a4, _⟩
  · rcases b4 with ⟨_, b4⟩ | ⟨b4, _⟩
    · rcases c4 with ⟨_, c4⟩ | ⟨c4, _⟩
      · rcases d4 with ⟨d4, _⟩ | ⟨_, d4⟩
        · omega
        · rw [a4, b4, c4, d4]; simp
      · omega
    · omega
  · omega
theorem dig_33 : ∀ n : Fin 33, (wholeL (digL n.val) 3 = (n.val : Int)) := by decide +kernel
theorem readP_show {a n : Int} (h : prefE a n = 0) : readP (showPrefL a n) = (a, n, true) := by
  obtain ⟨⟨h0, h1⟩, ⟨h2, h3⟩, hm⟩ := prefE_zero h
  unfold showPrefL
  by_cases hn : n = 0
  · rw [if_pos hn]
    subst hn
    have e : pw (32 - 0) = 4294967296 := by decide
    rw [e] at hm
    have : a = 0 := by omega
    subst this; rfl
  · rw [if_neg hn]
    have hw : wholeL (digL n.toNat) 3 = n := by
      have := dig_33 ⟨n.toNat, by omega⟩
      simp only at this
      rw [this]; omega
    have e : showL a ++ [47] ++ digL n.toNat = showL a ++ 47 :: digL n.toNat := by simp
    have hne : ¬ showL a ++ 47 :: digL n.toNat = [97, 110, 121] := by
      intro h
      have : (47 : UInt8) ∈ showL a ++ 47 :: digL n.toNat := by simp
      rw [h] at this; revert this; decide
    rw [e]
    unfold readP
    rw [if_neg hne, splitC_at (show_ne (c := 47) (by decide) (by decide))]
    simp only
    rw [parse_show h0 h1, if_neg (by omega), if_neg (by simp), hw, if_pos]
    refine ⟨?_, hn, h⟩
    unfold numOK; simp; omega
theorem prefE_32' {a : Int} (h0 : 0 ≤ a) (h1 : a ≤ 4294967295) : prefE a 32 = 0 := by
  unfold prefE
  rw [if_pos ⟨isAddr_yes h0 h1, by omega, by omega⟩, if_pos]
  have : pw (32 - 32) = 1 := by decide
  rw [this]; omega
theorem read_back {l : List UInt8} {a n : Int} (h : readP l = (a, n, true)) : prefE a n = 0 ∧ (showPrefL a n = l ∨ showPrefL a n = l ++ [47, 51, 50]) := by
  unfold readP at h
  by_cases h0 : l = [97, 110, 121]
  · rw [if_pos h0] at h
    simp at h
    obtain ⟨rfl, rfl⟩ := h
    exact ⟨by decide, .inl (by rw [h0]; rfl)⟩
  rw [if_neg h0] at h
  by_cases h1 : parseL 4 0 (splitC 47 l).1 < 0
  · rw [if_pos h1] at h; simp at h
  rw [if_neg h1] at h
  obtain ⟨hb, hs⟩ := parse_back (by omega : 0 ≤ parseL 4 0 (splitC 47 l).1)
  by_cases h2 : (splitC 47 l).2.2 = false
  · rw [if_pos h2] at h
    simp at h
    obtain ⟨rfl, rfl⟩ := h
    refine ⟨prefE_32' (by omega) hb, .inr ?_⟩
    unfold showPrefL
    rw [if_neg (by omega), hs, splitC_all h2]
    have : digL (32 : Int).toNat = [51, 50] := by decide
    rw [this]; simp
  · rw [if_neg h2] at h
    by_cases h3 : numOK (wholeL (splitC 47 l).2.1 3) 32 = true ∧ wholeL (splitC 47 l).2.1 3 ≠ 0 ∧ prefE (parseL 4 0 (splitC 47 l).1) (wholeL (splitC 47 l).2.1 3) = 0
    · rw [if_pos h3] at h
      simp at h
      obtain ⟨rfl, rfl⟩ := h
      refine ⟨h3.2.2, .inl ?_⟩
      have hn : 0 ≤ wholeL (splitC 47 l).2.1 3 := by
        have := h3.1; simp [numOK] at this; exact this.1
      unfold showPrefL
      rw [if_neg h3.2.1, hs, whole_digits hn]
      have := splitC_join (c := 47) (l := l) (by simpa using h2)
      rw [List.append_assoc]; exact this.symm
    · rw [if_neg h3] at h; simp at h
end Go.Proofs.YtlpgppjdmjcooaaGreatDoor
