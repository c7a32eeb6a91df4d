/- Plain facts on a text cut at a byte: 'cutL' by 'splitC'; what strings.Split makes of a text. -/
import Derived.Test.YtjhofmmmlemfcaaDoorStrCut
import Derived.Test.YtjhofmmmlemfcaaDoorCuts
import Derived.Lib.IndexBytes
import Derived.Lib.SplitLaws
namespace Go.Proofs.YtjhofmmmlemfcaaDoor
open Go.RowKit
set_option linter.unusedVariables false
set_option maxRecDepth 10000

theorem cutG_splitX (c : UInt8) : ∀ (l cur : List UInt8), cutG c cur l = (cur ++ (splitC c l).1) :: (if (splitC c l).2.2 = true then cutG c [] (splitC c l).2.1 else [])
  | [], cur => by simp [cutG, splitC]
  | x :: r, cur => by
      have h1 : cutG c cur (x :: r) = if x = c then cur :: cutG c [] r else cutG c (cur ++ [x]) r := rfl
      have h2 : splitC c (x :: r) = if x = c then ([], r, true) else (x :: (splitC c r).1, (splitC c r).2.1, (splitC c r).2.2) := rfl
      rw [h1, h2]
      by_cases h : x = c
      · rw [if_pos h, if_pos h]; simp
      · rw [if_neg h, if_neg h, cutG_splitX c r (cur ++ [x])]
        simp
theorem cutL_splitX (c : UInt8) (l : List UInt8) : cutL c l = (splitC c l).1 :: (if (splitC c l).2.2 = true then cutL c (splitC c l).2.1 else []) := by
  unfold cutL; rw [cutG_splitX]; simp
theorem splitC_noneX {c : UInt8} : ∀ {p : List UInt8}, (∀ x ∈ p, x ≠ c) → splitC c p = (p, [], false)
  | [], _ => rfl
  | x :: r, h => by
      unfold splitC
      rw [if_neg (h x (by simp)), splitC_noneX (fun y hy => h y (by simp [hy]))]
theorem splitC_atX {c : UInt8} {r : List UInt8} : ∀ {p : List UInt8}, (∀ x ∈ p, x ≠ c) → splitC c (p ++ c :: r) = (p, r, true)
  | [], _ => by unfold splitC; simp
  | x :: q, h => by
      rw [List.cons_append]
      unfold splitC
      rw [if_neg (h x (by simp)), splitC_atX (fun y hy => h y (by simp [hy]))]
theorem splitC_joinX {c : UInt8} : ∀ {l : List UInt8}, (splitC c l).2.2 = true → l = (splitC c l).1 ++ c :: (splitC c l).2.1
  | [], h => by simp [splitC] at h
  | x :: r, h => by
      unfold splitC at h ⊢
      by_cases hx : x = c
      · rw [if_pos hx]; simp [hx]
      · rw [if_neg hx] at h ⊢
        simp only at h ⊢
        rw [List.cons_append, ← splitC_joinX h]
theorem splitC_allX {c : UInt8} : ∀ {l : List UInt8}, (splitC c l).2.2 = false → (splitC c l).1 = l
  | [], _ => rfl
  | x :: r, h => by
      unfold splitC at h ⊢
      by_cases hx : x = c
      · rw [if_pos hx] at h; simp at h
      · rw [if_neg hx] at h ⊢
        simp only at h ⊢
        rw [splitC_allX h]
theorem cut_none {c : UInt8} {p : List UInt8} (h : ∀ x ∈ p, x ≠ c) : cutL c p = [p] := by rw [cutL_splitX, splitC_noneX h]; rfl
theorem cut_at {c : UInt8} {p r : List UInt8} (h : ∀ x ∈ p, x ≠ c) : cutL c (p ++ c :: r) = p :: cutL c r := by rw [cutL_splitX, splitC_atX h]; rfl
theorem join_cut (c : UInt8) : ∀ (k : Nat) (l : List UInt8), l.length ≤ k → Lib.join (cutL c l) [c] = l
  | k, l, hk => by
      rw [cutL_splitX]
      rcases hs : (splitC c l).2.2 with _ | _
      · rw [if_neg (by simp), Lib.join_one]; exact splitC_allX hs
      · rw [if_pos rfl]
        have hj := splitC_joinX hs
        have hlen := congrArg List.length hj
        rw [List.length_append, List.length_cons] at hlen
        match k, hk with
        | 0, hk => omega
        | k + 1, hk =>
          have ih := join_cut c k (splitC c l).2.1 (by omega)
          have hne : ∃ y r, cutL c (splitC c l).2.1 = y :: r := ⟨_, _, cutL_splitX c _⟩
          obtain ⟨y, r, hyr⟩ := hne
          rw [hyr] at ih ⊢
          have e : Lib.join ((splitC c l).1 :: y :: r) [c] = (splitC c l).1 ++ [c] ++ Lib.join (y :: r) [c] := by
            rw [Lib.join_cons, Lib.join_cons]; simp [Lib.joinTail]
          rw [e, ih]
          conv => rhs; rw [hj]
          simp
theorem cut_join (c : UInt8) : ∀ (ws : List (List UInt8)), ws ≠ [] → (∀ w ∈ ws, ∀ x ∈ w, x ≠ c) → cutL c (Lib.join ws [c]) = ws
  | [], h, _ => absurd rfl h
  | [x], _, h => by rw [Lib.join_one]; exact cut_none (h x (by simp))
  | x :: y :: r, _, h => by
      have e : Lib.join (x :: y :: r) [c] = x ++ c :: Lib.join (y :: r) [c] := by
        rw [Lib.join_cons, Lib.join_cons]; simp [Lib.joinTail]
      rw [e, cut_at (h x (by simp)), cut_join c (y :: r) (by simp) (fun w hw => h w (by simp [hw]))]
theorem indexB_one (c : UInt8) (s : ByteArray) : Lib.indexB s ⟨#[c]⟩ = Lib.indexByte s.data.toList c := by
  have e : Lib.indexB s ⟨#[c]⟩ = Lib.index s.data.toList [c] := rfl
  rw [e, Lib.index_one]
theorem words_cutC (c : UInt8) : ∀ (k : Nat) (s : ByteArray), Lib.countB s ⟨#[c]⟩ = k → (Lib.splitB ⟨#[c]⟩ 0 k s).map (fun x => x.data.toList) = cutL c s.data.toList
  | k, s, hk => by
      have hix := indexB_one c s
      rcases splitC_index c s.data.toList with ⟨h1, h2⟩ | ⟨i, hi, h1, h2⟩
      · have hm : Lib.indexB s ⟨#[c]⟩ = -1 := by rw [hix]; have := Lib.indexByte_ge s.data.toList c; omega
        rw [Lib.splitB_miss _ _ _ _ hm, cutL_splitX, h2]; rfl
      · have hh : Lib.indexB s ⟨#[c]⟩ = i := by rw [hix, h1]
        have hc := Lib.countB_hit s ⟨#[c]⟩ i (by show 1 ≤ 1; omega) hh
        match k, hk with
        | 0, hk => omega
        | k + 1, hk =>
          rw [Lib.splitB_hit _ _ _ _ i hh, List.map_cons, words_cutC c k _ (by omega), cutL_splitX c s.data.toList, h2]
          simp only [if_true]
          have e1 : (s.extract 0 (i + 0)).data.toList = s.data.toList.take i := by rw [Nat.add_zero, ext_take, mkB_toList]
          have e2 : (s.extract (i + (⟨#[c]⟩ : ByteArray).size) s.size).data.toList = s.data.toList.drop (i + 1) := by
            rw [show (⟨#[c]⟩ : ByteArray).size = 1 from rfl, ext_drop, mkB_toList]
          rw [e1, e2]
end Go.Proofs.YtjhofmmmlemfcaaDoor
