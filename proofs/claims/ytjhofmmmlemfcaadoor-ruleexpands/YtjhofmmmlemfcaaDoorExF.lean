/- What fill and spread come to (package rule), plain: 'bst', 'filO', 'pairB', 'expL', 'sprO', 'expS'. -/
import Derived.Test.YtjhofmmmlemfcaaDoorExM
namespace Go.Proofs.YtjhofmmmlemfcaaDoor
open Go.RowKit
set_option linter.unusedVariables false
set_option maxRecDepth 10000

/-- Which name is the longest, of the first k, that a text begins with (of equals the first one). -/
def bstS (ns : List (List UInt8)) (t : List UInt8) (best : Int) (k : Nat) : Int :=
  if Lib.hasPrefix t (ns.getD k []) = true ∧ (best < 0 ∨ (ns.getD best.toNat []).length < (ns.getD k []).length) then (k : Int) else best
def bstU (ns : List (List UInt8)) (t : List UInt8) : Nat → Int
  | 0 => -1
  | k + 1 => bstS ns t (bstU ns t k) k
def bst (ns : List (List UInt8)) (t : List UInt8) : Int := bstU ns t ns.length
theorem bstU_range (ns : List (List UInt8)) (t : List UInt8) : ∀ (k : Nat), -1 ≤ bstU ns t k ∧ bstU ns t k < (k : Int) ∧ (0 ≤ bstU ns t k → Lib.hasPrefix t (ns.getD (bstU ns t k).toNat []) = true)
  | 0 => by unfold bstU; exact ⟨by decide, by decide, fun h => absurd h (by decide)⟩
  | k + 1 => by
      obtain ⟨h1, h2, h3⟩ := bstU_range ns t k
      rw [bstU]
      unfold bstS
      split
      · rename_i hc
        exact ⟨by omega, by omega, fun _ => by rw [Int.toNat_natCast]; exact hc.1⟩
      · exact ⟨h1, by omega, h3⟩
theorem bst_hit {ns : List (List UInt8)} {t : List UInt8} (h : 0 ≤ bst ns t) : (bst ns t).toNat < ns.length ∧ (ns.getD (bst ns t).toNat []).length ≤ t.length := by
  obtain ⟨h1, h2, h3⟩ := bstU_range ns t ns.length
  unfold bst at h ⊢
  exact ⟨by omega, Lib.hasPrefix_le (h3 h)⟩
theorem splitC_lt {c : UInt8} {l : List UInt8} (h : (splitC c l).2.2 = true) : (splitC c l).2.1.length < l.length := by
  have := congrArg List.length (splitC_joinX h)
  rw [List.length_append, List.length_cons] at this
  omega
/-! ### texts in place of their names -/
def filF (ns ts : List (List UInt8)) : Nat → List UInt8 → Option (List UInt8)
  | 0, _ => some []
  | f + 1, t => if (splitC 36 t).2.2 = true then (if bst ns (splitC 36 t).2.1 < 0 then none else (filF ns ts f ((splitC 36 t).2.1.drop (ns.getD (bst ns (splitC 36 t).2.1).toNat []).length)).map (fun z => (splitC 36 t).1 ++ (ts.getD (bst ns (splitC 36 t).2.1).toNat [] ++ z))) else some t
def filO (ns ts : List (List UInt8)) (t : List UInt8) : Option (List UInt8) := filF ns ts (t.length + 1) t
theorem filF_eq (ns ts : List (List UInt8)) : ∀ (f g : Nat) (t : List UInt8), t.length < f → t.length < g → filF ns ts f t = filF ns ts g t
  | 0, _, t, h, _ => absurd h (Nat.not_lt_zero _)
  | _ + 1, 0, t, _, h => absurd h (Nat.not_lt_zero _)
  | f + 1, g + 1, t, h1, h2 => by
      rw [filF, filF]
      split
      · rename_i hm
        have := splitC_lt hm
        rw [filF_eq ns ts f g _ (by rw [List.length_drop]; omega) (by rw [List.length_drop]; omega)]
      · rfl
theorem filO_cut (ns ts : List (List UInt8)) (t : List UInt8) (h : (splitC 36 t).2.2 = true) : filO ns ts t = if bst ns (splitC 36 t).2.1 < 0 then none else (filO ns ts ((splitC 36 t).2.1.drop (ns.getD (bst ns (splitC 36 t).2.1).toNat []).length)).map (fun z => (splitC 36 t).1 ++ (ts.getD (bst ns (splitC 36 t).2.1).toNat [] ++ z)) := by
  unfold filO
  rw [filF, if_pos h]
  have := splitC_lt h
  rw [filF_eq ns ts t.length _ _ (by rw [List.length_drop]; omega) (Nat.lt_succ_self _)]
theorem filO_none (ns ts : List (List UInt8)) (t : List UInt8) (h : (splitC 36 t).2.2 = false) : filO ns ts t = some t := by
  unfold filO
  rw [filF, if_neg (by rw [h]; simp)]
/-- Byte by byte, as the reference goes. -/
theorem filO_nil (ns ts : List (List UInt8)) : filO ns ts [] = some [] := rfl
theorem filO_byte (ns ts : List (List UInt8)) (b : UInt8) (r : List UInt8) (hb : b ≠ 36) : filO ns ts (b :: r) = (filO ns ts r).map (fun z => b :: z) := by
  have hs : splitC 36 (b :: r) = (b :: (splitC 36 r).1, (splitC 36 r).2.1, (splitC 36 r).2.2) := by rw [splitC, if_neg hb]
  rcases hm : (splitC 36 r).2.2 with _ | _
  · rw [filO_none ns ts r hm, filO_none ns ts (b :: r) (by rw [hs]; exact hm)]; rfl
  · rw [filO_cut ns ts r hm, filO_cut ns ts (b :: r) (by rw [hs]; exact hm), hs]
    simp only
    split
    · rfl
    · rw [Option.map_map]; rfl
theorem filO_mark (ns ts : List (List UInt8)) (r : List UInt8) : filO ns ts (36 :: r) = if bst ns r < 0 then none else (filO ns ts (r.drop (ns.getD (bst ns r).toNat []).length)).map (fun z => ts.getD (bst ns r).toNat [] ++ z) := by
  have hs : splitC 36 (36 :: r) = ([], r, true) := by rw [splitC, if_pos rfl]
  rw [filO_cut ns ts (36 :: r) (by rw [hs]), hs]
  simp only [List.nil_append]
/-! ### braces -/
def pairB : Bool → List UInt8 → Bool
  | o, [] => !o
  | o, c :: r => if c = 123 then (!o && pairB true r) else if c = 125 then (o && pairB false r) else pairB o r
def expF : Nat → List UInt8 → List (List UInt8)
  | 0, t => [t]
  | f + 1, t => if (splitC 123 t).2.2 = true then (cutL 124 (splitC 125 (splitC 123 t).2.1).1).flatMap (fun a => (expF f (splitC 125 (splitC 123 t).2.1).2.1).map (fun y => (splitC 123 t).1 ++ a ++ y)) else [t]
/-- The lines that a line with braces stands for. -/
def expL (t : List UInt8) : List (List UInt8) := expF (t.length + 1) t
theorem splitC_le (c : UInt8) (l : List UInt8) : (splitC c l).2.1.length ≤ l.length := (splitC_len c l).2
theorem expF_eq : ∀ (f g : Nat) (t : List UInt8), t.length < f → t.length < g → expF f t = expF g t
  | 0, _, t, h, _ => absurd h (Nat.not_lt_zero _)
  | _ + 1, 0, t, _, h => absurd h (Nat.not_lt_zero _)
  | f + 1, g + 1, t, h1, h2 => by
      rw [expF, expF]
      split
      · rename_i hm
        have := splitC_lt hm
        have := splitC_le 125 (splitC 123 t).2.1
        rw [expF_eq f g _ (by omega) (by omega)]
      · rfl
theorem expL_none {t : List UInt8} (h : (splitC 123 t).2.2 = false) : expL t = [t] := by
  unfold expL
  rw [expF, if_neg (by rw [h]; simp)]
theorem expL_cut {t : List UInt8} (h : (splitC 123 t).2.2 = true) : expL t = (cutL 124 (splitC 125 (splitC 123 t).2.1).1).flatMap (fun a => (expL (splitC 125 (splitC 123 t).2.1).2.1).map (fun y => (splitC 123 t).1 ++ a ++ y)) := by
  have := splitC_lt h
  have := splitC_le 125 (splitC 123 t).2.1
  unfold expL
  rw [expF, if_pos h, expF_eq t.length ((splitC 125 (splitC 123 t).2.1).2.1.length + 1) _ (by omega) (Nat.lt_succ_self _)]
theorem cut_ne' (c : UInt8) (l : List UInt8) : ∃ x r, cutL c l = x :: r := ⟨_, _, cutL_splitX c l⟩
theorem expL_ne (n : Nat) : ∀ (t : List UInt8), t.length ≤ n → expL t ≠ [] := by
  induction n with
  | zero =>
    intro t h
    have : t = [] := List.length_eq_zero_iff.1 (by omega)
    subst this
    rw [expL_none rfl]; simp
  | succ n ih =>
    intro t h
    rcases hm : (splitC 123 t).2.2 with _ | _
    · rw [expL_none hm]; simp
    · rw [expL_cut hm]
      have := splitC_lt hm
      have := splitC_le 125 (splitC 123 t).2.1
      obtain ⟨x, r, e⟩ := cut_ne' 124 (splitC 125 (splitC 123 t).2.1).1
      rw [e, List.flatMap_cons]
      intro e0
      have := (List.append_eq_nil_iff.1 e0).1
      exact ih _ (by omega) (List.map_eq_nil_iff.1 this)
/-- What all lines come to that are told. -/
def sumL : List (List UInt8) → Nat
  | [] => 0
  | x :: r => x.length + 1 + sumL r
theorem sumL_append (a b : List (List UInt8)) : sumL (a ++ b) = sumL a + sumL b := by
  induction a with
  | nil => simp [sumL]
  | cons x r ih => rw [List.cons_append, sumL, sumL, ih]; omega
theorem sumL_pos {l : List (List UInt8)} (h : l ≠ []) : 0 < sumL l := by
  cases l with
  | nil => exact absurd rfl h
  | cons x r => rw [sumL]; omega
theorem sumL_len (l : List (List UInt8)) : l.length ≤ sumL l := by
  induction l with
  | nil => simp [sumL]
  | cons a l ih => rw [sumL, List.length_cons]; omega
theorem sumL_join (c : UInt8) : ∀ (ls : List (List UInt8)), ls ≠ [] → (Lib.join ls [c]).length + 1 = sumL ls
  | [], h => absurd rfl h
  | [x], _ => by rw [Lib.join_one]; simp [sumL]
  | x :: y :: r, _ => by
      have ih := sumL_join c (y :: r) (by simp)
      have e : Lib.join (x :: y :: r) [c] = x ++ c :: Lib.join (y :: r) [c] := by
        rw [Lib.join_cons, Lib.join_cons]; simp [Lib.joinTail]
      rw [e, sumL, ← ih]
      simp only [List.length_append, List.length_cons]
      omega
/-- All lines of a text spread. -/
def sprO (t : List UInt8) : List UInt8 × Int :=
  if (cutL 10 t).all (pairB false) = true then (if 2001 < sumL ((cutL 10 t).flatMap expL) then ([], 4) else (Lib.join ((cutL 10 t).flatMap expL) [10], 0)) else ([], 2)
/-- What Expand says. -/
def expS (s : List UInt8) : List UInt8 × Int :=
  if 2000 < s.length then ([], 4)
  else if (nmP [] [] (lnsL s)).2.2 ≠ 0 then ([], (nmP [] [] (lnsL s)).2.2)
  else match filO (nmP [] [] (lnsL s)).1 (nmP [] [] (lnsL s)).2.1 (outL (lnsL s)) with
    | none => ([], 5)
    | some t => if 2000 < t.length then ([], 4) else sprO t
/-! ### pairs -/
theorem pairB_app : ∀ (p : List UInt8) (o : Bool) (r : List UInt8), (∀ x ∈ p, x ≠ 123 ∧ x ≠ 125) → pairB o (p ++ r) = pairB o r
  | [], o, r, _ => rfl
  | c :: p, o, r, h => by
      rw [List.cons_append, pairB, if_neg (h c List.mem_cons_self).1, if_neg (h c List.mem_cons_self).2]
      exact pairB_app p o r (fun x hx => h x (List.mem_cons_of_mem _ hx))
/-- A paired text that opens at place p: it closes, and no sign lies between. -/
theorem pair_open : ∀ (r : List UInt8), pairB true r = true → (splitC 125 r).2.2 = true ∧ (∀ x ∈ (splitC 125 r).1, x ≠ 123 ∧ x ≠ 125) ∧ pairB false (splitC 125 r).2.1 = true
  | [], h => by simp [pairB] at h
  | c :: r, h => by
      rw [pairB] at h
      by_cases h1 : c = 123
      · rw [if_pos h1] at h; simp at h
      rw [if_neg h1] at h
      by_cases h2 : c = 125
      · rw [if_pos h2] at h
        rw [splitC, if_pos h2]
        exact ⟨rfl, (fun x hx => absurd hx (by simp)), (by simpa using h)⟩
      · rw [if_neg h2] at h
        obtain ⟨g1, g2, g3⟩ := pair_open r h
        rw [splitC, if_neg h2]
        exact ⟨g1, fun x hx => (List.mem_cons.1 hx).elim (fun e => by rw [e]; exact ⟨h1, h2⟩) (g2 x), g3⟩
theorem pair_none : ∀ (t : List UInt8), pairB false t = true → (splitC 123 t).2.2 = true → (∀ x ∈ (splitC 123 t).1, x ≠ 123 ∧ x ≠ 125) ∧ pairB true (splitC 123 t).2.1 = true
  | [], _, h => by simp [splitC] at h
  | c :: r, h, hm => by
      rw [pairB] at h
      by_cases h1 : c = 123
      · rw [if_pos h1] at h
        rw [splitC, if_pos h1]
        exact ⟨(fun x hx => absurd hx (by simp)), (by simpa using h)⟩
      rw [if_neg h1] at h
      by_cases h2 : c = 125
      · rw [if_pos h2] at h; simp at h
      · rw [if_neg h2] at h
        rw [splitC, if_neg h1] at hm ⊢
        simp only at hm ⊢
        obtain ⟨g1, g2⟩ := pair_none r h hm
        exact ⟨fun x hx => (List.mem_cons.1 hx).elim (fun e => by rw [e]; exact ⟨h1, h2⟩) (g1 x), g2⟩
theorem cut_sub (c : UInt8) : ∀ (n : Nat) (l : List UInt8), l.length ≤ n → ∀ x ∈ cutL c l, ∀ b ∈ x, b ∈ l := by
  intro n
  induction n with
  | zero =>
    intro l hl x hx b hb
    have : l = [] := List.length_eq_zero_iff.1 (by omega)
    subst this
    rw [cut_none (by simp)] at hx
    rw [List.mem_singleton] at hx
    subst hx; exact hb
  | succ n ih =>
    intro l hl x hx b hb
    rw [cutL_splitX] at hx
    rcases hs : (splitC c l).2.2 with _ | _
    · rw [hs, if_neg (by simp), List.mem_singleton] at hx
      subst hx
      rw [splitC_allX hs] at hb; exact hb
    · rw [hs, if_pos rfl] at hx
      have hj := splitC_joinX hs
      have hlen := congrArg List.length hj
      rw [List.length_append, List.length_cons] at hlen
      rcases List.mem_cons.1 hx with rfl | hx
      · rw [hj]; exact List.mem_append_left _ hb
      · have := ih (splitC c l).2.1 (by omega) x hx b hb
        rw [hj]; exact List.mem_append_right _ (List.mem_cons_of_mem _ this)
end Go.Proofs.YtjhofmmmlemfcaaDoor
