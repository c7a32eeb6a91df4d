/- What the reference's loop over braces comes to, plain: 'flE', 'cst', 'stk', 'sprR'. -/
import Derived.Test.YtjhofmmmlemfcaaDoorExP6
namespace Go.Proofs.YtjhofmmmlemfcaaDoor
open Go.RowKit
set_option linter.unusedVariables false
set_option maxRecDepth 10000

/-- Lines with their ends. -/
def flE (ys : List (List UInt8)) : List UInt8 := ys.flatMap (fun y => y ++ [10])
theorem flE_append (a b : List (List UInt8)) : flE (a ++ b) = flE a ++ flE b := by unfold flE; rw [List.flatMap_append]
theorem flE_one (y : List UInt8) : flE [y] = y ++ [10] := by unfold flE; simp
theorem flE_len (ys : List (List UInt8)) : (flE ys).length = sumL ys := by
  induction ys with
  | nil => rfl
  | cons y r ih =>
    rw [show y :: r = [y] ++ r from rfl, flE_append, flE_one, List.length_append, ih, List.length_append]
    rfl
theorem split_pre {p : List UInt8} (h : ∀ x ∈ p, x ≠ 123) (r : List UInt8) : splitC 123 (p ++ r) = (p ++ (splitC 123 r).1, (splitC 123 r).2.1, (splitC 123 r).2.2) := by
  induction p with
  | nil => rfl
  | cons c p ih =>
    rw [List.cons_append, splitC, if_neg (h c List.mem_cons_self), ih (fun x hx => h x (List.mem_cons_of_mem _ hx))]
    rfl
theorem exp_pre {p : List UInt8} (h : ∀ x ∈ p, x ≠ 123) (r : List UInt8) : expL (p ++ r) = (expL r).map (fun y => p ++ y) := by
  have hs := split_pre h r
  rcases hm : (splitC 123 r).2.2 with _ | _
  · rw [expL_none hm, expL_none (by rw [hs]; exact hm)]; rfl
  · rw [expL_cut hm, expL_cut (t := p ++ r) (by rw [hs]; exact hm), hs]
    simp only
    rw [List.map_flatMap]
    congr 1
    funext a
    rw [List.map_map]
    apply List.map_congr_left
    intro y _
    simp
/-- How many rounds a line wants. -/
def cstF : Nat → List UInt8 → Nat
  | 0, _ => 1
  | f + 1, t => if (splitC 123 t).2.2 = true then 1 + (cutL 124 (splitC 125 (splitC 123 t).2.1).1).length * cstF f (splitC 125 (splitC 123 t).2.1).2.1 else 1
def cst (t : List UInt8) : Nat := cstF (t.length + 1) t
theorem cstF_eq : ∀ (f g : Nat) (t : List UInt8), t.length < f → t.length < g → cstF f t = cstF g t
  | 0, _, t, h, _ => absurd h (Nat.not_lt_zero _)
  | _ + 1, 0, t, _, h => absurd h (Nat.not_lt_zero _)
  | f + 1, g + 1, t, h1, h2 => by
      rw [cstF, cstF]
      split
      · rename_i hm
        have := splitC_lt hm
        have := splitC_le 125 (splitC 123 t).2.1
        rw [cstF_eq f g _ (by omega) (by omega)]
      · rfl
theorem cst_none {t : List UInt8} (h : (splitC 123 t).2.2 = false) : cst t = 1 := by
  unfold cst
  rw [cstF, if_neg (by rw [h]; simp)]
theorem cst_cut {t : List UInt8} (h : (splitC 123 t).2.2 = true) : cst t = 1 + (cutL 124 (splitC 125 (splitC 123 t).2.1).1).length * cst (splitC 125 (splitC 123 t).2.1).2.1 := by
  have := splitC_lt h
  have := splitC_le 125 (splitC 123 t).2.1
  unfold cst
  rw [cstF, if_pos h, cstF_eq t.length ((splitC 125 (splitC 123 t).2.1).2.1.length + 1) _ (by omega) (Nat.lt_succ_self _)]
theorem cst_pre {p : List UInt8} (h : ∀ x ∈ p, x ≠ 123) (r : List UInt8) : cst (p ++ r) = cst r := by
  have hs := split_pre h r
  rcases hm : (splitC 123 r).2.2 with _ | _
  · rw [cst_none hm, cst_none (by rw [hs]; exact hm)]
  · rw [cst_cut hm, cst_cut (t := p ++ r) (by rw [hs]; exact hm), hs]
def mes : List (List UInt8) → Nat
  | [] => 0
  | x :: r => cst x + mes r
theorem mes_append (a b : List (List UInt8)) : mes (a ++ b) = mes a + mes b := by
  induction a with
  | nil => simp [mes]
  | cons x r ih => rw [List.cons_append, mes, mes, ih]; omega
theorem mes_map {p : List UInt8} {r : List UInt8} (ws : List (List UInt8)) (h : ∀ a ∈ ws, ∀ x ∈ p ++ a, x ≠ 123) : mes (ws.map (fun a => p ++ a ++ r)) = ws.length * cst r := by
  induction ws with
  | nil => simp [mes]
  | cons a ws ih =>
    rw [List.map_cons, mes, cst_pre (h a List.mem_cons_self), ih (fun b hb => h b (List.mem_cons_of_mem _ hb)), List.length_cons, Nat.add_mul]
    omega
/-- How many bars a line has. -/
def bars (t : List UInt8) : Nat := (t.filter (fun c => c == 124)).length
theorem bars_app (a b : List UInt8) : bars (a ++ b) = bars a + bars b := by unfold bars; rw [List.filter_append, List.length_append]
theorem bars_le (a : List UInt8) : bars a ≤ a.length := List.length_filter_le _ _
theorem cut_bars (l : List UInt8) : (cutL 124 l).length = bars l + 1 ∧ ∀ a ∈ cutL 124 l, bars a = 0 := by
  have key : ∀ (n : Nat) (l : List UInt8), l.length ≤ n → (cutL 124 l).length = bars l + 1 ∧ ∀ a ∈ cutL 124 l, bars a = 0 := by
    intro n
    induction n with
    | zero =>
      intro l hl
      have : l = [] := List.length_eq_zero_iff.1 (by omega)
      subst this
      rw [cut_none (by simp)]
      exact ⟨rfl, fun a ha => by rw [List.mem_singleton] at ha; subst ha; rfl⟩
    | succ n ih =>
      intro l hl
      have nob : ∀ (l : List UInt8), bars (splitC 124 l).1 = 0 := fun l => by
        induction l with
        | nil => rfl
        | cons c r ih =>
          unfold splitC
          by_cases hc : c = 124
          · rw [if_pos hc]; rfl
          · rw [if_neg hc]
            show ((c :: (splitC 124 r).1).filter (fun c => c == 124)).length = 0
            rw [List.filter_cons, if_neg (by simpa using hc)]
            exact ih
      rw [cutL_splitX]
      rcases hs : (splitC 124 l).2.2 with _ | _
      · have e := splitC_allX hs
        have h0 := nob l
        rw [if_neg (by simp)]
        refine ⟨by rw [e] at h0; rw [h0]; rfl, fun a ha => ?_⟩
        rw [List.mem_singleton] at ha
        rw [ha]; exact h0
      · rw [if_pos rfl]
        have hl2 := splitC_lt hs
        obtain ⟨g1, g2⟩ := ih (splitC 124 l).2.1 (by omega)
        have hj := splitC_joinX hs
        have hb : bars l = bars (splitC 124 l).2.1 + 1 := by
          conv => lhs; rw [hj]
          rw [bars_app, nob l]
          show 0 + ((124 :: (splitC 124 l).2.1).filter (fun c => c == 124)).length = _
          rw [List.filter_cons, if_pos (by decide), List.length_cons]
          unfold bars
          omega
        refine ⟨by rw [List.length_cons, g1, hb], fun a ha => ?_⟩
        rcases List.mem_cons.1 ha with rfl | ha
        · exact nob l
        · exact g2 a ha
  exact key _ l (Nat.le_refl _)
/-- How high the pile may be. -/
def stk (B : Nat) : List (List UInt8) → Prop
  | [] => True
  | x :: r => r.length + 1 + bars x ≤ B ∧ stk B r
theorem stk_app {B b : Nat} {f : List UInt8 → List UInt8} {r : List (List UInt8)} (hr : stk B r) : ∀ (ws : List (List UInt8)), (∀ a ∈ ws, bars (f a) ≤ b) → b + ws.length + r.length ≤ B → stk B (ws.map f ++ r)
  | [], _, _ => hr
  | a :: ws, h, hb => by
      rw [List.map_cons, List.cons_append]
      refine ⟨?_, stk_app hr ws (fun x hx => h x (List.mem_cons_of_mem _ hx)) (by rw [List.length_cons] at hb; omega)⟩
      have := h a List.mem_cons_self
      rw [List.length_cons] at hb
      simp only [List.length_append, List.length_map]
      omega
/-- A paired line that opens, taken apart. -/
structure Brc (x a inn r2 : List UInt8) : Prop where
  eq : x = a ++ 123 :: (inn ++ 125 :: r2)
  ha : ∀ c ∈ a, c ≠ 123 ∧ c ≠ 125
  hi : ∀ c ∈ inn, c ≠ 123 ∧ c ≠ 125
  pr : pairB false r2 = true
  ex : expL x = (cutL 124 inn).flatMap (fun b => expL (a ++ b ++ r2))
  cs : cst x = 1 + mes ((cutL 124 inn).map (fun b => a ++ b ++ r2))
  pb : ∀ b ∈ cutL 124 inn, pairB false (a ++ b ++ r2) = true ∧ (a ++ b ++ r2).length ≤ x.length ∧ bars (a ++ b ++ r2) + (cutL 124 inn).length ≤ bars x + 1
theorem brc_of {x : List UInt8} (hp : pairB false x = true) (hm : (splitC 123 x).2.2 = true) : Brc x (splitC 123 x).1 (splitC 125 (splitC 123 x).2.1).1 (splitC 125 (splitC 123 x).2.1).2.1 := by
  obtain ⟨hp1, hp2⟩ := pair_none x hp hm
  obtain ⟨hq1, hq2, hq3⟩ := pair_open _ hp2
  have e1 := splitC_joinX hm
  have e2 := splitC_joinX hq1
  have hsub : ∀ b ∈ cutL 124 (splitC 125 (splitC 123 x).2.1).1, ∀ c ∈ (splitC 123 x).1 ++ b, c ≠ 123 ∧ c ≠ 125 := fun b hb c hc => by
    rcases List.mem_append.1 hc with hc | hc
    · exact hp1 c hc
    · exact hq2 c (cut_sub 124 _ _ (Nat.le_refl _) b hb c hc)
  have eq : x = (splitC 123 x).1 ++ 123 :: ((splitC 125 (splitC 123 x).2.1).1 ++ 125 :: (splitC 125 (splitC 123 x).2.1).2.1) := by rw [← e2]; exact e1
  refine ⟨eq, hp1, hq2, hq3, ?_, ?_, ?_⟩
  · rw [expL_cut hm]
    rw [List.flatMap_def, List.flatMap_def]
    congr 1
    apply List.map_congr_left
    intro b hb
    rw [exp_pre (fun c hc => (hsub b hb c hc).1)]
  · rw [cst_cut hm, mes_map _ (fun b hb c hc => (hsub b hb c hc).1)]
  · intro b hb
    refine ⟨by rw [pairB_app _ _ _ (hsub b hb)]; exact hq3, ?_, ?_⟩
    · have h1 := congrArg List.length eq
      have h2 := cut_len 124 _ b hb
      simp only [List.length_append, List.length_cons] at h1 ⊢
      omega
    · obtain ⟨g1, g2⟩ := cut_bars (splitC 125 (splitC 123 x).2.1).1
      have h1 := congrArg bars eq
      have h3 : ∀ (c : UInt8) (l : List UInt8), bars l ≤ bars (c :: l) := fun c l => by
        rw [show c :: l = [c] ++ l from rfl, bars_app]; omega
      rw [bars_app] at h1
      have h4 := h3 123 ((splitC 125 (splitC 123 x).2.1).1 ++ 125 :: (splitC 125 (splitC 123 x).2.1).2.1)
      rw [bars_app] at h4
      have h5 := h3 125 (splitC 125 (splitC 123 x).2.1).2.1
      rw [bars_app, bars_app, g2 b hb, g1]
      omega
/-! ### the end -/
def lsE (ls : List (List UInt8)) : List (List UInt8) := if ls.getLast? = some [] then ls.dropLast else ls
theorem spr_end {ls : List (List UInt8)} (hne : ls ≠ []) : (ls.getLast? = some [] → ls.flatMap expL = (lsE ls).flatMap expL ++ [[]]) ∧ (ls.getLast? ≠ some [] → lsE ls = ls) := by
  unfold lsE
  refine ⟨fun h => ?_, fun h => by rw [if_neg h]⟩
  rw [if_pos h]
  have hd : ls = ls.dropLast ++ [[]] := by
    rw [List.getLast?_eq_some_getLast hne] at h
    have := List.dropLast_concat_getLast hne
    rw [Option.some.inj h] at this
    exact this.symm
  conv => lhs; rw [hd]
  rw [List.flatMap_append]
  simp [expL_none (t := []) rfl]
theorem join_fl (ys : List (List UInt8)) (h : ys ≠ []) : Lib.join ys [10] ++ [10] = flE ys := by
  induction ys with
  | nil => exact absurd rfl h
  | cons y r ih =>
    cases r with
    | nil => rw [Lib.join_one, flE_one]
    | cons z r =>
      have e : Lib.join (y :: z :: r) [10] = y ++ 10 :: Lib.join (z :: r) [10] := by
        rw [Lib.join_cons, Lib.join_cons]; simp [Lib.joinTail]
      rw [e, show y :: z :: r = [y] ++ (z :: r) from rfl, flE_append, flE_one, ← ih (by simp)]
      simp
theorem join_fl0 (ys : List (List UInt8)) : Lib.join (ys ++ [[]]) [10] = flE ys := by
  have h := join_fl (ys ++ [[]]) (by simp)
  rw [flE_append, flE_one] at h
  exact List.append_cancel_right h
/-- What the reference answers, by its text of all lines. -/
def refE (ls : List (List UInt8)) (o : List UInt8) : List UInt8 × Int := if ls.getLast? = some [] then (if 2000 < o.length then ([], 4) else (o, 0)) else (if 2001 < o.length then ([], 4) else (o.dropLast, 0))
theorem refE_is {t : List UInt8} (hp : (cutL 10 t).all (pairB false) = true) : sprO t = refE (cutL 10 t) (flE ((lsE (cutL 10 t)).flatMap expL)) := by
  unfold sprO refE
  rw [if_pos hp]
  have hne := cut_ne 10 t
  generalize cutL 10 t = ls at hne
  obtain ⟨h1, h2⟩ := spr_end hne
  rw [flE_len]
  by_cases h : ls.getLast? = some []
  · rw [if_pos h, h1 h, sumL_append, join_fl0]
    by_cases hb : 2000 < sumL ((lsE ls).flatMap expL)
    · rw [if_pos hb, if_pos (by show 2001 < _ + 1; omega)]
    · rw [if_neg hb, if_neg (by show ¬ 2001 < _ + 1; omega)]
  · rw [if_neg h, h2 h]
    have hyne : ls.flatMap expL ≠ [] := by
      cases ls with
      | nil => exact absurd rfl hne
      | cons x r =>
        rw [List.flatMap_cons]
        intro e0
        exact expL_ne _ x (Nat.le_refl _) (List.append_eq_nil_iff.1 e0).1
    have hj := join_fl _ hyne
    rw [← hj]
    simp
end Go.Proofs.YtjhofmmmlemfcaaDoor
