/- Rules: what is wrong with one ('ruE'), and with some ('rusE'); spans that are Normed ('tidyB'). Plain facts; no condition is asked of a program. -/
import Derived.Test.YtdellfmkmbabhaaSpnChk
import Derived.Test.YtdellfmkmbabhaaSpnSet
import Derived.Test.YtdellfmkmbabhaaNum
namespace Go.Proofs.Ytdellfmkmbabhaa
set_option linter.unusedVariables false

structure Rl where
  pass : Bool
  quick : Bool
  keep : Bool
  way : Int
  kind : Int
  sa : Int
  sl : Int
  da : Int
  dl : Int
  fr : List Sp
  tl : List Sp
/-- Spans each of which lies behind the one ahead of it, with a gap. -/
def tidyB : List Sp → Bool
  | [] => true
  | [_] => true
  | x :: y :: r => decide (x.2 + 1 < y.1) && tidyB (y :: r)
theorem tidyB_at : ∀ {l : List Sp}, tidyB l = true ↔ ∀ i (h : i + 1 < l.length), l[i].2 + 1 < l[i + 1].1
  | [] => ⟨fun _ i h => by simp at h, fun _ => rfl⟩
  | [a] => ⟨fun _ i h => by simp at h, fun _ => rfl⟩
  | x :: y :: r => by
      have ih := @tidyB_at (y :: r)
      constructor
      · intro h i hi
        simp only [tidyB, Bool.and_eq_true, decide_eq_true_eq] at h
        match i with
        | 0 => exact h.1
        | i + 1 => exact ih.1 h.2 i (by simpa using hi)
      · intro h
        simp only [tidyB, Bool.and_eq_true, decide_eq_true_eq]
        exact ⟨h 0 (by simp), ih.2 (fun i hi => h (i + 1) (by simpa using hi))⟩
theorem tidyB_pair : ∀ {l : List Sp}, OkS l → tidyB l = true → List.Pairwise (fun p q : Sp => p.2 + 1 < q.1) l
  | [], _, _ => .nil
  | [a], _, _ => List.pairwise_singleton _ _
  | x :: y :: r, hk, h => by
      simp only [tidyB, Bool.and_eq_true, decide_eq_true_eq] at h
      have ih := tidyB_pair (l := y :: r) (fun s hs => hk s (List.mem_cons_of_mem _ hs)) h.2
      rw [List.pairwise_cons] at ih ⊢
      refine ⟨fun q hq => ?_, List.pairwise_cons.2 ih⟩
      rcases List.mem_cons.1 hq with rfl | hq
      · exact h.1
      · have h1 := ih.1 q hq
        have h2 := hk y (List.mem_cons_of_mem _ List.mem_cons_self)
        have h3 := h.1
        omega
theorem pair_tidyB : ∀ {l : List Sp}, List.Pairwise (fun p q : Sp => p.2 + 1 < q.1) l → tidyB l = true
  | [], _ => rfl
  | [a], _ => rfl
  | x :: y :: r, h => by
      rw [List.pairwise_cons] at h
      simp only [tidyB, Bool.and_eq_true, decide_eq_true_eq]
      exact ⟨h.1 y List.mem_cons_self, pair_tidyB h.2⟩
theorem tidy_nrm {l : List Sp} (hk : OkS l) : tidyB l = true ↔ Nrm l := ⟨fun h => ⟨hk, tidyB_pair hk h⟩, fun h => pair_tidyB h.2⟩
def twoE (a b : Int) : Int := if a = 0 then b else a
def fullE (r : Rl) : Int := if 10 < r.fr.length ∨ 10 < r.tl.length then 4 else 0
def portsB (k : Int) (l : List Sp) : Bool := decide (0 < l.length) && !(decide (k = 1) || decide (k = 2))
def badP (k : Int) (l : List Sp) : Bool := portsB k l || !tidyB l
def wayE (r : Rl) : Bool := decide (r.way < 0) || decide (2 < r.way) || decide (r.kind < 0) || decide (3 < r.kind)
/-- What is wrong with a rule. -/
def ruE (r : Rl) : Int :=
  if wayE r = true then 1 else
  if ¬ twoE (prefE r.sa r.sl) (prefE r.da r.dl) = 0 then twoE (prefE r.sa r.sl) (prefE r.da r.dl) else
  if ¬ fullE r = 0 then 4 else
  if ¬ twoE (spE r.fr) (spE r.tl) = 0 then twoE (spE r.fr) (spE r.tl) else
  if badP r.kind r.fr = true ∨ badP r.kind r.tl = true ∨ (r.keep = true ∧ r.pass = false) then 3 else 0
/-- What is wrong with rules. -/
def firstE : List Rl → Int
  | [] => 0
  | r :: l => if ruE r = 0 then firstE l else ruE r
def rusE (l : List Rl) : Int := if 20 < l.length then 4 else firstE l
theorem firstE_take {l : List Rl} : ∀ (k : Nat), (∀ i (h : i < l.length), i < k → ruE l[i] = 0) → ∀ (hk : k < l.length), ¬ ruE l[k] = 0 → firstE l = ruE l[k] := by
  induction l with
  | nil => intro k _ hk; simp at hk
  | cons a r ih =>
    intro k h hk hne
    match k with
    | 0 =>
      have hne' : ¬ ruE a = 0 := hne
      show (if ruE a = 0 then firstE r else ruE a) = ruE a
      rw [if_neg hne']
    | k + 1 =>
      have h0 : ruE a = 0 := h 0 (by simp) (by omega)
      show (if ruE a = 0 then firstE r else ruE a) = _
      rw [if_pos h0]
      exact ih k (fun i hi hik => h (i + 1) (by simpa using hi) (by omega)) (by simpa using hk) hne
theorem firstE_none {l : List Rl} (h : ∀ i (hi : i < l.length), ruE l[i] = 0) : firstE l = 0 := by
  induction l with
  | nil => rfl
  | cons a r ih =>
    show (if ruE a = 0 then firstE r else ruE a) = _
    have h0 : ruE a = 0 := h 0 (by simp)
    rw [if_pos h0]
    exact ih (fun i hi => h (i + 1) (by simpa using hi))
theorem firstE_zero {l : List Rl} : firstE l = 0 ↔ ∀ r ∈ l, ruE r = 0 := by
  induction l with
  | nil => simp [firstE]
  | cons a l ih =>
    rw [firstE]
    split
    · rename_i h; simp [ih, h]
    · rename_i h; simp [h]
theorem rusE_zero {l : List Rl} : rusE l = 0 ↔ l.length ≤ 20 ∧ ∀ r ∈ l, ruE r = 0 := by
  unfold rusE
  split
  · constructor
    · intro h; cases h
    · intro h; omega
  · rw [firstE_zero]
    constructor
    · intro h; exact ⟨by omega, h⟩
    · intro h; exact h.2
end Go.Proofs.Ytdellfmkmbabhaa
