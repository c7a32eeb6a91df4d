/- Plans, the plain facts: what rules ask for on each side of a key ('askS'), which of them fit a number as bits ('fitV'), stretches of one side ('CutOk'), which rule counts ('decF'). No condition is asked of a program. -/
import Derived.Test.YtdellfmkmbabhaaJudgeMath
namespace Go.Proofs.Ytdellfmkmbabhaa
set_option linter.unusedVariables false

/-- What a rule asks for on a side; nothing: all. -/
def askS (r : Rl) : Nat → List Sp
  | 0 => if r.way = 0 then [] else [(r.way, r.way)]
  | 1 => if r.kind = 0 then [] else [(r.kind, r.kind)]
  | 2 => [(r.sa, r.sa + pw (32 - r.sl) - 1)]
  | 3 => r.fr
  | 4 => [(r.da, r.da + pw (32 - r.dl) - 1)]
  | _ => r.tl
def inS (ss : List Sp) (x : Int) : Bool := decide (ss.length = 0) || inB ss x
/-- Which of some fit a number, as bits, from bit n on. -/
def fitF (x : Int) : Nat → List (List Sp) → Nat → Nat
  | _, [], acc => acc
  | n, ss :: L, acc => fitF x (n + 1) L (if inS ss x = true then acc ||| 2 ^ n else acc)
def fitV (L : List (List Sp)) (x : Int) : Nat := fitF x 0 L 0
theorem fitF_bit (x : Int) : ∀ (L : List (List Sp)) (n acc j : Nat), (fitF x n L acc).testBit j = (acc.testBit j || (decide (n ≤ j) && ((L[j - n]?).map fun ss => inS ss x).getD false))
  | [], n, acc, j => by simp [fitF]
  | ss :: L, n, acc, j => by
      rw [fitF, fitF_bit x L (n + 1)]
      have e : (if inS ss x = true then acc ||| 2 ^ n else acc).testBit j = (acc.testBit j || (decide (n = j) && inS ss x)) := by
        split
        · rename_i h; rw [Nat.testBit_or, Nat.testBit_two_pow, h, Bool.and_true]
        · rename_i h; simp [h]
      rw [e]
      rcases Nat.lt_trichotomy n j with h | h | h
      · have e1 : j - n = (j - (n + 1)) + 1 := by omega
        rw [e1, List.getElem?_cons_succ]
        have h1 : decide (n = j) = false := by simp; omega
        have h2 : decide (n + 1 ≤ j) = true := by simp; omega
        have h3 : decide (n ≤ j) = true := by simp; omega
        rw [h1, h2, h3]; simp
      · subst h
        have h2 : decide (n + 1 ≤ n) = false := by simp
        rw [h2]; simp
      · have h1 : decide (n = j) = false := by simp; omega
        have h2 : decide (n + 1 ≤ j) = false := by simp; omega
        have h3 : decide (n ≤ j) = false := by simp; omega
        rw [h1, h2, h3]; simp
theorem fitF_lt (x : Int) : ∀ (L : List (List Sp)) (n acc : Nat), acc < 2 ^ n → fitF x n L acc < 2 ^ (n + L.length)
  | [], n, acc, h => h
  | ss :: L, n, acc, h => by
      rw [fitF]
      have h2 : acc < 2 ^ (n + 1) := Nat.lt_of_lt_of_le h (Nat.pow_le_pow_right (by omega) (by omega))
      have := fitF_lt x L (n + 1) (if inS ss x = true then acc ||| 2 ^ n else acc) (by
        split
        · exact Nat.or_lt_two_pow h2 (Nat.pow_lt_pow_right (by omega) (by omega))
        · exact h2)
      rw [List.length_cons]
      rw [show n + (L.length + 1) = n + 1 + L.length by omega]
      exact this
theorem fitV_bit (L : List (List Sp)) (x : Int) (j : Nat) : (fitV L x).testBit j = ((L[j]?).map fun ss => inS ss x).getD false := by
  unfold fitV; rw [fitF_bit]; simp
theorem fitV_lt (L : List (List Sp)) (x : Int) : fitV L x < 2 ^ L.length := by
  have := fitF_lt x L 0 0 (by simp)
  simpa [fitV] using this
theorem fitF_snoc (x : Int) (ss : List Sp) : ∀ (L : List (List Sp)) (n acc : Nat), fitF x n (L ++ [ss]) acc = if inS ss x = true then fitF x n L acc ||| 2 ^ (n + L.length) else fitF x n L acc
  | [], n, acc => by simp [fitF]
  | a :: L, n, acc => by
      rw [List.cons_append, fitF, fitF_snoc x ss L, fitF, List.length_cons, show n + 1 + L.length = n + (L.length + 1) by omega]
theorem fitV_snoc (x : Int) (ss : List Sp) (L : List (List Sp)) : fitV (L ++ [ss]) x = if inS ss x = true then fitV L x ||| 2 ^ L.length else fitV L x := by
  unfold fitV; rw [fitF_snoc]; simp
theorem fitV_same {L : List (List Sp)} {x y : Int} (h : ∀ ss ∈ L, inS ss x = inS ss y) : fitV L x = fitV L y := by
  apply Nat.eq_of_testBit_eq
  intro j
  rw [fitV_bit, fitV_bit]
  rcases hj : L[j]? with _ | ss
  · rfl
  · simp only [Option.map_some, Option.getD_some]
    exact h ss (List.mem_of_getElem? hj)

/-- The numbers from which on a rule may fit or not. -/
def rawE (lo : Int) (L : List (List Sp)) : List Int := lo :: L.flatMap fun ss => ss.flatMap fun s => [s.1, s.2 + 1]
/-- A stretch: its ends, and which rules fit there. -/
abbrev St := Sp × Nat
/-- Stretches that begin at given numbers. -/
def strL (hi : Int) (f : Int → Nat) (es : List Int) : List St := (List.range es.length).map fun i => ((es.getD i 0, if i + 1 < es.length then es.getD (i + 1) 0 - 1 else hi), f (es.getD i 0))
theorem strL_len (hi : Int) (f : Int → Nat) (es : List Int) : (strL hi f es).length = es.length := by simp [strL]
theorem strL_at {hi : Int} {f : Int → Nat} {es : List Int} {i : Nat} (h : i < (strL hi f es).length) : (strL hi f es)[i] = ((es.getD i 0, if i + 1 < es.length then es.getD (i + 1) 0 - 1 else hi), f (es.getD i 0)) := by simp [strL]
theorem getD_app_l {es : List Int} {e : Int} {i : Nat} (h : i < es.length) : (es ++ [e]).getD i 0 = es.getD i 0 := by
  rw [List.getD_eq_getElem?_getD, List.getD_eq_getElem?_getD, List.getElem?_append_left h]
theorem getD_app_r {es : List Int} {e : Int} : (es ++ [e]).getD es.length 0 = e := by
  rw [List.getD_eq_getElem?_getD, List.getElem?_append_right (Nat.le_refl _)]; simp
theorem strL_one (hi : Int) (f : Int → Nat) (e : Int) : strL hi f [e] = [((e, hi), f e)] := rfl
/-- One more stretch: the last one ends ahead of it. -/
theorem strL_snoc {hi : Int} {f : Int → Nat} {es : List Int} {e : Int} (h : 0 < es.length) : strL hi f (es ++ [e]) = (strL hi f es).set (es.length - 1) ((es.getD (es.length - 1) 0, e - 1), f (es.getD (es.length - 1) 0)) ++ [((e, hi), f e)] := by
  apply List.ext_getElem
  · simp [strL_len]
  · intro i h1 h2
    rw [strL_at h1]
    rw [strL_len, List.length_append, List.length_singleton] at h1
    have hl : ((strL hi f es).set (es.length - 1) ((es.getD (es.length - 1) 0, e - 1), f (es.getD (es.length - 1) 0))).length = es.length := by simp [strL_len]
    rcases Nat.lt_or_ge i es.length with h3 | h3
    · rw [List.getElem_append_left (by rw [hl]; exact h3), List.getElem_set]
      rw [getD_app_l h3, List.length_append, List.length_singleton, if_pos (by omega)]
      split
      · rename_i h4
        subst h4
        rw [show es.length - 1 + 1 = es.length by omega, getD_app_r]
      · rw [strL_at, getD_app_l (by omega), if_pos (by omega)]
    · have : i = es.length := by omega
      subst this
      rw [List.getElem_append_right (by rw [hl]; exact Nat.le_refl _), List.length_append, List.length_singleton, if_neg (by omega), getD_app_r]
      simp
/-- What a side is cut into: stretches that rise and make the whole side; on each the same fit. -/
structure CutOk (lo hi : Int) (L : List (List Sp)) (C : List St) : Prop where
  full : ∀ x, lo ≤ x → x ≤ hi → ∃ i, ∃ h : i < C.length, C[i].1.1 ≤ x ∧ x ≤ C[i].1.2
  lower : ∀ i (h : i < C.length), lo ≤ C[i].1.1
  some' : ∀ i (h : i < C.length), C[i].1.1 ≤ C[i].1.2
  upper : ∀ i (h : i < C.length), C[i].1.2 ≤ hi
  rise : ∀ i j (h : i < C.length) (k : j < C.length), i < j → C[i].1.2 < C[j].1.1
  fit : ∀ i (h : i < C.length) x, C[i].1.1 ≤ x → x ≤ C[i].1.2 → fitV L x = C[i].2
theorem inS_same {lo : Int} {L : List (List Sp)} {e x : Int} (hx : e ≤ x) (hno : ∀ r ∈ rawE lo L, ¬ (e < r ∧ r ≤ x)) : ∀ ss ∈ L, inS ss x = inS ss e := by
  intro ss hs
  unfold inS
  congr 1
  unfold inB
  rw [Bool.eq_iff_iff, List.any_eq_true, List.any_eq_true]
  have raw : ∀ s ∈ ss, ¬ (e < s.1 ∧ s.1 ≤ x) ∧ ¬ (e < s.2 + 1 ∧ s.2 + 1 ≤ x) := fun s h => by
    have m1 : s.1 ∈ rawE lo L := List.mem_cons_of_mem _ (List.mem_flatMap.2 ⟨ss, hs, List.mem_flatMap.2 ⟨s, h, by simp⟩⟩)
    have m2 : s.2 + 1 ∈ rawE lo L := List.mem_cons_of_mem _ (List.mem_flatMap.2 ⟨ss, hs, List.mem_flatMap.2 ⟨s, h, by simp⟩⟩)
    exact ⟨hno _ m1, hno _ m2⟩
  constructor
  · rintro ⟨s, h, hi⟩
    have := raw s h
    rw [insB_iff] at hi
    exact ⟨s, h, insB_iff.2 (by omega)⟩
  · rintro ⟨s, h, hi⟩
    have := raw s h
    rw [insB_iff] at hi
    exact ⟨s, h, insB_iff.2 (by omega)⟩
theorem rise_lt {E : List Int} (hp : E.Pairwise (· < ·)) {i j : Nat} (hj : j < E.length) (h : i < j) : E.getD i 0 < E.getD j 0 := by
  rw [List.getD_eq_getElem?_getD, List.getD_eq_getElem?_getD, List.getElem?_eq_getElem hj, List.getElem?_eq_getElem (by omega)]
  exact List.pairwise_iff_getElem.1 hp i j (by omega) hj h
theorem getD_memI {E : List Int} {i : Nat} (h : i < E.length) : E.getD i 0 ∈ E := by
  rw [List.getD_eq_getElem?_getD, List.getElem?_eq_getElem h]; exact List.getElem_mem _
/-- The last of rising numbers that is not above one. -/
theorem last_le {E : List Int} {x : Int} (h0 : 0 < E.length) (hx : E.getD 0 0 ≤ x) : ∃ i, i < E.length ∧ E.getD i 0 ≤ x ∧ ∀ (_ : i + 1 < E.length), x < E.getD (i + 1) 0 := by
  have : ∀ k, k < E.length → (∃ i, i < E.length ∧ E.getD i 0 ≤ x ∧ ∀ (_ : i + 1 < E.length), x < E.getD (i + 1) 0) ∨ E.getD k 0 ≤ x := by
    intro k
    induction k with
    | zero => intro _; exact .inr hx
    | succ k ih =>
      intro hk
      rcases ih (by omega) with h | h
      · exact .inl h
      · by_cases h2 : E.getD (k + 1) 0 ≤ x
        · exact .inr h2
        · exact .inl ⟨k, by omega, h, fun _ => by omega⟩
  rcases this (E.length - 1) (by omega) with h | h
  · exact h
  · exact ⟨E.length - 1, by omega, h, fun h2 => by omega⟩
/-- Stretches at the numbers from which on a rule may fit or not. -/
theorem cut_ok {lo hi : Int} {L : List (List Sp)} {E : List Int} (hlh : lo ≤ hi) (hp : E.Pairwise (· < ·)) (hm : ∀ e, e ∈ E ↔ e ∈ rawE lo L ∧ e ≤ hi) (hge : ∀ e ∈ E, lo ≤ e) : CutOk lo hi L (strL hi (fitV L) E) := by
  have hlo : lo ∈ E := (hm lo).2 ⟨List.mem_cons_self, hlh⟩
  have h0 : 0 < E.length := List.length_pos_of_mem hlo
  have hfirst : E.getD 0 0 = lo := by
    have h1 := hge _ (getD_memI h0)
    obtain ⟨j, hj, hj2⟩ := List.getElem_of_mem hlo
    have e : E.getD j 0 = lo := by rw [List.getD_eq_getElem?_getD, List.getElem?_eq_getElem hj]; exact hj2
    rcases Nat.eq_zero_or_pos j with h | h
    · subst h; exact e
    · have := rise_lt hp hj h; omega
  have hle : ∀ e ∈ E, e ≤ hi := fun e he => ((hm e).1 he).2
  have len := strL_len hi (fitV L) E
  have top : ∀ i, i < E.length → (if i + 1 < E.length then E.getD (i + 1) 0 - 1 else hi) ≤ hi := fun i h => by
    split
    · rename_i h1
      have := hle _ (getD_memI h1); omega
    · exact Int.le_refl _
  have low : ∀ i, i < E.length → E.getD i 0 ≤ (if i + 1 < E.length then E.getD (i + 1) 0 - 1 else hi) := fun i h => by
    split
    · rename_i h1
      have := rise_lt hp h1 (Nat.lt_succ_self i); omega
    · exact hle _ (getD_memI h)
  refine ⟨?_, ?_, ?_, ?_, ?_, ?_⟩
  · intro x h1 h2
    obtain ⟨i, hi1, hi2, hi3⟩ := last_le (x := x) h0 (by omega)
    refine ⟨i, by rw [len]; exact hi1, ?_⟩
    rw [strL_at]
    refine ⟨hi2, ?_⟩
    simp only
    split
    · rename_i h4; have := hi3 h4; omega
    · exact h2
  · intro i h
    rw [strL_at]
    exact hge _ (getD_memI (by rw [len] at h; exact h))
  · intro i h
    rw [strL_at]
    exact low i (by rw [len] at h; exact h)
  · intro i h
    rw [strL_at]
    exact top i (by rw [len] at h; exact h)
  · intro i j h k hij
    rw [strL_at, strL_at]
    rw [len] at h k
    simp only
    rw [if_pos (by omega)]
    rcases Nat.lt_or_ge (i + 1) j with h1 | h1
    · have := rise_lt hp k h1; omega
    · have : j = i + 1 := by omega
      subst this; omega
  · intro i h x h1 h2
    rw [strL_at] at h1 h2 ⊢
    rw [len] at h
    simp only at h1 h2 ⊢
    refine fitV_same (inS_same (lo := lo) h1 (fun r hr hrx => ?_))
    have hr2 : r ≤ hi := by have := top i h; omega
    have hrE := (hm r).2 ⟨hr, hr2⟩
    obtain ⟨j, hj, hj2⟩ := List.getElem_of_mem hrE
    have e : E.getD j 0 = r := by rw [List.getD_eq_getElem?_getD, List.getElem?_eq_getElem hj]; exact hj2
    rcases Nat.lt_trichotomy i j with h3 | h3 | h3
    · have h4 : i + 1 < E.length := by omega
      rw [if_pos h4] at h2
      rcases Nat.lt_or_ge (i + 1) j with h5 | h5
      · have := rise_lt hp hj h5; omega
      · have : j = i + 1 := by omega
        subst this; omega
    · subst h3; omega
    · have := rise_lt hp h h3; omega

/-- Which rule counts, of those whose bits are set; what is told where none is. -/
def decF (v : Nat) : Nat → List Rl → Rl × Int → Rl × Int
  | _, [], acc => acc
  | n, r :: l, acc => if v.testBit n = true then (if r.quick = true then (r, (n : Int)) else decF v (n + 1) l (r, (n : Int))) else decF v (n + 1) l acc
theorem decF_trace {k : Ky} {way : Int} {v : Nat} : ∀ (l : List Rl) (i : Nat) (acc : Rl × Int), (∀ j (h : j < l.length), v.testBit (i + j) = fitsB l[j] k way) → decF v i l acc = match (traceL k way i l).getLast? with | none => acc | some n => ((l[(n - i).toNat]?).getD zeroR, n)
  | [], i, acc, h => by simp [decF, traceL]
  | r :: l, i, acc, h => by
      have h0 := h 0 (by simp)
      simp only [Nat.add_zero, List.getElem_cons_zero] at h0
      have hs : ∀ j (hj : j < l.length), v.testBit (i + 1 + j) = fitsB l[j] k way := fun j hj => by
        have := h (j + 1) (by simpa using hj)
        rw [show i + (j + 1) = i + 1 + j by omega] at this
        simpa using this
      have mv : ∀ n ∈ traceL k way (i + 1) l, (r :: l)[(n - i).toNat]? = l[(n - ((i + 1 : Nat) : Int)).toNat]? := fun n hn => by
        obtain ⟨j, hj, rfl⟩ := traceL_mem k way l (i + 1) n hn
        have e1 : (((i + 1 + j : Nat) : Int) - (i : Int)).toNat = j + 1 := by omega
        have e2 : (((i + 1 + j : Nat) : Int) - ((i + 1 : Nat) : Int)).toNat = j := by omega
        rw [e1, e2, List.getElem?_cons_succ]
      have ih := fun acc => decF_trace (k := k) (way := way) l (i + 1) acc hs
      rw [decF, h0]
      rcases hf : fitsB r k way with _ | _
      · rw [traceL_no hf, if_neg (by simp), ih]
        rcases hl : (traceL k way (i + 1) l).getLast? with _ | n
        · rfl
        · simp only; rw [mv n (List.mem_of_getLast? hl)]
      · rw [if_pos rfl]
        rcases hq : r.quick with _ | _
        · rw [traceL_yes hf hq, if_neg (by simp), ih]
          rcases ht : traceL k way (i + 1) l with _ | ⟨x, t⟩
          · simp
          · rw [List.getLast?_cons_cons, ← ht]
            rcases hl : (traceL k way (i + 1) l).getLast? with _ | n
            · rw [ht] at hl; simp at hl
            · simp only; rw [mv n (List.mem_of_getLast? hl)]
        · rw [traceL_quick hf hq, if_pos rfl]
          simp
end Go.Proofs.Ytdellfmkmbabhaa
