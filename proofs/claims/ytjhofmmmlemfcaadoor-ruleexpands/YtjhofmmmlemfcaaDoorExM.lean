/- What Names comes to (package rule), plain: 'nmP' (line by line, as the program has them), 'nmF' (as the reference has them). -/
import Derived.Test.YtjhofmmmlemfcaaDoorExOut
import Derived.Test.YtjhofmmmlemfcaaDoorCutM
import Derived.Lib.Bytes2
namespace Go.Proofs.YtjhofmmmlemfcaaDoor
open Go.RowKit
set_option linter.unusedVariables false
set_option maxRecDepth 10000

def isLet (c : UInt8) : Bool := decide (97 ≤ c.toNat) && decide (c.toNat ≤ 122)
def sepL : List UInt8 := [32, 61, 32]
def lets (l : List UInt8) : List UInt8 := l.takeWhile isLet
/-- What a line says behind its word, its end left out: a name and a text. -/
def letO (y : List UInt8) : Option (List UInt8 × List UInt8) :=
  if 1 ≤ (lets y).length ∧ (lets y).length ≤ 8 ∧ (lets y).length + 3 < y.length ∧ (y.drop (lets y).length).take 3 = sepL then some (lets y, y.drop ((lets y).length + 3)) else none
/-- What a whole line says. -/
def sayO (x : List UInt8) : Option (List UInt8 × List UInt8) := if x.getLast? = some 10 then letO (x.dropLast.drop 4) else none
def nameB (a : List UInt8) : Prop := a ≠ [] ∧ a.length ≤ 8 ∧ ∀ c ∈ a, isLet c = true
theorem lets_app {a r : List UInt8} (h : ∀ c ∈ a, isLet c = true) (hr : ∀ c t, r = c :: t → isLet c = false) : lets (a ++ r) = a := by
  unfold lets
  rw [List.takeWhile_append_of_pos h]
  cases r with
  | nil => simp
  | cons c t => rw [List.takeWhile_cons, hr c t rfl]; simp
theorem letO_of {a b : List UInt8} (ha : nameB a) (hb : b ≠ []) : letO (a ++ sepL ++ b) = some (a, b) := by
  obtain ⟨h1, h2, h3⟩ := ha
  have hl : lets (a ++ sepL ++ b) = a := by
    rw [List.append_assoc]
    refine lets_app h3 (fun c t e => ?_)
    cases e; rfl
  have hp : 0 < a.length := List.length_pos_iff.2 h1
  have hb' : 0 < b.length := List.length_pos_iff.2 hb
  unfold letO
  rw [hl, if_pos ⟨hp, h2, by simp [sepL]; omega, by simp [sepL]⟩]
  simp [sepL, List.drop_append]
theorem takeWhile_all {p : UInt8 → Bool} : ∀ {l : List UInt8}, ∀ c ∈ l.takeWhile p, p c = true
  | [], c, h => by simp at h
  | x :: l, c, h => by
      rw [List.takeWhile_cons] at h
      split at h
      · rename_i hx
        rcases List.mem_cons.1 h with rfl | h
        · exact hx
        · exact takeWhile_all c h
      · simp at h
theorem takeWhile_app {p : UInt8 → Bool} : ∀ (l : List UInt8), l.takeWhile p ++ l.drop (l.takeWhile p).length = l
  | [] => rfl
  | x :: l => by
      rw [List.takeWhile_cons]
      split
      · simp [takeWhile_app l]
      · simp
theorem letO_some {y a b : List UInt8} (h : letO y = some (a, b)) : y = a ++ sepL ++ b ∧ nameB a ∧ b ≠ [] := by
  unfold letO at h
  split at h
  · rename_i hc
    obtain ⟨h1, h2, h3, h4⟩ := hc
    have e := Option.some.inj h
    have e1 : lets y = a := congrArg Prod.fst e
    have e2 : y.drop ((lets y).length + 3) = b := congrArg Prod.snd e
    rw [e1] at h1 h2 h3 h4 e2
    have hy : a ++ y.drop a.length = y := by rw [← e1]; exact takeWhile_app y
    have hd : y.drop a.length = sepL ++ b := by
      rw [← List.take_append_drop 3 (y.drop a.length), h4, List.drop_drop, e2]
    refine ⟨?_, ⟨List.length_pos_iff.1 h1, h2, fun c hc => by rw [← e1] at hc; exact takeWhile_all c hc⟩, ?_⟩
    · rw [List.append_assoc, ← hd]; exact hy.symm
    · intro e0
      have := congrArg List.length e2
      rw [List.length_drop, e0] at this
      simp at this
      omega
  · cases h
theorem sayO_end (a : List UInt8) : sayO (a ++ [10]) = letO (a.drop 4) := by
  unfold sayO
  rw [List.getLast?_append]
  simp
theorem sayO_some {x a b : List UInt8} (hp : Lib.hasPrefix x letP = true) (h : sayO x = some (a, b)) : x.drop 4 = a ++ sepL ++ (b ++ [10]) ∧ nameB a ∧ b ≠ [] := by
  unfold sayO at h
  split at h
  · rename_i hl
    obtain ⟨h1, h2, h3⟩ := letO_some h
    refine ⟨?_, h2, h3⟩
    have hx : x ≠ [] := fun e => by rw [e] at hl; cases hl
    have hd : x = x.dropLast ++ [10] := by
      rw [List.getLast?_eq_some_getLast hx] at hl
      have := List.dropLast_concat_getLast hx
      rw [Option.some.inj hl] at this
      exact this.symm
    have hl4 : 4 ≤ x.dropLast.length := by
      have : (x.dropLast.drop 4) ≠ [] := by
        rw [h1]; intro e; simp [sepL] at e
      have := List.length_pos_iff.2 this
      rw [List.length_drop] at this
      omega
    rw [hd, List.drop_append_of_le_length hl4, h1]
    simp
  · cases h
theorem sayO_of {x a b : List UInt8} (hp : Lib.hasPrefix x letP = true) (hd : x.drop 4 = a ++ sepL ++ (b ++ [10])) (ha : nameB a) (hb : b ≠ []) : sayO x = some (a, b) := by
  have hx : x = x.take 4 ++ (a ++ sepL ++ b) ++ [10] := by
    conv => lhs; rw [← List.take_append_drop 4 x, hd]
    simp
  have hl : x.length ≥ 4 := by
    have := Lib.hasPrefix_le hp
    exact this
  rw [hx, sayO_end, List.drop_append_of_le_length (by rw [List.length_take]; omega)]
  rw [List.drop_of_length_le (by rw [List.length_take]; omega), List.nil_append]
  exact letO_of ha hb
/-- Where the sign stands in what is said. -/
theorem sep_at {a b : List UInt8} (ha : ∀ c ∈ a, isLet c = true) : Lib.index (a ++ sepL ++ b) sepL = a.length := by
  refine Lib.index_first (by simp) ?_ ?_
  · unfold Lib.occAt
    rw [List.append_assoc, List.drop_left]
    simp [List.isPrefixOf_iff_prefix]
  · intro j hj
    unfold Lib.occAt
    rw [List.append_assoc, List.drop_append_of_le_length (by omega), List.drop_eq_getElem_cons hj]
    have hc := ha _ (List.getElem_mem hj)
    generalize a[j] = c at hc
    have hn : (32 == c) = false := by
      rw [beq_eq_false_iff_ne]
      rintro rfl
      revert hc; decide
    show List.isPrefixOf (32 :: _) (c :: _) = false
    rw [List.isPrefixOf, hn]; rfl
theorem sep_hit {l : List UInt8} (h : 0 ≤ Lib.index l sepL) : l = l.take (Lib.index l sepL).toNat ++ sepL ++ l.drop ((Lib.index l sepL).toNat + 3) := by
  rcases Lib.index_spec l sepL with ⟨h1, _⟩ | ⟨i, h1, h2, h3, _⟩
  · omega
  · rw [h1, Int.toNat_natCast]
    unfold Lib.occAt at h3
    obtain ⟨t, ht⟩ := List.isPrefixOf_iff_prefix.1 h3
    have e : l.drop (i + 3) = t := by
      rw [← List.drop_drop, ← ht]; rfl
    rw [e, List.append_assoc, ht, List.take_append_drop]
def nmP : List (List UInt8) → List (List UInt8) → List (List UInt8) → List (List UInt8) × List (List UInt8) × Int
  | ns, ts, [] => (ns, ts, 0)
  | ns, ts, x :: r => if Lib.hasPrefix x letP = true then (match sayO x with | none => ([], [], 2) | some p => if p.1 ∈ ns then ([], [], 7) else nmP (ns ++ [p.1]) (ts ++ [p.2]) r) else nmP ns ts r
def nmF : List (List UInt8) → List (List UInt8) → List (List UInt8) → List (List UInt8) × List (List UInt8) × Int
  | ns, ts, [] => (ns, ts, 0)
  | ns, ts, x :: r => if Lib.hasPrefix x letP = true then (match (if r = [] then none else letO (x.drop 4)) with | none => ([], [], 2) | some p => if p.1 ∈ ns then ([], [], 7) else nmF (ns ++ [p.1]) (ts ++ [p.2]) r) else nmF ns ts r
theorem pre_end (a : List UInt8) : Lib.hasPrefix (a ++ [10]) letP = Lib.hasPrefix a letP := by
  unfold Lib.hasPrefix letP
  match a with
  | [] => rfl
  | [x] => simp [List.isPrefixOf]
  | [x, y] => simp [List.isPrefixOf]
  | [x, y, z] => simp [List.isPrefixOf]
  | x :: y :: z :: u :: t => simp [List.isPrefixOf]
theorem cut_ne (c : UInt8) (l : List UInt8) : cutL c l ≠ [] := by rw [cutL_splitX]; exact List.cons_ne_nil _ _
theorem take_line {s : List UInt8} {k : Nat} (h1 : k < s.length) (h3 : splitC 10 s = (s.take k, s.drop (k + 1), true)) : s.take (k + 1) = s.take k ++ [10] := by
  have hj := splitC_joinX (c := 10) (l := s) (by rw [h3])
  rw [h3] at hj
  simp only at hj
  conv => lhs; rw [hj]
  rw [List.take_append, List.length_take, Nat.min_eq_left (by omega)]
  rw [List.take_of_length_le (by rw [List.length_take]; omega)]
  simp
theorem last_no {s : List UInt8} (h1 : Lib.indexByte s 10 < 0) : ¬ s.getLast? = some 10 := by
  intro h
  have hm : (10 : UInt8) ∈ s := List.mem_of_getLast? h
  rcases splitC_index 10 s with ⟨_, h2⟩ | ⟨k, h1', h2, h3⟩
  · have : ∀ (l : List UInt8), (10 : UInt8) ∈ l → (splitC 10 l).2.2 = true := fun l => by
      induction l with
      | nil => intro h; simp at h
      | cons x r ih =>
        intro h
        unfold splitC
        by_cases hx : x = 10
        · rw [if_pos hx]
        · rw [if_neg hx]
          rcases List.mem_cons.1 h with rfl | h
          · exact absurd rfl hx
          · exact ih h
    have := this s hm
    rw [h2] at this
    cases this
  · omega
theorem nm_is (n : Nat) : ∀ (s : List UInt8) (ns ts : List (List UInt8)), s.length ≤ n → nmF ns ts (cutL 10 s) = nmP ns ts (lnsL s) := by
  induction n with
  | zero =>
    intro s ns ts h
    have : s = [] := List.length_eq_zero_iff.1 (by omega)
    subst this
    rw [cutL_splitX, lnsL_nil]
    rfl
  | succ n ih =>
    intro s ns ts h
    by_cases hs : s = []
    · subst hs
      exact ih [] ns ts (Nat.zero_le _)
    rw [cutL_splitX]
    rcases splitC_index 10 s with ⟨h1, h2⟩ | ⟨k, h1, h2, h3⟩
    · rw [h2, lnsL_last hs h1]
      show nmF ns ts [s] = _
      rw [nmF, nmP, if_pos rfl]
      have hn : sayO s = none := by unfold sayO; rw [if_neg (last_no h1)]
      rw [hn, nmF, nmP]
    · have et := take_line h1 h3
      rw [h3, lnsL_cut hs h2, et]
      simp only [if_true]
      rw [nmF, nmP, pre_end, if_neg (cut_ne 10 _), sayO_end]
      have ih' := fun ns ts => ih (s.drop (k + 1)) ns ts (by rw [List.length_drop]; omega)
      simp only [ih']
/-- The text without its lines, as the reference keeps it. -/
def restF : List (List UInt8) → List UInt8
  | [] => []
  | x :: r => (if Lib.hasPrefix x letP = true then [] else x ++ (if r = [] then [] else [10])) ++ restF r
theorem rest_is (n : Nat) : ∀ (s : List UInt8), s.length ≤ n → (nmF [] [] (cutL 10 s)).2.2 = 0 ∨ True → restF (cutL 10 s) = outL (lnsL s) := by
  induction n with
  | zero =>
    intro s h _
    have : s = [] := List.length_eq_zero_iff.1 (by omega)
    subst this
    rw [cutL_splitX, lnsL_nil]
    rfl
  | succ n ih =>
    intro s h _
    by_cases hs : s = []
    · subst hs
      exact ih [] (Nat.zero_le _) (.inr trivial)
    rw [cutL_splitX]
    have hout : ∀ (x : List UInt8) (r : List (List UInt8)), outL (x :: r) = (if Lib.hasPrefix x letP = true then [] else x) ++ outL r := fun x r => by
      unfold outL noLet
      rw [List.filter_cons]
      rcases Lib.hasPrefix x letP with _ | _ <;> simp
    rcases splitC_index 10 s with ⟨h1, h2⟩ | ⟨k, h1, h2, h3⟩
    · rw [h2, lnsL_last hs h1, hout]
      show restF [s] = _
      rw [restF, if_pos rfl]
      simp [restF, outL]
    · have et := take_line h1 h3
      rw [h3, lnsL_cut hs h2, et]
      simp only [if_true]
      rw [restF, hout, pre_end, if_neg (cut_ne 10 _), ih (s.drop (k + 1)) (by rw [List.length_drop]; omega) (.inr trivial)]
/-- How far names and texts reach. -/
theorem nmP_len : ∀ (ls ns ts : List (List UInt8)) (M : Nat), (nmP ns ts ls).2.2 = 0 → ns.length = ts.length → (∀ x ∈ ls, x.length ≤ M) → (∀ t ∈ ts, t.length ≤ M) → (∀ t ∈ ns, t.length ≤ 8) →
    (nmP ns ts ls).1.length = (nmP ns ts ls).2.1.length ∧ (nmP ns ts ls).1.length ≤ ns.length + ls.length ∧ (∀ t ∈ (nmP ns ts ls).2.1, t.length ≤ M) ∧ ∀ t ∈ (nmP ns ts ls).1, t.length ≤ 8 := by
  intro ls
  induction ls with
  | nil => intro ns ts M _ h1 _ h3 h4; rw [nmP]; exact ⟨h1, by simp, h3, h4⟩
  | cons x r ih =>
    intro ns ts M h0 h1 h2 h3 h4
    rw [nmP] at h0 ⊢
    by_cases hp : Lib.hasPrefix x letP = true
    · rw [if_pos hp] at h0 ⊢
      rcases hs : sayO x with _ | ⟨a, b⟩
      · rw [hs] at h0; simp at h0
      · rw [hs] at h0
        simp only at h0 ⊢
        by_cases hm : a ∈ ns
        · rw [if_pos hm] at h0; simp at h0
        · rw [if_neg hm] at h0 ⊢
          obtain ⟨e1, e2, e3⟩ := sayO_some hp hs
          have hb : b.length ≤ M := by
            have := congrArg List.length e1
            have h2x := h2 x List.mem_cons_self
            simp [List.length_drop, sepL] at this
            omega
          obtain ⟨g1, g2, g3, g4⟩ := ih (ns ++ [a]) (ts ++ [b]) M h0 (by simp [h1]) (fun y hy => h2 y (List.mem_cons_of_mem _ hy)) (fun t ht => (List.mem_append.1 ht).elim (h3 t) (fun h => by rw [List.mem_singleton] at h; rw [h]; exact hb)) (fun t ht => (List.mem_append.1 ht).elim (h4 t) (fun h => by rw [List.mem_singleton] at h; rw [h]; exact e2.2.1))
          exact ⟨g1, by simp at g2 ⊢; omega, g3, g4⟩
    · rw [if_neg hp] at h0 ⊢
      obtain ⟨g1, g2, g3, g4⟩ := ih ns ts M h0 h1 (fun y hy => h2 y (List.mem_cons_of_mem _ hy)) h3 h4
      exact ⟨g1, by simp at g2 ⊢; omega, g3, g4⟩
end Go.Proofs.YtjhofmmmlemfcaaDoor
