/- Plain facts on spans as text: digits come back, words come back; the program's Parse ('parseO') is the reference's reading ('readR'). -/
import Derived.Test.YthnkjfgiclolaaaGreatDoorMgV
import Derived.Test.YthnkjfgiclolaaaGreatDoorMgF
import Derived.Lib.AtoiAllCases
import Derived.Lib.IndexBytes
import Derived.Lib.SplitLaws
import Derived.Test.YthnkjfgiclolaaaGreatDoorMgI
namespace Go.Proofs.YthnkjfgiclolaaaGreatDoor
open Go.RowKit
set_option linter.unusedVariables false

/-! ### digits -/
theorem numL_snoc (c : UInt8) : ∀ (l : List UInt8) (acc : Int), numL acc (l ++ [c]) = if numL acc l < 0 ∧ ∃ x ∈ l, ¬ (48 ≤ (x.toNat : Int) ∧ (x.toNat : Int) ≤ 57) then -1 else if 48 ≤ (c.toNat : Int) ∧ (c.toNat : Int) ≤ 57 then numL acc l * 10 + (c.toNat : Int) - 48 else -1
  | [], acc => by simp [numL]
  | x :: r, acc => by
      rw [List.cons_append]
      show (if 48 ≤ (x.toNat : Int) ∧ (x.toNat : Int) ≤ 57 then numL (acc * 10 + (x.toNat : Int) - 48) (r ++ [c]) else -1) = _
      by_cases hx : 48 ≤ (x.toNat : Int) ∧ (x.toNat : Int) ≤ 57
      · rw [if_pos hx, numL_snoc c r]
        have e : numL acc (x :: r) = numL (acc * 10 + (x.toNat : Int) - 48) r := by show (if _ then _ else _) = _; rw [if_pos hx]
        rw [e]
        congr 1
        apply propext
        constructor
        · rintro ⟨h1, y, hy, h2⟩; exact ⟨h1, y, List.mem_cons_of_mem _ hy, h2⟩
        · rintro ⟨h1, y, hy, h2⟩
          refine ⟨h1, ?_⟩
          rcases List.mem_cons.1 hy with rfl | hy
          · exact absurd hx h2
          · exact ⟨y, hy, h2⟩
      · rw [if_neg hx]
        have e : numL acc (x :: r) = -1 := by show (if _ then _ else _) = _; rw [if_neg hx]
        rw [e, if_pos ⟨by omega, x, by simp, hx⟩]
def digB (c : UInt8) : Prop := 48 ≤ (c.toNat : Int) ∧ (c.toNat : Int) ≤ 57
theorem numL_ok (c : UInt8) (l : List UInt8) (acc : Int) (h : ∀ x ∈ l, digB x) (hc : digB c) : numL acc (l ++ [c]) = numL acc l * 10 + (c.toNat : Int) - 48 := by
  rw [numL_snoc, if_neg (by rintro ⟨_, x, hx, h2⟩; exact h2 (h x hx)), if_pos (show 48 ≤ (c.toNat : Int) ∧ (c.toNat : Int) ≤ 57 from hc)]
theorem numL_neg : ∀ (l : List UInt8) (acc : Int) (x : UInt8), x ∈ l → ¬ digB x → numL acc l = -1
  | [], acc, x, h, _ => by cases h
  | y :: r, acc, x, h, hx => by
      show (if 48 ≤ (y.toNat : Int) ∧ (y.toNat : Int) ≤ 57 then _ else -1) = _
      by_cases hy : 48 ≤ (y.toNat : Int) ∧ (y.toNat : Int) ≤ 57
      · rw [if_pos hy]
        rcases List.mem_cons.1 h with rfl | h
        · exact absurd hy hx
        · exact numL_neg r _ x h hx
      · rw [if_neg hy]
theorem numL_all {l : List UInt8} {acc : Int} (h : 0 ≤ numL acc l) : ∀ x ∈ l, digB x := fun x hx => Classical.byContradiction fun hn => by
  rw [numL_neg l acc x hx hn] at h; omega
theorem dig_toNat {d : Nat} (h : d < 10) : ((48 + UInt8.ofNat d : UInt8).toNat : Int) = 48 + d := by
  rw [UInt8.toNat_add, UInt8.toNat_ofNat']
  have : (48 : UInt8).toNat = 48 := rfl
  omega
theorem digL_digs : ∀ (n : Nat), ∀ x ∈ digL n, digB x := by
  intro n
  induction n using Nat.strongRecOn with
  | _ n ih =>
    intro x hx
    by_cases h : n < 10
    · rw [digL_lt h, List.mem_singleton] at hx
      subst hx
      unfold digB
      rw [dig_toNat h]; omega
    · rw [digL_ge h] at hx
      rcases List.mem_append.1 hx with hx | hx
      · exact ih (n / 10) (by omega) x hx
      · rw [List.mem_singleton] at hx
        subst hx
        unfold digB
        rw [dig_toNat (by omega)]; omega
theorem numL_dig (n : Nat) : numL 0 (digL n) = n := by
  induction n using Nat.strongRecOn with
  | _ n ih =>
    by_cases h : n < 10
    · rw [digL_lt h]
      have := numL_ok (48 + UInt8.ofNat n) [] 0 (fun x hx => by cases hx) (by unfold digB; rw [dig_toNat h]; omega)
      rw [List.nil_append] at this
      rw [this, dig_toNat h]; show (0 : Int) * 10 + _ - 48 = _; omega
    · rw [digL_ge h, numL_ok _ _ _ (digL_digs _) (by unfold digB; rw [dig_toNat (by omega)]; omega), ih (n / 10) (by omega), dig_toNat (by omega)]
      omega
theorem digL_ne (n : Nat) : digL n ≠ [] := by
  by_cases h : n < 10
  · rw [digL_lt h]; simp
  · rw [digL_ge h]; simp
theorem headD_app {a b : List UInt8} (h : a ≠ []) : (a ++ b).headD 0 = a.headD 0 := by
  cases a with
  | nil => exact absurd rfl h
  | cons x r => rfl
theorem digL_head (n : Nat) (h1 : 1 ≤ n) : ¬ (((digL n).headD 0).toNat : Int) = 48 := by
  induction n using Nat.strongRecOn with
  | _ n ih =>
    by_cases h : n < 10
    · rw [digL_lt h]
      show ¬ (((48 + UInt8.ofNat n : UInt8)).toNat : Int) = 48
      rw [dig_toNat h]; omega
    · rw [digL_ge h, headD_app (digL_ne _)]
      exact ih (n / 10) (by omega) (by omega)
theorem digL_len5 {n : Nat} (h : n < 100000) : (digL n).length ≤ 5 := by
  have l1 : ∀ m, m < 10 → (digL m).length ≤ 1 := fun m hm => by rw [digL_lt hm]; simp
  have st : ∀ k m, (∀ j, j < m → (digL j).length ≤ k) → ∀ j, j < m * 10 → (digL j).length ≤ k + 1 := fun k m hk j hj => by
    by_cases h : j < 10
    · have := l1 j h; omega
    · rw [digL_ge h, List.length_append]
      have := hk (j / 10) (by omega)
      simp; omega
  have l2 := st 1 10 l1
  have l3 := st 2 100 l2
  have l4 := st 3 1000 l3
  exact st 4 10000 l4 n h
theorem whole_dig {n : Nat} (h : n ≤ 65535) : wholeL (digL n) 5 = n := by
  unfold wholeL
  have h5 := digL_len5 (n := n) (by omega)
  rw [if_neg, numL_dig]
  rintro (h1 | h1 | ⟨h1, h2⟩)
  · exact digL_ne n h1
  · omega
  · by_cases h0 : n = 0
    · subst h0; rw [digL_lt (by omega)] at h2; simp at h2
    · exact digL_head n (by omega) h1
theorem digit_of {c : UInt8} (h : digB c) : ∃ d : Nat, d < 10 ∧ (c.toNat : Int) = 48 + d ∧ 48 + UInt8.ofNat d = c := by
  obtain ⟨h0, h1⟩ := h
  refine ⟨c.toNat - 48, by omega, by omega, ?_⟩
  apply UInt8.toNat_inj.1
  have := dig_toNat (d := c.toNat - 48) (by omega)
  omega
theorem digits_back : ∀ (k : Nat) (p : List UInt8), p.length = k → p ≠ [] → (∀ x ∈ p, digB x) → ¬ (((p.headD 0).toNat : Int) = 48 ∧ 1 < p.length) → ∃ n : Nat, numL 0 p = n ∧ digL n = p := by
  intro k
  induction k with
  | zero => intro p hl hp; exact absurd (List.length_eq_zero_iff.1 hl) hp
  | succ k ih =>
    intro p hl hp hd hh
    rcases List.eq_nil_or_concat p with rfl | ⟨q, c, rfl⟩
    · exact absurd rfl hp
    rw [List.concat_eq_append] at hl hd hh ⊢
    obtain ⟨d, hd10, hcd, hce⟩ := digit_of (hd c (by simp))
    by_cases hq : q = []
    · subst hq
      refine ⟨d, ?_, ?_⟩
      · rw [numL_ok c [] 0 (fun x hx => by cases hx) (hd c (by simp)), hcd]; show (0 : Int) * 10 + _ - 48 = _; omega
      · rw [digL_lt hd10, hce]; rfl
    · have hql : q.length = k := by simp at hl; omega
      have hqp : 0 < q.length := List.length_pos_iff.2 hq
      have hhq : ¬ ((q.headD 0).toNat : Int) = 48 := fun h => hh ⟨by rw [headD_app hq]; exact h, by simp; omega⟩
      obtain ⟨n, h1, h2⟩ := ih q hql hq (fun x hx => hd x (by simp [hx])) (fun h => hhq h.1)
      have hn1 : 1 ≤ n := by
        rcases Nat.eq_zero_or_pos n with h0 | h0
        · subst h0
          rw [digL_lt (by omega)] at h2
          rw [← h2] at hhq
          exact absurd rfl hhq
        · exact h0
      refine ⟨n * 10 + d, ?_, ?_⟩
      · rw [numL_ok c q 0 (fun x hx => hd x (by simp [hx])) (hd c (by simp)), h1, hcd]; omega
      · rw [digL_ge (by omega), show (n * 10 + d) / 10 = n by omega, show (n * 10 + d) % 10 = d by omega, h2, hce]
theorem whole_back {p : List UInt8} (h : 0 ≤ wholeL p 5) : ∃ n : Nat, wholeL p 5 = n ∧ digL n = p := by
  unfold wholeL at h ⊢
  split at h
  · omega
  · rename_i hc
    rw [if_neg hc]
    exact digits_back p.length p rfl (fun e => hc (.inl e)) (numL_all h) (fun e => hc (.inr (.inr e)))
theorem numL_mono : ∀ (l : List UInt8) (acc : Int), 0 ≤ acc → (∀ x ∈ l, digB x) → acc ≤ numL acc l
  | [], acc, _, _ => Int.le_refl _
  | x :: r, acc, h, hd => by
      have hx := hd x (by simp)
      have e : numL acc (x :: r) = numL (acc * 10 + (x.toNat : Int) - 48) r := by show (if 48 ≤ (x.toNat : Int) ∧ (x.toNat : Int) ≤ 57 then _ else _) = _; rw [if_pos (show 48 ≤ (x.toNat : Int) ∧ (x.toNat : Int) ≤ 57 from hx)]
      rw [e]
      have := numL_mono r (acc * 10 + (x.toNat : Int) - 48) (by unfold digB at hx; omega) (fun y hy => hd y (by simp [hy]))
      unfold digB at hx
      omega
theorem parse10 (l : List UInt8) : ∀ (acc : Nat), (∀ x ∈ l, digB x) → numL (acc : Int) l < 1000000000 → Lib.parseUint10 acc l = .ok (numL (acc : Int) l).toNat := by
  induction l with
  | nil => intro acc _ _; unfold Lib.parseUint10; show _ = Lib.NumEnd.ok ((acc : Int)).toNat; rw [Int.toNat_natCast]
  | cons x r ih =>
    intro acc hd hb
    have hx := hd x (by simp)
    have e : numL (acc : Int) (x :: r) = numL ((acc : Int) * 10 + (x.toNat : Int) - 48) r := by
      show (if 48 ≤ (x.toNat : Int) ∧ (x.toNat : Int) ≤ 57 then _ else _) = _
      rw [if_pos (show 48 ≤ (x.toNat : Int) ∧ (x.toNat : Int) ≤ 57 from hx)]
    rw [e] at hb ⊢
    unfold digB at hx
    have hm := numL_mono r ((acc : Int) * 10 + (x.toNat : Int) - 48) (by omega) (fun y hy => hd y (by simp [hy]))
    have ec : ((acc * 10 + (x.toNat - 48) : Nat) : Int) = (acc : Int) * 10 + (x.toNat : Int) - 48 := by omega
    unfold Lib.parseUint10
    rw [if_pos (show 48 ≤ x.toNat ∧ x.toNat ≤ 57 by omega), if_neg (by omega), if_neg (by omega), ih _ (fun y hy => hd y (by simp [hy])) (by rw [ec]; exact hb), ec]
theorem atoi_dig {n : Nat} (h : n ≤ 65535) : atoiO (digL n) = some (n : Int) := by
  have hne := digL_ne n
  have hd := digL_digs n
  have hn := numL_dig n
  have hp := parse10 (digL n) 0 hd (by rw [show ((0 : Nat) : Int) = 0 from rfl, hn]; omega)
  rw [show ((0 : Nat) : Int) = 0 from rfl, hn, Int.toNat_natCast] at hp
  cases hl : digL n with
  | nil => exact absurd hl hne
  | cons c r =>
    rw [hl] at hp hd
    have hc := hd c (by simp)
    unfold digB at hc
    unfold atoiO
    rw [Lib.atoiAll_plain c r (by omega) (by omega)]
    unfold Lib.parseMag
    rw [if_neg (by simp), hp]
    unfold Lib.signless
    simp only
    rw [if_neg (by omega)]
/-! ### words -/
theorem cutG_splitX (c : UInt8) : ∀ (l cur : List UInt8), cutG c cur l = (cur ++ (splitC c l).1) :: (if (splitC c l).2.2 = true then cutG c [] (splitC c l).2.1 else [])
  | [], cur => by simp [cutG, splitC]
  | x :: r, cur => by
      have h1 : cutG c cur (x :: r) = if x = c then cur :: cutG c [] r else cutG c (cur ++ [x]) r := rfl
      have h2 : splitC c (x :: r) = if x = c then ([], r, true) else (x :: (splitC c r).1, (splitC c r).2.1, (splitC c r).2.2) := rfl
      rw [h1, h2]
      by_cases h : x = c
      · rw [if_pos h, if_pos h]; simp
      · rw [if_neg h, if_neg h, cutG_splitX c r (cur ++ [x])]
        simp
theorem cutL_splitX (c : UInt8) (l : List UInt8) : cutL c l = (splitC c l).1 :: (if (splitC c l).2.2 = true then cutL c (splitC c l).2.1 else []) := by
  unfold cutL; rw [cutG_splitX]; simp
theorem splitC_noneX {c : UInt8} : ∀ {p : List UInt8}, (∀ x ∈ p, x ≠ c) → splitC c p = (p, [], false)
  | [], _ => rfl
  | x :: r, h => by
      unfold splitC
      rw [if_neg (h x (by simp)), splitC_noneX (fun y hy => h y (by simp [hy]))]
theorem splitC_atX {c : UInt8} {r : List UInt8} : ∀ {p : List UInt8}, (∀ x ∈ p, x ≠ c) → splitC c (p ++ c :: r) = (p, r, true)
  | [], _ => by unfold splitC; simp
  | x :: q, h => by
      rw [List.cons_append]
      unfold splitC
      rw [if_neg (h x (by simp)), splitC_atX (fun y hy => h y (by simp [hy]))]
theorem splitC_joinX {c : UInt8} : ∀ {l : List UInt8}, (splitC c l).2.2 = true → l = (splitC c l).1 ++ c :: (splitC c l).2.1
  | [], h => by simp [splitC] at h
  | x :: r, h => by
      unfold splitC at h ⊢
      by_cases hx : x = c
      · rw [if_pos hx]; simp [hx]
      · rw [if_neg hx] at h ⊢
        simp only at h ⊢
        rw [List.cons_append, ← splitC_joinX h]
theorem splitC_allX {c : UInt8} : ∀ {l : List UInt8}, (splitC c l).2.2 = false → (splitC c l).1 = l
  | [], _ => rfl
  | x :: r, h => by
      unfold splitC at h ⊢
      by_cases hx : x = c
      · rw [if_pos hx] at h; simp at h
      · rw [if_neg hx] at h ⊢
        simp only at h ⊢
        rw [splitC_allX h]
theorem cut_none {c : UInt8} {p : List UInt8} (h : ∀ x ∈ p, x ≠ c) : cutL c p = [p] := by rw [cutL_splitX, splitC_noneX h]; rfl
theorem cut_at {c : UInt8} {p r : List UInt8} (h : ∀ x ∈ p, x ≠ c) : cutL c (p ++ c :: r) = p :: cutL c r := by rw [cutL_splitX, splitC_atX h]; rfl
theorem join_cut (c : UInt8) : ∀ (k : Nat) (l : List UInt8), l.length ≤ k → Lib.join (cutL c l) [c] = l
  | k, l, hk => by
      rw [cutL_splitX]
      rcases hs : (splitC c l).2.2 with _ | _
      · rw [if_neg (by simp), Lib.join_one]; exact splitC_allX hs
      · rw [if_pos rfl]
        have hj := splitC_joinX hs
        have hlen := congrArg List.length hj
        rw [List.length_append, List.length_cons] at hlen
        match k, hk with
        | 0, hk => omega
        | k + 1, hk =>
          have ih := join_cut c k (splitC c l).2.1 (by omega)
          have hne : ∃ y r, cutL c (splitC c l).2.1 = y :: r := ⟨_, _, cutL_splitX c _⟩
          obtain ⟨y, r, hyr⟩ := hne
          rw [hyr] at ih ⊢
          have e : Lib.join ((splitC c l).1 :: y :: r) [c] = (splitC c l).1 ++ [c] ++ Lib.join (y :: r) [c] := by
            rw [Lib.join_cons, Lib.join_cons]; simp [Lib.joinTail]
          rw [e, ih]
          conv => rhs; rw [hj]
          simp
theorem cut_join (c : UInt8) : ∀ (ws : List (List UInt8)), ws ≠ [] → (∀ w ∈ ws, ∀ x ∈ w, x ≠ c) → cutL c (Lib.join ws [c]) = ws
  | [], h, _ => absurd rfl h
  | [x], _, h => by rw [Lib.join_one]; exact cut_none (h x (by simp))
  | x :: y :: r, _, h => by
      have e : Lib.join (x :: y :: r) [c] = x ++ c :: Lib.join (y :: r) [c] := by
        rw [Lib.join_cons, Lib.join_cons]; simp [Lib.joinTail]
      rw [e, cut_at (h x (by simp)), cut_join c (y :: r) (by simp) (fun w hw => h w (by simp [hw]))]
theorem indexB_44 (s : ByteArray) : Lib.indexB s ⟨#[44]⟩ = Lib.indexByte s.data.toList 44 := by
  have e : Lib.indexB s ⟨#[44]⟩ = Lib.index s.data.toList [44] := rfl
  rw [e, Lib.index_one]
theorem words_cut : ∀ (k : Nat) (s : ByteArray), Lib.countB s ⟨#[44]⟩ = k → (Lib.splitB ⟨#[44]⟩ 0 k s).map (fun x => x.data.toList) = cutL 44 s.data.toList
  | k, s, hk => by
      have hix := indexB_44 s
      rcases splitC_index 44 s.data.toList with ⟨h1, h2⟩ | ⟨i, hi, h1, h2⟩
      · have hm : Lib.indexB s ⟨#[44]⟩ = -1 := by rw [hix]; have := Lib.indexByte_ge s.data.toList 44; omega
        rw [Lib.splitB_miss _ _ _ _ hm, cutL_splitX, h2]; rfl
      · have hh : Lib.indexB s ⟨#[44]⟩ = i := by rw [hix, h1]
        have hc := Lib.countB_hit s ⟨#[44]⟩ i (by decide) hh
        match k, hk with
        | 0, hk => omega
        | k + 1, hk =>
          rw [Lib.splitB_hit _ _ _ _ i hh, List.map_cons, words_cut k _ (by omega), cutL_splitX 44 s.data.toList, h2]
          simp only [if_true]
          have e1 : (s.extract 0 (i + 0)).data.toList = s.data.toList.take i := by rw [Nat.add_zero, ext_take, mkB_toList]
          have e2 : (s.extract (i + (⟨#[44]⟩ : ByteArray).size) s.size).data.toList = s.data.toList.drop (i + 1) := by
            rw [show (⟨#[44]⟩ : ByteArray).size = 1 from rfl, ext_drop, mkB_toList]
          rw [e1, e2]
/-! ### spans of words -/
theorem dig_no {n : Nat} {c : UInt8} (hc : (c.toNat : Int) < 48) : ∀ x ∈ digL n, x ≠ c := fun x hx e => by
  have := digL_digs n x hx
  unfold digB at this
  rw [e] at this; omega
theorem word_no {s : Sp} : ∀ x ∈ wordL s, x ≠ 44 := by
  intro x hx
  unfold wordL at hx
  split at hx
  · exact dig_no (by decide) x hx
  · rcases List.mem_append.1 hx with hx | hx
    · rcases List.mem_append.1 hx with hx | hx
      · exact dig_no (by decide) x hx
      · rw [List.mem_singleton] at hx; subst hx; decide
    · exact dig_no (by decide) x hx
/-- One word as the reference reads it. -/
def refChk (n : Nat) (a b : Int) : Option Sp := if 2 < n ∨ a < 0 ∨ 65535 < b ∨ (n = 2 ∧ b ≤ a) then none else some (a, b)
def refB (x : List (List UInt8)) : Int := if x.length = 2 then wholeL (x.getD 1 []) 5 else wholeL (x.getD 0 []) 5
def refWord (w : List UInt8) : Option Sp := refChk (cutL 45 w).length (wholeL ((cutL 45 w).getD 0 []) 5) (refB (cutL 45 w))
theorem cut_word {s : Sp} (h : okB s = true) : (s.1 = s.2 → cutL 45 (wordL s) = [digL s.1.toNat]) ∧ (¬ s.1 = s.2 → cutL 45 (wordL s) = [digL s.1.toNat, digL s.2.toNat]) := by
  constructor
  · intro e
    unfold wordL
    rw [if_pos e]; exact cut_none (dig_no (by decide))
  · intro e
    unfold wordL
    rw [if_neg e, List.append_assoc, List.singleton_append, cut_at (dig_no (by decide)), cut_none (dig_no (by decide))]
theorem refWord_word {s : Sp} (h : okB s = true) : refWord (wordL s) = some s := by
  obtain ⟨h0, h1, h2⟩ := okB_iff.1 h
  obtain ⟨p, q⟩ := s
  simp only at h0 h1 h2
  obtain ⟨c1, c2⟩ := cut_word h
  simp only at c1 c2
  have w1 : wholeL (digL p.toNat) 5 = p := by rw [whole_dig (by omega)]; omega
  have w2 : wholeL (digL q.toNat) 5 = q := by rw [whole_dig (by omega)]; omega
  unfold refWord
  by_cases e : p = q
  · rw [c1 e]
    have e1 : refB [digL p.toNat] = wholeL (digL p.toNat) 5 := rfl
    have e2 : wholeL ([digL p.toNat].getD 0 []) 5 = wholeL (digL p.toNat) 5 := rfl
    have e3 : [digL p.toNat].length = 1 := rfl
    rw [e1, e2, e3, w1]
    unfold refChk
    rw [if_neg (by omega), e]
  · rw [c2 e]
    have e1 : refB [digL p.toNat, digL q.toNat] = wholeL (digL q.toNat) 5 := rfl
    have e2 : wholeL ([digL p.toNat, digL q.toNat].getD 0 []) 5 = wholeL (digL p.toNat) 5 := rfl
    have e3 : [digL p.toNat, digL q.toNat].length = 2 := rfl
    rw [e1, e2, e3, w1, w2]
    unfold refChk
    rw [if_neg (by omega)]
theorem refChk_some {n : Nat} {a b : Int} {s : Sp} (h : refChk n a b = some s) : ¬ (2 < n ∨ a < 0 ∨ 65535 < b ∨ (n = 2 ∧ b ≤ a)) ∧ s = (a, b) := by
  unfold refChk at h
  split at h
  · cases h
  · rename_i hc
    simp only [Option.some.injEq] at h
    exact ⟨hc, h.symm⟩
theorem refWord_some {w : List UInt8} {s : Sp} (h : refWord w = some s) : okB s = true ∧ w = wordL s := by
  unfold refWord at h
  have hcut := cutL_splitX 45 w
  rcases hs : (splitC 45 w).2.2 with _ | _
  · rw [hs, if_neg (by simp)] at hcut
    rw [hcut] at h
    have e1 : refB [(splitC 45 w).1] = wholeL (splitC 45 w).1 5 := rfl
    have e2 : wholeL ([(splitC 45 w).1].getD 0 []) 5 = wholeL (splitC 45 w).1 5 := rfl
    have e3 : [(splitC 45 w).1].length = 1 := rfl
    rw [e1, e2, e3] at h
    obtain ⟨hc, rfl⟩ := refChk_some h
    obtain ⟨n, hn, hd⟩ := whole_back (p := (splitC 45 w).1) (by omega)
    rw [hn] at hc ⊢
    rw [splitC_allX hs] at hd
    refine ⟨okB_iff.2 ⟨by simp only; omega, Int.le_refl _, by simp only; omega⟩, ?_⟩
    unfold wordL
    rw [if_pos rfl]; simp only [Int.toNat_natCast]; exact hd.symm
  · rw [hs, if_pos rfl] at hcut
    have hcut2 := cutL_splitX 45 (splitC 45 w).2.1
    rcases hs2 : (splitC 45 (splitC 45 w).2.1).2.2 with _ | _
    · rw [hs2, if_neg (by simp), splitC_allX hs2] at hcut2
      rw [hcut2] at hcut
      rw [hcut] at h
      have e1 : refB [(splitC 45 w).1, (splitC 45 w).2.1] = wholeL (splitC 45 w).2.1 5 := rfl
      have e2 : wholeL ([(splitC 45 w).1, (splitC 45 w).2.1].getD 0 []) 5 = wholeL (splitC 45 w).1 5 := rfl
      have e3 : [(splitC 45 w).1, (splitC 45 w).2.1].length = 2 := rfl
      rw [e1, e2, e3] at h
      obtain ⟨hc, rfl⟩ := refChk_some h
      obtain ⟨n, hn, hd⟩ := whole_back (p := (splitC 45 w).1) (by omega)
      obtain ⟨m, hm, hd2⟩ := whole_back (p := (splitC 45 w).2.1) (by omega)
      rw [hn, hm] at hc ⊢
      refine ⟨okB_iff.2 ⟨by simp only; omega, by simp only; omega, by simp only; omega⟩, ?_⟩
      unfold wordL
      rw [if_neg (by simp only; omega)]
      simp only [Int.toNat_natCast]
      rw [hd, hd2, List.append_assoc, List.singleton_append]
      exact splitC_joinX hs
    · rw [hs2, if_pos rfl] at hcut2
      rw [hcut2] at hcut
      have : 0 < (cutL 45 (splitC 45 (splitC 45 w).2.1).2.1).length := by rw [cutL_splitX]; simp
      obtain ⟨hc, _⟩ := refChk_some h
      exfalso
      apply hc
      left
      rw [hcut]
      simp only [List.length_cons]
      omega
theorem readL_word {s : Sp} (h : okB s = true) : readL (wordL s) = some s := by
  obtain ⟨h0, h1, h2⟩ := okB_iff.1 h
  obtain ⟨p, q⟩ := s
  simp only at h0 h1 h2
  have a1 : atoiO (digL p.toNat) = some p := by rw [atoi_dig (by omega)]; congr 1; omega
  have a2 : atoiO (digL q.toNat) = some q := by rw [atoi_dig (by omega)]; congr 1; omega
  by_cases e : p = q
  · have hw : splitC 45 (wordL (p, q)) = (digL p.toNat, [], false) := by
      unfold wordL; rw [if_pos (show (p, q).1 = (p, q).2 from e)]; exact splitC_noneX (dig_no (by decide))
    have := readL_some (l := wordL (p, q)) (a := p) (b := p) (by rw [hw]; exact a1) (by rw [hw]; exact a1)
    rw [this, e]
  · have hw : splitC 45 (wordL (p, q)) = (digL p.toNat, digL q.toNat, true) := by
      unfold wordL; rw [if_neg (show ¬ (p, q).1 = (p, q).2 from e), List.append_assoc, List.singleton_append]; exact splitC_atX (dig_no (by decide))
    exact readL_some (by rw [hw]; exact a1) (by rw [hw]; exact a2)
def touchB (acc : List Sp) (a : Int) : Bool := match acc.reverse with | [] => false | t :: _ => decide (a ≤ t.2 + 1)
/-- All the words as the reference reads them. -/
def refFold : List (List UInt8) → List Sp → Option (List Sp)
  | [], acc => some acc
  | w :: r, acc => match refWord w with
    | none => none
    | some s => if 200 ≤ acc.length ∨ touchB acc s.1 = true then none else refFold r (acc ++ [s])
theorem nrm_snoc {acc : List Sp} {s : Sp} (hn : Nrm acc) (hs : okB s = true) (ht : touchB acc s.1 = false) : Nrm (acc ++ [s]) := by
  refine ⟨hn.1.append (OkS.one (okB_iff.1 hs)), List.pairwise_append.2 ⟨hn.2, List.pairwise_singleton _ _, fun x hx y hy => ?_⟩⟩
  rw [List.mem_singleton] at hy; subst hy
  rcases List.eq_nil_or_concat acc with rfl | ⟨i, t, rfl⟩
  · cases hx
  · rw [List.concat_eq_append] at hn hx ht
    unfold touchB at ht
    simp at ht
    rcases List.mem_append.1 hx with hx | hx
    · have h1 := (List.pairwise_append.1 hn.2).2.2 x hx t (by simp)
      have h2 := hn.1 t (by simp)
      omega
    · rw [List.mem_singleton] at hx; subst hx; omega
theorem touch_of {acc r : List Sp} {s : Sp} (hn : Nrm (acc ++ s :: r)) : touchB acc s.1 = false := by
  rcases List.eq_nil_or_concat acc with rfl | ⟨i, t, rfl⟩
  · rfl
  · rw [List.concat_eq_append] at hn ⊢
    unfold touchB
    simp
    have := (List.pairwise_append.1 hn.2).2.2 t (by simp) s (by simp)
    omega
theorem refFold_some : ∀ (ws : List (List UInt8)) (acc l : List Sp), refFold ws acc = some l → Nrm acc → acc.length ≤ 200 → Nrm l ∧ l.length ≤ 200 ∧ ∃ m, l = acc ++ m ∧ ws = m.map wordL
  | [], acc, l, h, hn, hl => by
      simp only [refFold, Option.some.injEq] at h
      subst h
      exact ⟨hn, hl, [], by simp, rfl⟩
  | w :: r, acc, l, h, hn, hl => by
      unfold refFold at h
      cases hw : refWord w with
      | none => rw [hw] at h; cases h
      | some s =>
        rw [hw] at h
        simp only at h
        split at h
        · cases h
        · rename_i hc
          obtain ⟨o1, o2⟩ := refWord_some hw
          have ht : touchB acc s.1 = false := by simpa using fun e => hc (.inr e)
          obtain ⟨i1, i2, m, i3, i4⟩ := refFold_some r (acc ++ [s]) l h (nrm_snoc hn o1 ht) (by simp; omega)
          exact ⟨i1, i2, s :: m, by rw [i3]; simp, by rw [i4, o2]; rfl⟩
theorem refFold_word : ∀ (m acc : List Sp), Nrm (acc ++ m) → (acc ++ m).length ≤ 200 → refFold (m.map wordL) acc = some (acc ++ m)
  | [], acc, _, _ => by rw [List.append_nil]; rfl
  | s :: r, acc, hn, hl => by
      rw [List.map_cons]
      unfold refFold
      rw [refWord_word (okB_iff.2 (hn.1 s (by simp)))]
      simp only
      rw [if_neg (by
        rintro (h | h)
        · simp at hl; omega
        · rw [touch_of hn] at h; cases h)]
      have := refFold_word r (acc ++ [s]) (by rw [List.append_assoc]; exact hn) (by rw [List.append_assoc]; exact hl)
      rw [this]; simp
def readR (l : List UInt8) : Option (List Sp) := if l = [45] then some [] else refFold (cutL 44 l) []
theorem mapO_of : ∀ (xs : List ByteArray) (m : List Sp), xs.map (fun x => x.data.toList) = m.map wordL → OkS m → mapO xs = some m
  | [], [], _, _ => rfl
  | [], s :: m, h, _ => by cases h
  | x :: r, [], h, _ => by cases h
  | x :: r, s :: m, h, hk => by
      rw [List.map_cons, List.map_cons] at h
      injection h with h1 h2
      unfold mapO
      rw [h1, readL_word (okB_iff.2 (hk s (by simp))), mapO_of r m h2 (fun t ht => hk t (by simp [ht]))]
theorem parse_is (s : ByteArray) : parseO s = readR s.data.toList := by
  unfold parseO readR
  by_cases h45 : s.data.toList = [45]
  · rw [if_pos h45, if_pos h45]
  rw [if_neg h45, if_neg h45]
  have hwc : (wordsB s).map (fun x => x.data.toList) = cutL 44 s.data.toList := words_cut _ s rfl
  cases hr : refFold (cutL 44 s.data.toList) [] with
  | some l =>
    obtain ⟨n1, n2, m, n3, n4⟩ := refFold_some _ _ _ hr Nrm.nil (by simp)
    rw [List.nil_append] at n3
    subst n3
    have hne : l ≠ [] := fun e => by subst e; rw [cutL_splitX] at n4; cases n4
    have hj := join_cut 44 s.data.toList.length s.data.toList (Nat.le_refl _)
    rw [n4] at hj
    have ht : mkB (printL l) = s := by
      unfold printL textL
      rw [setP_self n1, if_neg hne, hj, mkB_data]
    rw [mapO_of _ l (hwc.trans n4) n1.1]
    simp only
    rw [if_pos ⟨spE_ok n2 n1.1, ht⟩]
  | none =>
    cases hm : mapO (wordsB s) with
    | none => rfl
    | some l =>
      simp only
      split
      · rename_i h
        exfalso
        obtain ⟨he, ht⟩ := h
        have hl : s.data.toList = printL l := by rw [← ht, mkB_toList]
        obtain ⟨hl2, hk⟩ := of_spE he
        have hR := (setP_is (inB l)).1
        have hRl := Nat.le_trans (setP_few hk) hl2
        unfold printL textL at hl
        split at hl
        · exact h45 hl
        · rename_i hne
          have hcj := cut_join 44 ((setP (inB l)).map wordL) (by simpa using hne) (fun w hw => by
            obtain ⟨t, _, rfl⟩ := List.mem_map.1 hw
            exact word_no)
          rw [← hl] at hcj
          rw [hcj, refFold_word _ [] (by rw [List.nil_append]; exact hR) (by rw [List.nil_append]; exact hRl)] at hr
          cases hr
      · rfl
end Go.Proofs.YthnkjfgiclolaaaGreatDoor

namespace Go.Proofs.YthnkjfgiclolaaaGreatDoor
open Go.RowKit
set_option linter.unusedVariables false

theorem digit_back {c : UInt8} (h : 48 ≤ (c.toNat : Int) ∧ (c.toNat : Int) ≤ 57) : 48 + UInt8.ofNat (c.toNat - 48) = c := by
  have hc : c.toNat < 256 := c.toNat_lt
  apply UInt8.toNat_inj.1
  have e : (UInt8.ofNat (c.toNat - 48)).toNat = c.toNat - 48 := by
    rw [UInt8.toNat_ofNat']; omega
  rw [UInt8.toNat_add, e]
  show (48 + (c.toNat - 48)) % 256 = c.toNat
  omega
theorem whole_digits : ∀ {p : List UInt8}, 0 ≤ wholeL p 3 → digL (wholeL p 3).toNat = p
  | [], h => by unfold wholeL at h; rw [if_pos (.inl rfl)] at h; omega
  | [c], h => by
      have e : wholeL [c] 3 = numL 0 [c] := by unfold wholeL; rw [if_neg (by simp)]
      rw [e] at h ⊢
      unfold numL at h ⊢
      split at h
      · rename_i hc
        rw [if_pos hc]
        unfold numL
        have e2 : (0 * 10 + (c.toNat : Int) - 48).toNat = c.toNat - 48 := by omega
        rw [e2, digL_lt (by omega), digit_back hc]
      · omega
  | [c, d], h => by
      by_cases hz : (c.toNat : Int) = 48
      · unfold wholeL at h; rw [if_pos (.inr (.inr ⟨by simpa using hz, by simp⟩))] at h; omega
      have e : wholeL [c, d] 3 = numL 0 [c, d] := by
        unfold wholeL; rw [if_neg]
        rintro (h | h | h)
        · cases h
        · simp at h
        · exact hz (by simpa using h.1)
      rw [e] at h ⊢
      unfold numL at h ⊢
      split at h
      · rename_i hc
        rw [if_pos hc]
        unfold numL at h ⊢
        split at h
        · rename_i hd
          rw [if_pos hd]
          unfold numL
          have e2 : ((0 * 10 + (c.toNat : Int) - 48) * 10 + (d.toNat : Int) - 48).toNat = (c.toNat - 48) * 10 + (d.toNat - 48) := by omega
          rw [e2, digL_ge (by omega)]
          have e3 : ((c.toNat - 48) * 10 + (d.toNat - 48)) / 10 = c.toNat - 48 := by omega
          have e4 : ((c.toNat - 48) * 10 + (d.toNat - 48)) % 10 = d.toNat - 48 := by omega
          rw [e3, e4, digL_lt (by omega), digit_back hc, digit_back hd]; rfl
        · omega
      · omega
  | [c, d, f], h => by
      by_cases hz : (c.toNat : Int) = 48
      · unfold wholeL at h; rw [if_pos (.inr (.inr ⟨by simpa using hz, by simp⟩))] at h; omega
      have e : wholeL [c, d, f] 3 = numL 0 [c, d, f] := by
        unfold wholeL; rw [if_neg]
        rintro (h | h | h)
        · cases h
        · simp at h
        · exact hz (by simpa using h.1)
      rw [e] at h ⊢
      unfold numL at h ⊢
      split at h
      · rename_i hc
        rw [if_pos hc]
        unfold numL at h ⊢
        split at h
        · rename_i hd
          rw [if_pos hd]
          unfold numL at h ⊢
          split at h
          · rename_i hf
            rw [if_pos hf]
            unfold numL
            have e2 : (((0 * 10 + (c.toNat : Int) - 48) * 10 + (d.toNat : Int) - 48) * 10 + (f.toNat : Int) - 48).toNat = ((c.toNat - 48) * 10 + (d.toNat - 48)) * 10 + (f.toNat - 48) := by omega
            rw [e2, digL_ge (by omega)]
            have e3 : (((c.toNat - 48) * 10 + (d.toNat - 48)) * 10 + (f.toNat - 48)) / 10 = (c.toNat - 48) * 10 + (d.toNat - 48) := by omega
            have e4 : (((c.toNat - 48) * 10 + (d.toNat - 48)) * 10 + (f.toNat - 48)) % 10 = f.toNat - 48 := by omega
            rw [e3, e4, digL_ge (by omega)]
            have e5 : ((c.toNat - 48) * 10 + (d.toNat - 48)) / 10 = c.toNat - 48 := by omega
            have e6 : ((c.toNat - 48) * 10 + (d.toNat - 48)) % 10 = d.toNat - 48 := by omega
            rw [e5, e6, digL_lt (by omega), digit_back hc, digit_back hd, digit_back hf]; rfl
          · omega
        · omega
      · omega
  | c :: d :: f :: g :: r, h => by
      unfold wholeL at h; rw [if_pos (.inr (.inl (by simp; omega)))] at h; omega
theorem splitC_join {c : UInt8} : ∀ {l : List UInt8}, (splitC c l).2.2 = true → l = (splitC c l).1 ++ c :: (splitC c l).2.1
  | [], h => by simp [splitC] at h
  | x :: r, h => by
      have e : splitC c (x :: r) = if x = c then ([], r, true) else (x :: (splitC c r).1, (splitC c r).2.1, (splitC c r).2.2) := rfl
      rw [e] at h ⊢
      by_cases hx : x = c
      · rw [if_pos hx]; simp [hx]
      · rw [if_neg hx] at h ⊢
        have := splitC_join (l := r) h
        simp only [List.cons_append]
        rw [← this]
theorem splitC_all {c : UInt8} {l : List UInt8} (h : (splitC c l).2.2 = false) : (splitC c l).1 = l := by
  rcases splitC_index c l with ⟨_, e⟩ | ⟨k, _, _, e⟩
  · rw [e]
  · rw [e] at h; simp at h
theorem parse_step {k : Nat} {a : Int} {l : List UInt8} (ha : 0 ≤ a) (h : 0 ≤ parseL (k + 1) a l) : ∃ (z : Int) (p r : List UInt8), 0 ≤ z ∧ z ≤ 255 ∧ digL z.toNat = p ∧ parseL (k + 1) a l = parseL k (a * 256 + z) r ∧ ((0 < k ∧ l = p ++ 46 :: r) ∨ (k = 0 ∧ l = p)) := by
  rw [parseL] at h ⊢
  by_cases hc : numOK (wholeL (splitC 46 l).1 3) 255 = true ∧ (splitC 46 l).2.2 = decide (0 < k)
  · rw [if_pos hc] at h ⊢
    have hn : 0 ≤ wholeL (splitC 46 l).1 3 ∧ wholeL (splitC 46 l).1 3 ≤ 255 := by simpa [numOK] using hc.1
    refine ⟨wholeL (splitC 46 l).1 3, (splitC 46 l).1, (splitC 46 l).2.1, hn.1, hn.2, whole_digits hn.1, rfl, ?_⟩
    rcases Nat.eq_zero_or_pos k with h0 | h0
    · right
      refine ⟨h0, (splitC_all ?_).symm⟩
      rw [hc.2, h0]; rfl
    · left
      refine ⟨h0, splitC_join ?_⟩
      rw [hc.2]; simpa using h0
  · rw [if_neg hc] at h; omega
theorem parse_back {l : List UInt8} (h : 0 ≤ parseL 4 0 l) : parseL 4 0 l ≤ 4294967295 ∧ showL (parseL 4 0 l) = l := by
  obtain ⟨z3, p3, r3, a0, a1, a2, a3, a4⟩ := parse_step (Int.le_refl 0) h
  rw [a3] at h
  obtain ⟨z2, p2, r2, b0, b1, b2, b3, b4⟩ := parse_step (by omega) h
  rw [b3] at h
  obtain ⟨z1, p1, r1, c0, c1, c2, c3, c4⟩ := parse_step (by omega) h
  rw [c3] at h
  obtain ⟨z0, p0, r0, d0, d1, d2, d3, d4⟩ := parse_step (by omega) h
  rw [a3, b3, c3, d3, parseL]
  refine ⟨by omega, ?_⟩
  have e3 : (((0 * 256 + z3) * 256 + z2) * 256 + z1) * 256 + z0 = z3 * 16777216 + z2 * 65536 + z1 * 256 + z0 := by omega
  rw [e3]
  unfold showL
  have f3 : ((z3 * 16777216 + z2 * 65536 + z1 * 256 + z0) / 16777216 % 256) = z3 := by omega
  have f2 : ((z3 * 16777216 + z2 * 65536 + z1 * 256 + z0) / 65536 % 256) = z2 := by omega
  have f1 : ((z3 * 16777216 + z2 * 65536 + z1 * 256 + z0) / 256 % 256) = z1 := by omega
  have f0 : ((z3 * 16777216 + z2 * 65536 + z1 * 256 + z0) % 256) = z0 := by omega
  rw [f3, f2, f1, f0, a2, b2, c2, d2]
  rcases a4 with ⟨_, a4⟩ | ⟨a4, _⟩
  · rcases b4 with ⟨_, b4⟩ | ⟨b4, _⟩
    · rcases c4 with ⟨_, c4⟩ | ⟨c4, _⟩
      · rcases d4 with ⟨d4, _⟩ | ⟨_, d4⟩
        · omega
        · rw [a4, b4, c4, d4]; simp
      · omega
    · omega
  · omega
theorem dig_33 : ∀ n : Fin 33, (wholeL (digL n.val) 3 = (n.val : Int)) := by decide +kernel
theorem readP_show {a n : Int} (h : prefE a n = 0) : readP (showPrefL a n) = (a, n, true) := by
  obtain ⟨⟨h0, h1⟩, ⟨h2, h3⟩, hm⟩ := prefE_zero h
  unfold showPrefL
  by_cases hn : n = 0
  · rw [if_pos hn]
    subst hn
    have e : pw (32 - 0) = 4294967296 := by decide
    rw [e] at hm
    have : a = 0 := by omega
    subst this; rfl
  · rw [if_neg hn]
    have hw : wholeL (digL n.toNat) 3 = n := by
      have := dig_33 ⟨n.toNat, by omega⟩
      simp only at this
      rw [this]; omega
    have e : showL a ++ [47] ++ digL n.toNat = showL a ++ 47 :: digL n.toNat := by simp
    have hne : ¬ showL a ++ 47 :: digL n.toNat = [97, 110, 121] := by
      intro h
      have : (47 : UInt8) ∈ showL a ++ 47 :: digL n.toNat := by simp
      rw [h] at this; revert this; decide
    rw [e]
    unfold readP
    rw [if_neg hne, splitC_at (show_ne (c := 47) (by decide) (by decide))]
    simp only
    rw [parse_show h0 h1, if_neg (by omega), if_neg (by simp), hw, if_pos]
    refine ⟨?_, hn, h⟩
    unfold numOK; simp; omega
theorem prefE_32' {a : Int} (h0 : 0 ≤ a) (h1 : a ≤ 4294967295) : prefE a 32 = 0 := by
  unfold prefE
  rw [if_pos ⟨isAddr_yes h0 h1, by omega, by omega⟩, if_pos]
  have : pw (32 - 32) = 1 := by decide
  rw [this]; omega
theorem read_back {l : List UInt8} {a n : Int} (h : readP l = (a, n, true)) : prefE a n = 0 ∧ (showPrefL a n = l ∨ showPrefL a n = l ++ [47, 51, 50]) := by
  unfold readP at h
  by_cases h0 : l = [97, 110, 121]
  · rw [if_pos h0] at h
    simp at h
    obtain ⟨rfl, rfl⟩ := h
    exact ⟨by decide, .inl (by rw [h0]; rfl)⟩
  rw [if_neg h0] at h
  by_cases h1 : parseL 4 0 (splitC 47 l).1 < 0
  · rw [if_pos h1] at h; simp at h
  rw [if_neg h1] at h
  obtain ⟨hb, hs⟩ := parse_back (by omega : 0 ≤ parseL 4 0 (splitC 47 l).1)
  by_cases h2 : (splitC 47 l).2.2 = false
  · rw [if_pos h2] at h
    simp at h
    obtain ⟨rfl, rfl⟩ := h
    refine ⟨prefE_32' (by omega) hb, .inr ?_⟩
    unfold showPrefL
    rw [if_neg (by omega), hs, splitC_all h2]
    have : digL (32 : Int).toNat = [51, 50] := by decide
    rw [this]; simp
  · rw [if_neg h2] at h
    by_cases h3 : numOK (wholeL (splitC 47 l).2.1 3) 32 = true ∧ wholeL (splitC 47 l).2.1 3 ≠ 0 ∧ prefE (parseL 4 0 (splitC 47 l).1) (wholeL (splitC 47 l).2.1 3) = 0
    · rw [if_pos h3] at h
      simp at h
      obtain ⟨rfl, rfl⟩ := h
      refine ⟨h3.2.2, .inl ?_⟩
      have hn : 0 ≤ wholeL (splitC 47 l).2.1 3 := by
        have := h3.1; simp [numOK] at this; exact this.1
      unfold showPrefL
      rw [if_neg h3.2.1, hs, whole_digits hn]
      have := splitC_join (c := 47) (l := l) (by simpa using h2)
      rw [List.append_assoc]; exact this.symm
    · rw [if_neg h3] at h; simp at h
end Go.Proofs.YthnkjfgiclolaaaGreatDoor
