/- Plain facts on ranges and covers: pieces lie side by side, no two of them make one, none could be wider; a cover has just what was covered, is its own cover, and has no more prefixes. -/
import Derived.Test.YtkjjalaelehjeabDoorCoverP
import Derived.Test.YtkjjalaelehjeabDoorWithinMath
namespace Go.Proofs.YtkjjalaelehjeabDoor
open Go.RowKit
set_option linter.unusedVariables false

theorem findN_min (l high : Int) : ∀ (f n m : Nat), n ≤ m → fitsB l high m = true → findN l high f n ≤ m
  | 0, n, m, h, _ => by rw [findN]; exact h
  | f + 1, n, m, h, hf => by
      rw [findN]
      by_cases c : fitsB l high n = true
      · rw [if_pos c]; exact h
      · rw [if_neg c]
        rcases Nat.lt_or_ge n m with h1 | h1
        · exact findN_min l high f (n + 1) m h1 hf
        · have : n = m := by omega
          subst this; exact absurd hf c
theorem best_min {l high : Int} {m : Nat} (h : fitsB l high m = true) : bestN l high ≤ m := findN_min l high 32 0 m (Nat.zero_le _) h
theorem best_pref {lo hi : Int} (h0 : 0 ≤ lo) (h1 : hi ≤ 4294967295) (h2 : lo ≤ hi) : prefE lo (bestN lo hi : Int) = 0 ∧ lo + pw (32 - (bestN lo hi : Int)) - 1 ≤ hi := by
  have hf := (fits_iff _ _ _).1 (best_fits h2)
  have hn := bestN_le lo hi
  refine ⟨?_, hf.2⟩
  unfold prefE
  rw [if_pos ⟨isAddr_yes h0 (by omega), by omega, by omega⟩, if_pos hf.1]
theorem fit_of {b m hi : Int} (hp : prefE b m = 0) (he : b + pw (32 - m) - 1 ≤ hi) : fitsB b hi m.toNat = true := by
  obtain ⟨_, ⟨h0, h1⟩, hm⟩ := prefE_zero hp
  rw [fits_iff]
  have e : ((m.toNat : Nat) : Int) = m := by omega
  rw [e]; exact ⟨hm, he⟩

theorem spread_mem : ∀ (k : Nat) (lo hi : Int), (hi - lo + 1).toNat ≤ k → 0 ≤ lo → hi ≤ 4294967295 → ∀ p ∈ spreadL lo hi, prefE p.1 p.2 = 0 ∧ lo ≤ p.1 ∧ endP p ≤ hi := by
  intro k
  induction k with
  | zero =>
    intro lo hi hk h0 h1 p hp
    rw [spreadL_no (by omega)] at hp; cases hp
  | succ k ih =>
    intro lo hi hk h0 h1 p hp
    by_cases hle : lo ≤ hi
    · obtain ⟨b1, b2⟩ := best_pref h0 h1 hle
      have hq := pw_pos (32 - (bestN lo hi : Int))
      rw [spreadL_yes hle] at hp
      rcases List.mem_cons.1 hp with rfl | hp
      · exact ⟨b1, by simp, b2⟩
      · obtain ⟨c1, c2, c3⟩ := ih _ hi (by omega) (by omega) h1 p hp
        exact ⟨c1, by omega, c3⟩
    · rw [spreadL_no (by omega)] at hp; cases hp
theorem spread_has : ∀ (k : Nat) (lo hi x : Int), (hi - lo + 1).toNat ≤ k → 0 ≤ lo → hi ≤ 4294967295 → (HasP (spreadL lo hi) x ↔ lo ≤ x ∧ x ≤ hi) := by
  intro k
  induction k with
  | zero =>
    intro lo hi x hk h0 h1
    rw [spreadL_no (by omega)]
    constructor
    · rintro ⟨p, hp, _⟩; cases hp
    · intro h; omega
  | succ k ih =>
    intro lo hi x hk h0 h1
    by_cases hle : lo ≤ hi
    · obtain ⟨b1, b2⟩ := best_pref h0 h1 hle
      have hq := pw_pos (32 - (bestN lo hi : Int))
      have hr := ih (lo + pw (32 - (bestN lo hi : Int))) hi x (by omega) (by omega) h1
      rw [spreadL_yes hle]
      constructor
      · rintro ⟨p, hp, h3⟩
        rcases List.mem_cons.1 hp with rfl | hp
        · unfold endP at h3; simp only at h3; omega
        · have := hr.1 ⟨p, hp, h3⟩; omega
      · intro h3
        by_cases hx : x ≤ lo + pw (32 - (bestN lo hi : Int)) - 1
        · exact ⟨_, List.mem_cons_self .., h3.1, hx⟩
        · obtain ⟨p, hp, h4⟩ := hr.2 ⟨by omega, h3.2⟩
          exact ⟨p, List.mem_cons_of_mem _ hp, h4⟩
    · rw [spreadL_no (by omega)]
      constructor
      · rintro ⟨p, hp, _⟩; cases hp
      · intro h; omega

def cntP : List (Int × Int) → Int → Int
  | [], _ => 0
  | p :: r, x => (if hasB p.1 p.2 x = true then 1 else 0) + cntP r x
theorem cnt_spread : ∀ (k : Nat) (lo hi x : Int), (hi - lo + 1).toNat ≤ k → 0 ≤ lo → hi ≤ 4294967295 → cntP (spreadL lo hi) x = if lo ≤ x ∧ x ≤ hi then 1 else 0 := by
  intro k
  induction k with
  | zero =>
    intro lo hi x hk h0 h1
    rw [spreadL_no (by omega), cntP, if_neg (by omega)]
  | succ k ih =>
    intro lo hi x hk h0 h1
    by_cases hle : lo ≤ hi
    · obtain ⟨b1, b2⟩ := best_pref h0 h1 hle
      have hq := pw_pos (32 - (bestN lo hi : Int))
      rw [spreadL_yes hle, cntP, ih (lo + pw (32 - (bestN lo hi : Int))) hi x (by omega) (by omega) h1, hasB_eq b1]
      by_cases c1 : lo ≤ x
      · by_cases c2 : x ≤ lo + pw (32 - (bestN lo hi : Int)) - 1
        · rw [if_pos (by simp [c1]; omega), if_neg (by omega), if_pos (by omega)]; rfl
        · rw [if_neg (by simp; omega)]
          by_cases c3 : x ≤ hi
          · rw [if_pos (by omega), if_pos (by omega)]; rfl
          · rw [if_neg (by omega), if_neg (by omega)]; rfl
      · rw [if_neg (by simp [c1]), if_neg (by omega), if_neg (by omega)]; rfl
    · rw [spreadL_no (by omega), cntP, if_neg (by omega)]
theorem cntP_drop (ps : List (Int × Int)) (k : Nat) (x : Int) (h : k < ps.length) : cntP (ps.drop k) x = (if hasB ps[k].1 ps[k].2 x = true then 1 else 0) + cntP (ps.drop (k + 1)) x := by
  rw [List.drop_eq_getElem_cons h]; rfl

/-- Of two pieces side by side: where the second begins; if they are alike no piece of both is one. -/
theorem spread_next : ∀ (k : Nat) (lo hi : Int), (hi - lo + 1).toNat ≤ k → 0 ≤ lo → hi ≤ 4294967295 → ∀ (i : Nat) (p q : Int × Int), (spreadL lo hi)[i]? = some p → (spreadL lo hi)[i + 1]? = some q → p.2 = q.2 → 0 < p.2 → prefE p.1 (p.2 - 1) ≠ 0 := by
  intro k
  induction k with
  | zero =>
    intro lo hi hk h0 h1 i p q hp
    rw [spreadL_no (by omega)] at hp; simp at hp
  | succ k ih =>
    intro lo hi hk h0 h1 i p q hp hq
    by_cases hle : lo ≤ hi
    · obtain ⟨b1, b2⟩ := best_pref h0 h1 hle
      have hpw := pw_pos (32 - (bestN lo hi : Int))
      rw [spreadL_yes hle] at hp hq
      cases i with
      | succ i =>
        exact ih (lo + pw (32 - (bestN lo hi : Int))) hi (by omega) (by omega) h1 i p q (by simpa using hp) (by simpa using hq)
      | zero =>
        intro he hpos hbad
        simp at hp hq
        subst hp
        by_cases hle2 : lo + pw (32 - (bestN lo hi : Int)) ≤ hi
        · rw [spreadL_yes hle2] at hq
          simp at hq
          subst hq
          obtain ⟨d1, d2⟩ := best_pref (by omega : 0 ≤ lo + pw (32 - (bestN lo hi : Int))) h1 hle2
          simp only at he hpos hbad
          rw [← he] at d2
          obtain ⟨n, hn⟩ : ∃ n : Nat, bestN lo hi = n + 1 := ⟨bestN lo hi - 1, by omega⟩
          have hn32 := bestN_le lo hi
          have e1 : ((bestN lo hi : Nat) : Int) - 1 = (n : Int) := by omega
          rw [e1] at hbad
          have hh := pw_half (n := n) (by omega)
          have e2 : ((n + 1 : Nat) : Int) = ((bestN lo hi : Nat) : Int) := by omega
          rw [e2] at hh
          have := fit_of hbad (hi := hi) (by rw [hh]; omega)
          have := best_min this
          simp at this
          omega
        · rw [spreadL_no (by omega)] at hq; simp at hq
    · rw [spreadL_no (by omega)] at hp; simp at hp

/-- No piece lies within a wider one that is within the range. -/
theorem spread_widest : ∀ (k : Nat) (lo hi : Int), (hi - lo + 1).toNat ≤ k → 0 ≤ lo → hi ≤ 4294967295 → ∀ p ∈ spreadL lo hi, ∀ q : Int × Int, prefE q.1 q.2 = 0 → q.2 < p.2 → q.1 ≤ p.1 → p.1 ≤ endP q → lo ≤ q.1 → endP q ≤ hi → False := by
  intro k
  induction k with
  | zero =>
    intro lo hi hk h0 h1 p hp
    rw [spreadL_no (by omega)] at hp; cases hp
  | succ k ih =>
    intro lo hi hk h0 h1 p hp q hq hlt h2 h3 h4 h5
    by_cases hle : lo ≤ hi
    · obtain ⟨b1, b2⟩ := best_pref h0 h1 hle
      have hpw := pw_pos (32 - (bestN lo hi : Int))
      have hmm : ∀ m : Int, prefE lo m = 0 → lo + pw (32 - m) - 1 ≤ hi → (bestN lo hi : Int) ≤ m := by
        intro m hm he
        have := best_min (fit_of hm he)
        obtain ⟨_, ⟨g0, _⟩, _⟩ := prefE_zero hm
        omega
      rw [spreadL_yes hle] at hp
      rcases List.mem_cons.1 hp with rfl | hp
      · simp only at hlt h2 h3
        have e : q.1 = lo := by omega
        have := hmm q.2 (e ▸ hq) (by unfold endP at h5; rw [← e]; exact h5)
        omega
      · by_cases hb : lo + pw (32 - (bestN lo hi : Int)) ≤ q.1
        · exact ih _ hi (by omega) (by omega) h1 p hp q hq hlt h2 h3 hb h5
        · have hp1 := (spread_mem k _ hi (by omega) (by omega) h1 p hp).2.1
          unfold endP at h3 h5
          by_cases hm : (bestN lo hi : Int) ≤ q.2
          · have := nest hq b1 hm h4 (by omega)
            omega
          · have hx := nest_at (x := q.1) b1 hq (by omega) h4 (by omega) (Int.le_refl _) (by have := pw_pos (32 - q.2); omega)
            have e : q.1 = lo := by omega
            have := hmm q.2 (e ▸ hq) (by rw [← e]; exact h5)
            omega
    · rw [spreadL_no (by omega)] at hp; cases hp

theorem flat_mem {Q : List (Int × Int)} (hok : OkP Q) {p : Int × Int} (hp : p ∈ flatQ Q) : ∃ q ∈ Q, p ∈ spreadL q.1 q.2 ∧ prefE p.1 p.2 = 0 ∧ q.1 ≤ p.1 ∧ endP p ≤ q.2 := by
  obtain ⟨q, hq, h⟩ := List.mem_flatMap.1 hp
  obtain ⟨h0, h1, h2⟩ := hok q hq
  exact ⟨q, hq, h, spread_mem _ _ _ (Nat.le_refl _) h0 h2 p h⟩
theorem flat_ok {Q : List (Int × Int)} (hok : OkP Q) : AllOk (flatQ Q) := by
  intro p hp
  obtain ⟨_, _, _, h, _⟩ := flat_mem hok hp
  exact h
theorem flat_has {Q : List (Int × Int)} (hok : OkP Q) (x : Int) : HasP (flatQ Q) x ↔ InP Q x := by
  constructor
  · rintro ⟨p, hp, h⟩
    obtain ⟨q, hq, _, _, h1, h2⟩ := flat_mem hok hp
    exact ⟨q, hq, by omega, by omega⟩
  · rintro ⟨q, hq, h⟩
    obtain ⟨h0, h1, h2⟩ := hok q hq
    obtain ⟨p, hp, h3⟩ := (spread_has _ q.1 q.2 x (Nat.le_refl _) h0 h2).2 h
    exact ⟨p, List.mem_flatMap.2 ⟨q, hq, hp⟩, h3⟩
theorem merge_again {ps Q Q' : List (Int × Int)} (h : Mrg ps Q) (h' : Mrg (flatQ Q) Q') : Q' = Q :=
  sorted_unique Q' Q h'.1 h.1 h'.2.1 h.2.1 (fun x => (h'.2.2.1 x).trans (flat_has h.2.1 x))
theorem apart_of {Q : List (Int × Int)} (h : Q.Pairwise (fun p q => p.2 + 1 < q.1)) : ∀ a ∈ Q, ∀ b ∈ Q, a = b ∨ a.2 + 1 < b.1 ∨ b.2 + 1 < a.1 := by
  induction Q with
  | nil => intro a ha; cases ha
  | cons q r ih =>
    rw [List.pairwise_cons] at h
    intro a ha b hb
    rcases List.mem_cons.1 ha with ea | ha' <;> rcases List.mem_cons.1 hb with eb | hb'
    · exact .inl (ea.trans eb.symm)
    · rw [ea]; exact .inr (.inl (h.1 b hb'))
    · rw [eb]; exact .inr (.inr (h.1 a ha'))
    · exact ih h.2 a ha' b hb'
/-- Within each piece of a cover there is a prefix of what was covered. -/
theorem piece_has {ps Q : List (Int × Int)} (hall : AllOk ps) (h : Mrg ps Q) {p : Int × Int} (hp : p ∈ flatQ Q) : ∃ q ∈ ps, p.1 ≤ q.1 ∧ endP q ≤ endP p := by
  obtain ⟨k1, k2, k3, k4⟩ := h
  obtain ⟨s, hs, hps, hpe, h1, h2⟩ := flat_mem k2 hp
  obtain ⟨s0, s1, s2⟩ := k2 s hs
  have hpw := pw_pos (32 - p.2)
  have hin : InP Q p.1 := ⟨s, hs, h1, by unfold endP at h2; omega⟩
  obtain ⟨q, hq, hq1, hq2⟩ := (k3 p.1).1 hin
  have hqe := hall q hq
  have hqw := pw_pos (32 - q.2)
  have inq : ∀ x, q.1 ≤ x → x ≤ endP q → InP Q x := fun x a b => (k3 x).2 ⟨q, hq, a, b⟩
  have hap := apart_of k1 s hs
  have hl : s.1 ≤ q.1 := by
    rcases Int.lt_or_le q.1 s.1 with hlt | hle
    · exfalso
      obtain ⟨t, ht, t1, t2⟩ := inq (s.1 - 1) (by omega) (by omega)
      rcases hap t ht with e | e | e
      · rw [← e] at t1; omega
      · omega
      · omega
    · exact hle
  have hr : endP q ≤ s.2 := by
    rcases Int.lt_or_le s.2 (endP q) with hlt | hle
    · exfalso
      obtain ⟨t, ht, t1, t2⟩ := inq (s.2 + 1) (by unfold endP at h2; omega) (by omega)
      rcases hap t ht with e | e | e
      · rw [← e] at t2; omega
      · omega
      · omega
    · exact hle
  refine ⟨q, hq, ?_⟩
  by_cases hc : q.2 < p.2
  · exact (spread_widest _ s.1 s.2 (Nat.le_refl _) s0 s2 p hps q hqe hc hq1 hq2 hl hr).elim
  · have hx := nest_at (x := p.1) hqe hpe (by omega : p.2 ≤ q.2) hq1 hq2 (Int.le_refl _) (by omega)
    refine ⟨hx.1, ?_⟩
    have := nest hqe hpe (by omega : p.2 ≤ q.2) hx.1 hx.2
    exact this
theorem spread_rise : ∀ (k : Nat) (lo hi : Int), (hi - lo + 1).toNat ≤ k → 0 ≤ lo → hi ≤ 4294967295 → (spreadL lo hi).Pairwise (fun p q => endP p < q.1) := by
  intro k
  induction k with
  | zero =>
    intro lo hi hk h0 h1
    rw [spreadL_no (by omega)]; exact List.Pairwise.nil
  | succ k ih =>
    intro lo hi hk h0 h1
    by_cases hle : lo ≤ hi
    · have hq := pw_pos (32 - (bestN lo hi : Int))
      rw [spreadL_yes hle, List.pairwise_cons]
      refine ⟨fun q hq' => ?_, ih _ hi (by omega) (by omega) h1⟩
      have := (spread_mem k (lo + pw (32 - (bestN lo hi : Int))) hi (by omega) (by omega) h1 q hq').2.1
      unfold endP; simp only; omega
    · rw [spreadL_no (by omega)]; exact List.Pairwise.nil
theorem flat_rise {Q : List (Int × Int)} (hs : Q.Pairwise (fun p q => p.2 + 1 < q.1)) (hok : OkP Q) : (flatQ Q).Pairwise (fun p q => endP p < q.1) := by
  induction Q with
  | nil => exact List.Pairwise.nil
  | cons q r ih =>
    rw [List.pairwise_cons] at hs
    have hr : OkP r := fun p hp => hok p (List.mem_cons_of_mem _ hp)
    obtain ⟨h0, h1, h2⟩ := hok q (List.mem_cons_self ..)
    have e : flatQ (q :: r) = spreadL q.1 q.2 ++ flatQ r := by simp [flatQ]
    rw [e, List.pairwise_append]
    refine ⟨spread_rise _ _ _ (Nat.le_refl _) h0 h2, ih hs.2 hr, fun a ha b hb => ?_⟩
    have := (spread_mem _ _ _ (Nat.le_refl _) h0 h2 a ha).2.2
    obtain ⟨t, ht, _, _, h3, _⟩ := flat_mem hr hb
    have := hs.1 t ht
    omega
theorem pieces_le : ∀ (L ps : List (Int × Int)), L.Pairwise (fun p q => endP p < q.1) → (∀ q ∈ ps, q.1 ≤ endP q) → (∀ p ∈ L, ∃ q ∈ ps, p.1 ≤ q.1 ∧ endP q ≤ endP p) → L.length ≤ ps.length
  | [], ps, _, _, _ => by simp
  | p :: L, ps, hs, hv, h => by
      rw [List.pairwise_cons] at hs
      obtain ⟨q, hq, h1, h2⟩ := h p (List.mem_cons_self ..)
      have hle := pieces_le L (ps.erase q) hs.2 (fun r hr => hv r (List.mem_of_mem_erase hr)) (fun p' hp' => by
        obtain ⟨q', hq', h1', h2'⟩ := h p' (List.mem_cons_of_mem _ hp')
        have a1 := hs.1 p' hp'
        have a2 := hv q hq
        have hne : q' ≠ q := by rintro rfl; omega
        exact ⟨q', (List.mem_erase_of_ne hne).2 hq', h1', h2'⟩)
      have hl := List.length_erase_of_mem hq
      have hp := List.length_pos_of_mem hq
      simp only [List.length_cons]; omega
theorem cover_le {ps Q : List (Int × Int)} (hall : AllOk ps) (h : Mrg ps Q) : (flatQ Q).length ≤ ps.length :=
  pieces_le _ _ (flat_rise h.1 h.2.1) (fun q hq => (end_ok (hall q hq)).2.1) (fun p hp => piece_has hall h hp)

def anyB (ps : List (Int × Int)) (x : Int) : Bool := ps.any fun p => hasB p.1 p.2 x
theorem anyB_iff {ps : List (Int × Int)} (h : AllOk ps) (x : Int) : anyB ps x = true ↔ HasP ps x := by
  unfold anyB HasP
  rw [List.any_eq_true]
  constructor
  · rintro ⟨p, hp, h1⟩
    rw [hasB_eq (h p hp)] at h1
    simp at h1
    exact ⟨p, hp, h1.1, h1.2⟩
  · rintro ⟨p, hp, h1, h2⟩
    refine ⟨p, hp, ?_⟩
    rw [hasB_eq (h p hp)]
    unfold endP at h2
    simp [h1, h2]
theorem any_same {ps Q : List (Int × Int)} (hall : AllOk ps) (h : Mrg ps Q) (x : Int) : anyB ps x = anyB (flatQ Q) x := by
  rw [Bool.eq_iff_iff, anyB_iff hall, anyB_iff (flat_ok h.2.1), flat_has h.2.1, h.2.2.1]
theorem anyB_take (ps : List (Int × Int)) (k : Nat) (x : Int) (p : Int × Int) (h : ps[k]? = some p) : anyB (ps.take (k + 1)) x = (anyB (ps.take k) x || hasB p.1 p.2 x) := by
  unfold anyB
  rw [List.take_add_one, h]; simp
end Go.Proofs.YtkjjalaelehjeabDoor
