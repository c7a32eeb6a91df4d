/- Prefixes as places in a tree of bits: plain facts on numbers and lists. No condition is asked of a program. -/
import Derived.Test.YtdpnmhfhjcebbaaDoorNum
namespace Go.Proofs.YtdpnmhfhjcebbaaDoor
set_option linter.unusedVariables false

/-! ### places: a depth d, and which of 2 ^ d -/
def kq (a : Int) (d : Nat) : Nat := a.toNat / 2 ^ (32 - d)
def ka (d q : Nat) : Int := ((q * 2 ^ (32 - d) : Nat) : Int)
theorem kq_zero {a : Int} (h0 : 0 ≤ a) (h1 : a ≤ 4294967295) : kq a 0 = 0 := by
  unfold kq; exact Nat.div_eq_of_lt (by show a.toNat < 4294967296; omega)
theorem kq_half (a : Int) {d : Nat} (hd : d < 32) : kq a (d + 1) / 2 = kq a d := by
  unfold kq
  rw [Nat.div_div_eq_div_mul, ← Nat.pow_succ]
  congr 2; omega
def kbit (a : Int) (d : Nat) : Nat := kq a (d + 1) % 2
theorem kbit_lt (a : Int) (d : Nat) : kbit a d < 2 := Nat.mod_lt _ (by omega)
theorem kq_succ (a : Int) {d : Nat} (hd : d < 32) : kq a (d + 1) = 2 * kq a d + kbit a d := by
  rw [← kq_half a hd]; unfold kbit; omega
theorem kq_lt {a : Int} (h0 : 0 ≤ a) (h1 : a ≤ 4294967295) {d : Nat} (hd : d ≤ 32) : kq a d < 2 ^ d := by
  unfold kq
  rw [Nat.div_lt_iff_lt_mul (Nat.two_pow_pos _), ← Nat.pow_add]
  have : d + (32 - d) = 32 := by omega
  rw [this]; show a.toNat < 4294967296; omega
theorem kq_up (a : Int) {d e : Nat} (h : e ≤ d) (hd : d ≤ 32) : kq a d / 2 ^ (d - e) = kq a e := by
  unfold kq
  rw [Nat.div_div_eq_div_mul, ← Nat.pow_add]
  congr 2; omega
theorem kq_ka {d q : Nat} : kq (ka d q) d = q := by
  unfold kq ka
  rw [Int.toNat_natCast]; exact Nat.mul_div_cancel _ (Nat.two_pow_pos _)
theorem pw_nat {d : Nat} (hd : d ≤ 32) : pw (32 - (d : Int)) = ((2 ^ (32 - d) : Nat) : Int) := by
  unfold pw
  have : (32 - (d : Int)).toNat = 32 - d := by omega
  rw [this]
theorem ka_kq {a : Int} {d : Nat} (h : prefE a d = 0) : ka d (kq a d) = a := by
  obtain ⟨hA, hL, hm⟩ := prefE_zero h
  rw [pw_nat (by omega)] at hm
  obtain ⟨n, rfl⟩ := Int.eq_ofNat_of_zero_le hA.1
  have hm' : n % 2 ^ (32 - d) = 0 := by exact_mod_cast hm
  unfold ka kq
  rw [Int.toNat_natCast, Nat.div_mul_cancel (Nat.dvd_of_mod_eq_zero hm')]
theorem ka_bounds {d q : Nat} (hd : d ≤ 32) (hq : q < 2 ^ d) : 0 ≤ ka d q ∧ ka d q ≤ 4294967295 := by
  unfold ka
  have h1 : (q + 1) * 2 ^ (32 - d) ≤ 2 ^ d * 2 ^ (32 - d) := Nat.mul_le_mul_right _ hq
  rw [← Nat.pow_add, show d + (32 - d) = 32 by omega, Nat.add_mul] at h1
  have := Nat.two_pow_pos (32 - d)
  have e : (2 : Nat) ^ 32 = 4294967296 := by decide
  omega
theorem ka_good {d q : Nat} (hd : d ≤ 32) (hq : q < 2 ^ d) : prefE (ka d q) d = 0 := by
  obtain ⟨h0, h1⟩ := ka_bounds hd hq
  unfold prefE
  rw [if_pos ⟨isAddr_yes h0 h1, by omega, by omega⟩, if_pos ?_]
  rw [pw_nat hd]; unfold ka
  have : q * 2 ^ (32 - d) % 2 ^ (32 - d) = 0 := Nat.mul_mod_left _ _
  exact_mod_cast this
theorem ka_half {d q : Nat} (hd : d < 32) (i : Nat) : ka (d + 1) (2 * q + i) = ka d q + ((i * 2 ^ (31 - d) : Nat) : Int) := by
  unfold ka
  have e1 : 32 - (d + 1) = 31 - d := by omega
  have e2 : 32 - d = (31 - d) + 1 := by omega
  rw [e1, e2, Nat.pow_succ]
  have : (2 * q + i) * 2 ^ (31 - d) = q * (2 ^ (31 - d) * 2) + i * 2 ^ (31 - d) := by
    rw [Nat.add_mul, Nat.mul_comm 2 q, Nat.mul_assoc, Nat.mul_comm 2 (2 ^ (31 - d))]
  rw [this]; exact Int.natCast_add _ _
/-- A prefix has an address where the address's place at its depth is its own. -/
theorem has_kq {d q : Nat} (hd : d ≤ 32) (hq : q < 2 ^ d) {x : Int} (h0 : 0 ≤ x) (h1 : x ≤ 4294967295) : hasB (ka d q) d x = decide (kq x d = q) := by
  have hg := ka_good hd hq
  unfold hasB
  rw [isAddr_yes h0 h1, pw_nat hd]
  have hp := Nat.two_pow_pos (32 - d)
  rw [decide_eq_decide]
  obtain ⟨n, rfl⟩ := Int.eq_ofNat_of_zero_le h0
  unfold ka kq
  rw [Int.toNat_natCast]
  constructor
  · rintro ⟨_, _, h3, h4⟩
    have k3 : q * 2 ^ (32 - d) ≤ n := by exact_mod_cast h3
    have k4 : n < (q + 1) * 2 ^ (32 - d) := by rw [Nat.add_mul]; omega
    exact Nat.le_antisymm (Nat.le_of_lt_succ ((Nat.div_lt_iff_lt_mul hp).2 k4)) ((Nat.le_div_iff_mul_le hp).2 k3)
  · intro h
    have k3 := (Nat.le_div_iff_mul_le hp).1 (Nat.le_of_eq h.symm)
    have k4 : n < (q + 1) * 2 ^ (32 - d) := (Nat.div_lt_iff_lt_mul hp).1 (by omega)
    rw [Nat.add_mul] at k4
    exact ⟨hg, rfl, by exact_mod_cast k3, by omega⟩

/-! ### pairs -/
structure Pr where
  a : Int
  l : Int
  v : Int
deriving DecidableEq
def zeroR : Pr := ⟨0, 0, 0⟩
abbrev Vf := Nat → Nat → Option Int
def hereL (f : Vf) (d q : Nat) : List Pr := match f d q with | some v => [⟨ka d q, d, v⟩] | none => []
/-- The pairs of a place and of those below it, n deep. -/
def lstL (f : Vf) : Nat → Nat → Nat → List Pr
  | 0, d, q => hereL f d q
  | n + 1, d, q => hereL f d q ++ (lstL f n (d + 1) (2 * q) ++ lstL f n (d + 1) (2 * q + 1))
/-- The pairs on the way to an address, down to a depth. -/
def ovL (f : Vf) (a : Int) (n : Nat) : List Pr := (List.range (n + 1)).flatMap fun d => hereL f d (kq a d)
theorem ovL_zero (f : Vf) (a : Int) : ovL f a 0 = hereL f 0 (kq a 0) := by simp [ovL]
theorem ovL_succ (f : Vf) (a : Int) (n : Nat) : ovL f a (n + 1) = ovL f a n ++ hereL f (n + 1) (kq a (n + 1)) := by
  unfold ovL; rw [List.range_succ, List.flatMap_append]; simp
theorem mem_here {f : Vf} {d q : Nat} {x : Pr} : x ∈ hereL f d q ↔ ∃ v, f d q = some v ∧ x = ⟨ka d q, d, v⟩ := by
  unfold hereL
  rcases f d q with _ | v <;> simp
theorem hereL_len (f : Vf) (d q : Nat) : (hereL f d q).length ≤ 1 := by unfold hereL; rcases f d q with _ | v <;> simp
theorem ovL_len (f : Vf) (a : Int) (n : Nat) : (ovL f a n).length ≤ n + 1 := by
  induction n with
  | zero => rw [ovL_zero]; exact hereL_len _ _ _
  | succ n ih => rw [ovL_succ, List.length_append]; have := hereL_len f (n + 1) (kq a (n + 1)); omega
theorem mem_ovL {f : Vf} {a : Int} {n : Nat} {x : Pr} : x ∈ ovL f a n ↔ ∃ d v, d ≤ n ∧ f d (kq a d) = some v ∧ x = ⟨ka d (kq a d), d, v⟩ := by
  unfold ovL
  simp only [List.mem_flatMap, List.mem_range, mem_here]
  constructor
  · rintro ⟨d, hd, v, h1, h2⟩; exact ⟨d, v, by omega, h1, h2⟩
  · rintro ⟨d, v, hd, h1, h2⟩; exact ⟨d, by omega, v, h1, h2⟩
theorem mem_lstL {f : Vf} {x : Pr} : ∀ {n d q : Nat}, x ∈ lstL f n d q ↔ ∃ e p v, d ≤ e ∧ e ≤ d + n ∧ p / 2 ^ (e - d) = q ∧ f e p = some v ∧ x = ⟨ka e p, e, v⟩
  | 0, d, q => by
    unfold lstL
    rw [mem_here]
    constructor
    · rintro ⟨v, h1, h2⟩; exact ⟨d, q, v, by omega, by omega, by simp, h1, h2⟩
    · rintro ⟨e, p, v, h1, h2, h3, h4, h5⟩
      obtain rfl : e = d := by omega
      simp at h3; subst h3
      exact ⟨v, h4, h5⟩
  | n + 1, d, q => by
    unfold lstL
    rw [List.mem_append, List.mem_append, mem_here, mem_lstL (n := n), mem_lstL (n := n)]
    constructor
    · rintro (⟨v, h1, h2⟩ | ⟨e, p, v, h1, h2, h3, h4, h5⟩ | ⟨e, p, v, h1, h2, h3, h4, h5⟩)
      · exact ⟨d, q, v, by omega, by omega, by simp, h1, h2⟩
      · refine ⟨e, p, v, by omega, by omega, ?_, h4, h5⟩
        have e1 : e - d = (e - (d + 1)) + 1 := by omega
        rw [e1, Nat.pow_succ, ← Nat.div_div_eq_div_mul, h3]; omega
      · refine ⟨e, p, v, by omega, by omega, ?_, h4, h5⟩
        have e1 : e - d = (e - (d + 1)) + 1 := by omega
        rw [e1, Nat.pow_succ, ← Nat.div_div_eq_div_mul, h3]; omega
    · rintro ⟨e, p, v, h1, h2, h3, h4, h5⟩
      by_cases he : e = d
      · subst he; simp at h3; subst h3; exact .inl ⟨v, h4, h5⟩
      · right
        have e1 : e - d = (e - (d + 1)) + 1 := by omega
        rw [e1, Nat.pow_succ, ← Nat.div_div_eq_div_mul] at h3
        rcases (by omega : p / 2 ^ (e - (d + 1)) = 2 * q ∨ p / 2 ^ (e - (d + 1)) = 2 * q + 1) with h | h
        · exact .inl ⟨e, p, v, by omega, by omega, h, h4, h5⟩
        · exact .inr ⟨e, p, v, by omega, by omega, h, h4, h5⟩

/-! ### in order -/
def befP (x y : Pr) : Prop := x.a < y.a ∨ (x.a = y.a ∧ x.l < y.l)
theorem befP.irr {x : Pr} (h : befP x x) : False := by unfold befP at h; omega
theorem befP.trans {x y z : Pr} (h : befP x y) (k : befP y z) : befP x z := by unfold befP at *; omega
theorem befP.asymm {x y : Pr} (h : befP x y) (k : befP y x) : False := (h.trans k).irr
theorem sorted_uniq : ∀ {l m : List Pr}, l.Pairwise befP → m.Pairwise befP → (∀ x, x ∈ l ↔ x ∈ m) → l = m
  | [], [], _, _, _ => rfl
  | [], y :: m, _, _, h => by have := (h y).2 (by simp); simp at this
  | x :: l, [], _, _, h => by have := (h x).1 (by simp); simp at this
  | x :: l, y :: m, hl, hm, h => by
    rw [List.pairwise_cons] at hl hm
    have e : x = y := by
      rcases List.mem_cons.1 ((h x).1 (by simp)) with h1 | h1
      · exact h1
      · rcases List.mem_cons.1 ((h y).2 (by simp)) with h2 | h2
        · exact h2.symm
        · exact ((hm.1 x h1).asymm (hl.1 y h2)).elim
    subst e
    congr 1
    refine sorted_uniq hl.2 hm.2 (fun z => ⟨fun hz => ?_, fun hz => ?_⟩)
    · rcases List.mem_cons.1 ((h z).1 (List.mem_cons_of_mem _ hz)) with h1 | h1
      · subst h1; exact ((hl.1 z hz).irr).elim
      · exact h1
    · rcases List.mem_cons.1 ((h z).2 (List.mem_cons_of_mem _ hz)) with h1 | h1
      · subst h1; exact ((hm.1 z hz).irr).elim
      · exact h1
theorem below_ka {e p d q : Nat} (hde : d ≤ e) (he : e ≤ 32) (hp : p / 2 ^ (e - d) = q) : ka d q ≤ ka e p ∧ ka e p < ka d (q + 1) := by
  unfold ka
  have hp2 := Nat.two_pow_pos (e - d)
  have h1 : q * 2 ^ (e - d) ≤ p := (Nat.le_div_iff_mul_le hp2).1 (Nat.le_of_eq hp.symm)
  have h2 : p < (q + 1) * 2 ^ (e - d) := (Nat.div_lt_iff_lt_mul hp2).1 (by omega)
  have e1 : 2 ^ (32 - d) = 2 ^ (e - d) * 2 ^ (32 - e) := by rw [← Nat.pow_add]; congr 1; omega
  have h3 : q * 2 ^ (32 - d) ≤ p * 2 ^ (32 - e) := by rw [e1, ← Nat.mul_assoc]; exact Nat.mul_le_mul_right _ h1
  have h4 : p * 2 ^ (32 - e) < (q + 1) * 2 ^ (32 - d) := by
    rw [e1, ← Nat.mul_assoc]; exact Nat.mul_lt_mul_of_pos_right h2 (Nat.two_pow_pos _)
  exact ⟨by exact_mod_cast h3, by exact_mod_cast h4⟩
theorem lstL_sorted (f : Vf) : ∀ {n d q : Nat}, d + n ≤ 32 → (lstL f n d q).Pairwise befP
  | 0, d, q, _ => by
    unfold lstL hereL
    rcases f d q with _ | v <;> simp
  | n + 1, d, q, h => by
    unfold lstL
    rw [List.pairwise_append, List.pairwise_append]
    refine ⟨?_, ⟨lstL_sorted f (by omega), lstL_sorted f (by omega), fun x hx y hy => ?_⟩, fun x hx y hy => ?_⟩
    · unfold hereL
      rcases f d q with _ | v <;> simp
    · obtain ⟨e, p, v, h1, h2, h3, h4, rfl⟩ := mem_lstL.1 hx
      obtain ⟨e', p', v', k1, k2, k3, k4, rfl⟩ := mem_lstL.1 hy
      have b1 := below_ka h1 (by omega) h3
      have b2 := below_ka k1 (by omega) k3
      left; show ka e p < ka e' p'
      omega
    · obtain ⟨v, h1, rfl⟩ := mem_here.1 hx
      have hb : ∀ i : Nat, i < 2 → ka d q ≤ ka (d + 1) (2 * q + i) := fun i hi => by rw [ka_half (by omega)]; omega
      rcases List.mem_append.1 hy with hy | hy
      · obtain ⟨e', p', v', k1, k2, k3, k4, rfl⟩ := mem_lstL.1 hy
        have b2 := below_ka k1 (by omega) k3
        have := hb 0 (by omega)
        simp only [Nat.add_zero] at this
        unfold befP; simp only
        omega
      · obtain ⟨e', p', v', k1, k2, k3, k4, rfl⟩ := mem_lstL.1 hy
        have b2 := below_ka k1 (by omega) k3
        have := hb 1 (by omega)
        unfold befP; simp only
        omega
theorem lstL_nil {f : Vf} {n d q : Nat} (h : ∀ e p, d ≤ e → p / 2 ^ (e - d) = q → f e p = none) : lstL f n d q = [] := by
  rw [List.eq_nil_iff_forall_not_mem]
  intro x hx
  obtain ⟨e, p, v, h1, h2, h3, h4, _⟩ := mem_lstL.1 hx
  rw [h e p h1 h3] at h4; cases h4
theorem lstL_congr {f g : Vf} {n d q : Nat} (h : ∀ e p, f e p = g e p) : lstL f n d q = lstL g n d q := by
  have : f = g := funext fun e => funext fun p => h e p
  rw [this]

/-! ### what is put and dropped -/
def setV (f : Vf) (d q : Nat) (o : Option Int) : Vf := fun e p => if e = d ∧ p = q then o else f e p
theorem setV_same (f : Vf) (d q : Nat) (o : Option Int) : setV f d q o d q = o := by simp [setV]
theorem setV_other {f : Vf} {d q : Nat} {o : Option Int} {e p : Nat} (h : ¬ (e = d ∧ p = q)) : setV f d q o e p = f e p := by simp [setV, h]
theorem setV_setV (f : Vf) (d q : Nat) (o o' : Option Int) : setV (setV f d q o) d q o' = setV f d q o' := by
  funext e p; unfold setV; by_cases h : e = d ∧ p = q <;> simp [h]
theorem setV_self {f : Vf} {d q : Nat} {o : Option Int} (h : f d q = o) : setV f d q o = f := by
  funext e p; unfold setV; by_cases h' : e = d ∧ p = q
  · obtain ⟨rfl, rfl⟩ := h'; simp [h]
  · simp [h']
structure Tv where
  f : Vf
  many : Int
def newV : Tv := ⟨fun _ _ => none, 0⟩
def atV (s : Tv) (a l : Int) : Option Int := s.f l.toNat (kq a l.toNat)
def putV (s : Tv) (a l v : Int) : Tv × Bool × Int :=
  if ¬ prefE a l = 0 then (s, false, prefE a l) else
  if atV s a l = none then (if 200 ≤ s.many then (s, false, 4) else (⟨setV s.f l.toNat (kq a l.toNat) (some v), s.many + 1⟩, true, 0))
  else (⟨setV s.f l.toNat (kq a l.toNat) (some v), s.many⟩, false, 0)
def dropV (s : Tv) (a l : Int) : Tv × Bool × Int :=
  if ¬ prefE a l = 0 then (s, false, prefE a l) else
  if atV s a l = none then (s, false, 0) else (⟨setV s.f l.toNat (kq a l.toNat) none, s.many - 1⟩, true, 0)
def findE (s : Tv) (x : Int) : Int := if isAddr x = true then (if ovL s.f x 32 = [] then 5 else 0) else 1
def findV (s : Tv) (x : Int) : Pr := if isAddr x = true then (ovL s.f x 32).getLastD zeroR else zeroR
def allV (s : Tv) : List Pr := lstL s.f 32 0 0
def undV (s : Tv) (a l : Int) : List Pr := lstL s.f (32 - l.toNat) l.toNat (kq a l.toNat)
/-! ### how many -/
def oneO (o : Option Int) : Nat := if o = none then 0 else 1
theorem here_one (f : Vf) (d q : Nat) : (hereL f d q).length = oneO (f d q) := by unfold hereL oneO; rcases f d q with _ | v <;> simp
theorem lstL_set (f : Vf) (e p : Nat) (o : Option Int) : ∀ n d q, e ≤ d + n → (lstL (setV f e p o) n d q).length + (if d ≤ e ∧ p / 2 ^ (e - d) = q then oneO (f e p) else 0) = (lstL f n d q).length + (if d ≤ e ∧ p / 2 ^ (e - d) = q then oneO o else 0)
  | 0, d, q, hn => by
    unfold lstL
    rw [here_one, here_one]
    by_cases h : d = e ∧ q = p
    · obtain ⟨rfl, rfl⟩ := h
      rw [if_pos (by simp), if_pos (by simp), setV_same]; omega
    · have hc : ¬ (d ≤ e ∧ p / 2 ^ (e - d) = q) := by
        rintro ⟨h1, h2⟩
        have : e = d := by omega
        subst this
        simp at h2
        exact h ⟨rfl, h2.symm⟩
      rw [setV_other h, if_neg hc, if_neg hc]
  | n + 1, d, q, hn => by
    unfold lstL
    have i1 := lstL_set f e p o n (d + 1) (2 * q) (by omega)
    have i2 := lstL_set f e p o n (d + 1) (2 * q + 1) (by omega)
    rw [List.length_append, List.length_append, List.length_append, List.length_append, here_one, here_one]
    by_cases h : d = e ∧ q = p
    · obtain ⟨rfl, rfl⟩ := h
      rw [if_neg (by omega), if_neg (by omega)] at i1 i2
      rw [if_pos (by simp), if_pos (by simp), setV_same]
      omega
    · rw [setV_other h]
      by_cases hde : d + 1 ≤ e
      · have e1 : e - d = (e - (d + 1)) + 1 := by omega
        have e2 : p / 2 ^ (e - d) = p / 2 ^ (e - (d + 1)) / 2 := by rw [e1, Nat.pow_succ, ← Nat.div_div_eq_div_mul]
        by_cases h1 : p / 2 ^ (e - (d + 1)) = 2 * q
        · rw [if_pos ⟨hde, h1⟩, if_pos ⟨hde, h1⟩] at i1
          rw [if_neg (by omega), if_neg (by omega)] at i2
          rw [if_pos ⟨by omega, by omega⟩, if_pos ⟨by omega, by omega⟩]; omega
        · by_cases h2 : p / 2 ^ (e - (d + 1)) = 2 * q + 1
          · rw [if_neg (by omega), if_neg (by omega)] at i1
            rw [if_pos ⟨hde, h2⟩, if_pos ⟨hde, h2⟩] at i2
            rw [if_pos ⟨by omega, by omega⟩, if_pos ⟨by omega, by omega⟩]; omega
          · rw [if_neg (by omega), if_neg (by omega)] at i1 i2
            rw [if_neg (by omega), if_neg (by omega)]; omega
      · have hc : ¬ (d ≤ e ∧ p / 2 ^ (e - d) = q) := by
          rintro ⟨h1, h2⟩
          have : e = d := by omega
          subst this
          simp at h2
          exact h ⟨rfl, h2.symm⟩
        rw [if_neg (by omega), if_neg (by omega)] at i1 i2
        rw [if_neg hc, if_neg hc]; omega
theorem allV_set {s : Tv} {e p : Nat} (he : e ≤ 32) (hp : p < 2 ^ e) (o : Option Int) (m : Int) : (allV ⟨setV s.f e p o, m⟩).length + oneO (s.f e p) = (allV s).length + oneO o := by
  have h := lstL_set s.f e p o 32 0 0 (by omega)
  have hc : 0 ≤ e ∧ p / 2 ^ (e - 0) = 0 := ⟨by omega, Nat.div_eq_of_lt (by simpa using hp)⟩
  rw [if_pos hc, if_pos hc] at h
  exact h
/-- A state as it may be: values of places that there are alone; as many as are told. -/
structure OkV (s : Tv) : Prop where
  rng : ∀ d q, s.f d q ≠ none → d ≤ 32 ∧ q < 2 ^ d
  many : s.many = ((allV s).length : Int)
theorem OkV.new : OkV newV := ⟨fun d q h => (h rfl).elim, by
  have : allV newV = [] := lstL_nil (fun _ _ _ _ => rfl)
  rw [this]; rfl⟩
theorem prefE_nat {a l : Int} (h : prefE a l = 0) : ∃ n : Nat, l = n ∧ n ≤ 32 ∧ prefE a n = 0 ∧ kq a n < 2 ^ n := by
  obtain ⟨hA, hL, _⟩ := prefE_zero h
  obtain ⟨n, rfl⟩ := Int.eq_ofNat_of_zero_le hL.1
  exact ⟨n, rfl, by omega, h, kq_lt hA.1 hA.2 (by omega)⟩
theorem OkV.set {s : Tv} (h : OkV s) {a l : Int} (hp : prefE a l = 0) (o : Option Int) {m : Int} (hm : m + (oneO (atV s a l) : Int) = s.many + (oneO o : Int)) : OkV ⟨setV s.f l.toNat (kq a l.toNat) o, m⟩ := by
  unfold atV at hm
  obtain ⟨n, rfl, hn, _, hk⟩ := prefE_nat hp
  rw [Int.toNat_natCast] at hm ⊢
  refine ⟨fun d q hd => ?_, ?_⟩
  · by_cases he : d = n ∧ q = kq a n
    · obtain ⟨rfl, rfl⟩ := he; exact ⟨hn, hk⟩
    · simp only at hd
      rw [setV_other he] at hd
      exact h.rng d q hd
  · have := allV_set (s := s) hn hk o m
    have := h.many
    show m = _
    omega
theorem OkV.put {s : Tv} (h : OkV s) (a l v : Int) : OkV (putV s a l v).1 := by
  unfold putV
  split
  · exact h
  · rename_i hp
    have hp : prefE a l = 0 := Classical.not_not.1 hp
    split
    · rename_i hn
      split
      · exact h
      · exact h.set hp _ (by rw [hn]; simp [oneO])
    · rename_i hn
      exact h.set hp _ (by simp [oneO, hn])
theorem OkV.drop {s : Tv} (h : OkV s) (a l : Int) : OkV (dropV s a l).1 := by
  unfold dropV
  split
  · exact h
  · rename_i hp
    have hp : prefE a l = 0 := Classical.not_not.1 hp
    split
    · exact h
    · rename_i hn
      exact h.set hp _ (by simp [oneO, hn])
theorem mem_all {s : Tv} (h : OkV s) {x : Pr} : x ∈ allV s ↔ ∃ d q v, d ≤ 32 ∧ q < 2 ^ d ∧ s.f d q = some v ∧ x = ⟨ka d q, d, v⟩ := by
  unfold allV
  rw [mem_lstL]
  constructor
  · rintro ⟨e, p, v, _, _, _, h4, h5⟩
    obtain ⟨k1, k2⟩ := h.rng e p (by rw [h4]; simp)
    exact ⟨e, p, v, k1, k2, h4, h5⟩
  · rintro ⟨d, q, v, h1, h2, h3, h4⟩
    exact ⟨d, q, v, by omega, by omega, Nat.div_eq_of_lt (by simpa using h2), h3, h4⟩
theorem all_sorted (s : Tv) : (allV s).Pairwise befP := lstL_sorted s.f (by omega)
end Go.Proofs.YtdpnmhfhjcebbaaDoor
