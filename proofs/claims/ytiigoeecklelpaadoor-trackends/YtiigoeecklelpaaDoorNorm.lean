/- Plain facts: a sum of 16 bits that goes round is told by the plain sum of its words; what a change of one byte does to it. No condition is asked of a program. -/
import Derived.Test.YtiigoeecklelpaaDoorMath
namespace Go.Proofs.YtiigoeecklelpaaDoor
set_option linter.unusedVariables false

def wsum : List Int → Int
  | [] => 0
  | [a] => a * 256
  | a :: b :: r => a * 256 + b + wsum r
def norm (s : Int) : Int := if s = 0 then 0 else (s - 1) % 65535 + 1
def place (j : Nat) : Int := if j % 2 = 0 then 256 else 1

theorem norm_add (t x : Int) (h0 : 0 ≤ t) (h1 : t ≤ 65535) (h2 : 0 ≤ x) (h3 : x ≤ 65535) (s : Int) (hs : 0 ≤ s) : norm (addS t x + s) = norm (t + x + s) := by
  unfold norm addS
  split <;> (repeat' split) <;> omega
theorem norm_self (t : Int) (h0 : 0 ≤ t) (h1 : t ≤ 65535) : norm t = t := by
  unfold norm; split <;> omega
theorem wsum_nonneg : ∀ (l : List Int), (∀ x ∈ l, 0 ≤ x ∧ x ≤ 255) → 0 ≤ wsum l
  | [], _ => by simp [wsum]
  | [a], h => by have := h a (by simp); simp only [wsum]; omega
  | a :: b :: r, h => by
      have ha := h a (by simp)
      have hb := h b (by simp)
      have hr := wsum_nonneg r (fun x hx => h x (by simp [hx]))
      simp only [wsum]; omega
theorem tot_norm : ∀ (l : List Int) (t : Int), (∀ x ∈ l, 0 ≤ x ∧ x ≤ 255) → 0 ≤ t → t ≤ 65535 → tot t l = norm (t + wsum l)
  | [], t, _, h0, h1 => by simp only [tot, wsum, Int.add_zero]; exact (norm_self t h0 h1).symm
  | [a], t, h, h0, h1 => by
      have ha := h a (by simp)
      have hr := addS_range (a := t) (b := a * 256) h0 h1 (by omega) (by omega)
      have e := norm_add t (a * 256) h0 h1 (by omega) (by omega) 0 (by omega)
      simp only [tot, wsum]
      simp only [Int.add_zero] at e
      rw [← e, norm_self _ hr.1 hr.2]
  | a :: b :: r, t, h, h0, h1 => by
      have ha := h a (by simp)
      have hb := h b (by simp)
      have hr : ∀ x ∈ r, 0 ≤ x ∧ x ≤ 255 := fun x hx => h x (by simp [hx])
      have hs := addS_range (a := t) (b := a * 256 + b) h0 h1 (by omega) (by omega)
      have e := norm_add t (a * 256 + b) h0 h1 (by omega) (by omega) (wsum r) (wsum_nonneg r hr)
      simp only [tot, wsum]
      rw [tot_norm r _ hr hs.1 hs.2, e]
      congr 1; omega
theorem wsum_set : ∀ (l : List Int) (j : Nat) (v : Int), j < l.length → wsum (l.set j v) = wsum l + (v - l.getD j 0) * place j
  | [], j, v, h => by simp at h
  | [a], j, v, h => by
      have : j = 0 := by simpa using h
      subst this
      simp [wsum, place, List.getD]; omega
  | a :: b :: r, 0, v, h => by simp [wsum, place, List.getD]; omega
  | a :: b :: r, 1, v, h => by simp [wsum, place, List.getD]; omega
  | a :: b :: r, j + 2, v, h => by
      have hj : j < r.length := by simp at h; omega
      have e := wsum_set r j v hj
      have hp : place (j + 2) = place j := by unfold place; rw [Nat.add_mod_right]
      have hg : (a :: b :: r).getD (j + 2) 0 = r.getD j 0 := by simp [List.getD]
      rw [hg, hp]
      simp only [List.set_cons_succ, wsum]
      rw [e]; omega
theorem byte_set {l : List Int} {j : Nat} {v : Int} (h : ∀ x ∈ l, 0 ≤ x ∧ x ≤ 255) (h0 : 0 ≤ v) (h1 : v ≤ 255) : ∀ x ∈ l.set j v, 0 ≤ x ∧ x ≤ 255 := by
  intro x hx
  rcases List.mem_or_eq_of_mem_set hx with h' | rfl
  · exact h x h'
  · exact ⟨h0, h1⟩
theorem getD_set_ne {l : List Int} {i j : Nat} {v : Int} (h : i ≠ j) : (l.set i v).getD j 0 = l.getD j 0 := by
  simp [List.getD, List.getElem?_set_ne h]
theorem getD_set_self {l : List Int} {i : Nat} {v : Int} (h : i < l.length) : (l.set i v).getD i 0 = v := by
  simp [List.getD, h]

/-- With its sum in its place it is valid. -/
theorem valid_sum {s n : Int} (hs : 0 ≤ s) (hn : n = 65535 - norm s) : norm (s + n) = 65535 := by
  subst hn; unfold norm; split <;> (repeat' split) <;> omega
theorem sum_range {s : Int} (hs : 0 ≤ s) : 0 ≤ 65535 - norm s ∧ 65535 - norm s ≤ 65535 := by
  unfold norm; split <;> omega
/-- A change that is no multiple of 65535 spoils it. -/
theorem spoilt {s d : Int} (h0 : norm s = 65535) (hd : ¬ d = 0) (h1 : -65535 < d) (h2 : d < 65535) (hs : 0 ≤ s + d) : norm (s + d) ≠ 65535 := by
  unfold norm at *
  split at h0 <;> split <;> omega
/-- Brought up to date it is valid again, or all is 0. -/
theorem mended {s n old now d : Int} (hs : 0 ≤ s) (hn : n = 65535 - norm s) (hd : d = now - old) (ho : 0 ≤ old) (ho' : old ≤ 65535) (hw : 0 ≤ now) (hw' : now ≤ 65535) (hsd : 0 ≤ s + d) :
    norm (s + d + (65535 - addS (addS (65535 - n) (65535 - old)) now)) = 65535 ∨
    (65535 - addS (addS (65535 - n) (65535 - old)) now = 0 ∧ norm (s + d + (65535 - addS (addS (65535 - n) (65535 - old)) now)) = 0) := by
  subst hn hd
  unfold norm addS
  repeat' split
  all_goals omega
/-- Two words that change their places. -/
theorem wsum_swap (l : List Int) (i k : Nat) (hi : 2 * i + 1 < l.length) (hk : 2 * k + 1 < l.length) :
    wsum ((((l.set (2 * i) (l.getD (2 * k) 0)).set (2 * i + 1) (l.getD (2 * k + 1) 0)).set (2 * k) (l.getD (2 * i) 0)).set (2 * k + 1) (l.getD (2 * i + 1) 0)) = wsum l := by
  have p0 : place (2 * i) = 256 := by unfold place; rw [if_pos (by omega)]
  have p1 : place (2 * i + 1) = 1 := by unfold place; rw [if_neg (by omega)]
  have p2 : place (2 * k) = 256 := by unfold place; rw [if_pos (by omega)]
  have p3 : place (2 * k + 1) = 1 := by unfold place; rw [if_neg (by omega)]
  rw [wsum_set _ _ _ (by simp; omega), wsum_set _ _ _ (by simp; omega), wsum_set _ _ _ (by simp; omega), wsum_set _ _ _ (by omega), p0, p1, p2, p3]
  rw [getD_set_ne (by omega : 2 * k ≠ 2 * k + 1), getD_set_ne (by omega : 2 * i ≠ 2 * i + 1), getD_set_ne (by omega : 2 * i + 1 ≠ 2 * k)]
  by_cases h : i = k
  · subst h
    rw [getD_set_self (by omega), getD_set_self (by simp; omega)]
    omega
  · rw [getD_set_ne (by omega : 2 * i + 1 ≠ 2 * k + 1), getD_set_ne (by omega : 2 * i ≠ 2 * k + 1), getD_set_ne (by omega : 2 * i ≠ 2 * k)]
    omega
theorem wsum_head (n : Int) (bs : List Int) : wsum (n / 256 :: n % 256 :: bs) = wsum bs + n := by
  simp only [wsum]; omega
theorem wsum_changed (bs : List Int) (p : Nat) (n tb : Int) (hp : p < bs.length) :
    wsum ((n / 256 :: n % 256 :: bs).set (p + 2) tb) = wsum bs + n + (tb - bs.getD p 0) * place p := by
  have hpl : place (p + 2) = place p := by unfold place; rw [Nat.add_mod_right]
  have hg : (n / 256 :: n % 256 :: bs).getD (p + 2) 0 = bs.getD p 0 := by simp [List.getD]
  rw [wsum_set _ _ _ (by simp; omega), wsum_head, hg, hpl]
theorem place_cases (p : Nat) : place p = 256 ∨ place p = 1 := by unfold place; split <;> simp
/-- One byte that changes makes it not so. -/
theorem spoilt_byte (bs : List Int) (p : Nat) (n tb : Int) (hby : ∀ x ∈ bs, 0 ≤ x ∧ x ≤ 255) (hp : p < bs.length) (hn : n = 65535 - norm (wsum bs)) (ht : 0 ≤ tb ∧ tb ≤ 255) (hne : ¬ bs.getD p 0 = tb)
    (hx : ∀ x ∈ (n / 256 :: n % 256 :: bs).set (p + 2) tb, 0 ≤ x ∧ x ≤ 255) : (tot 0 ((n / 256 :: n % 256 :: bs).set (p + 2) tb) == 65535) = false := by
  have h0 := wsum_nonneg bs hby
  have hb := getD_byte hp hby
  have e := valid_sum h0 hn
  have hnn := wsum_nonneg _ hx
  rw [wsum_changed bs p n tb hp] at hnn
  rw [tot_norm _ 0 hx (by omega) (by omega), wsum_changed bs p n tb hp, Int.zero_add]
  have := spoilt (d := (tb - bs.getD p 0) * place p) e (by rcases place_cases p with h | h <;> rw [h] <;> omega) (by rcases place_cases p with h | h <;> rw [h] <;> omega) (by rcases place_cases p with h | h <;> rw [h] <;> omega) hnn
  simpa using this
/-- Changed, with the sum brought up to date, it is valid again, or all of it is 0. -/
theorem mended_byte (bs : List Int) (p : Nat) (n tb old now m : Int) (hby : ∀ x ∈ bs, 0 ≤ x ∧ x ≤ 255) (hp : p < bs.length) (hn : n = 65535 - norm (wsum bs)) (ht : 0 ≤ tb ∧ tb ≤ 255)
    (ho : 0 ≤ old ∧ old ≤ 65535) (hw : 0 ≤ now ∧ now ≤ 65535) (hd : now - old = (tb - bs.getD p 0) * place p) (hm : m = 65535 - addS (addS (65535 - n) (65535 - old)) now)
    (hx : ∀ x ∈ (((n / 256 :: n % 256 :: bs).set (p + 2) tb).set 0 (m / 256)).set 1 (m % 256), 0 ≤ x ∧ x ≤ 255) :
    tot 0 ((((n / 256 :: n % 256 :: bs).set (p + 2) tb).set 0 (m / 256)).set 1 (m % 256)) = 65535 ∨ (m = 0 ∧ tot 0 ((((n / 256 :: n % 256 :: bs).set (p + 2) tb).set 0 (m / 256)).set 1 (m % 256)) = 0) := by
  have h0 := wsum_nonneg bs hby
  have hnn : 0 ≤ wsum bs + (now - old) := by
    have := wsum_nonneg _ (byte_set (j := p) hby ht.1 ht.2)
    rw [wsum_set _ _ _ hp] at this; rw [hd]; exact this
  have e : wsum ((((n / 256 :: n % 256 :: bs).set (p + 2) tb).set 0 (m / 256)).set 1 (m % 256)) = wsum bs + (now - old) + m := by
    rw [wsum_set _ _ _ (by simp), wsum_set _ _ _ (by simp), wsum_changed bs p n tb hp, hd]
    have g0 : ((n / 256 :: n % 256 :: bs).set (p + 2) tb).getD 0 0 = n / 256 := by simp [List.getD]
    have g1 : (((n / 256 :: n % 256 :: bs).set (p + 2) tb).set 0 (m / 256)).getD 1 0 = n % 256 := by simp [List.getD]
    rw [g0, g1]
    have q0 : place 0 = 256 := rfl
    have q1 : place 1 = 1 := rfl
    rw [q0, q1]
    omega
  rw [tot_norm _ 0 hx (by omega) (by omega), e, Int.zero_add, hm]
  exact mended h0 hn rfl ho.1 ho.2 hw.1 hw.2 hnn
end Go.Proofs.YtiigoeecklelpaaDoor
