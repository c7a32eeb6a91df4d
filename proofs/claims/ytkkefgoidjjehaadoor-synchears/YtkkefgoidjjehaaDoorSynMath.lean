/- Notes: plain facts on numbers and lists. What is wrong with a note, its numbers, its bytes, the note that bytes begin with: what is written is read as it was, cut off it is short; no condition is asked of a program. -/
import Derived.Test.YtkkefgoidjjehaaDoorMgA
namespace Go.Proofs.YtkkefgoidjjehaaDoor
set_option linter.unusedVariables false

/-- A note. -/
structure Nt where
  what : Int
  seq : Int
  fl : Fl
def zeroN : Nt := { what := 0, seq := 0, fl := zeroF }
def eqF (p q : Fl) : Bool := decide (p.key.kind = q.key.kind ∧ p.key.src = q.key.src ∧ p.key.frm = q.key.frm ∧ p.key.dst = q.key.dst ∧ p.key.too = q.key.too ∧ p.st = q.st ∧ p.unt = q.unt ∧ p.stp = q.stp ∧ p.h0 = q.h0 ∧ p.h1 = q.h1 ∧ p.w0 = q.w0 ∧ p.w1 = q.w1 ∧ p.d0 = q.d0 ∧ p.d1 = q.d1 ∧ p.num = q.num)
theorem eqF_of {p q : Fl} (h : eqF p q = true) : p = q := by
  obtain ⟨⟨a0, a1, a2, a3, a4⟩, a5, a6, a7, a8, a9, a10, a11, a12, a13, a14⟩ := p
  obtain ⟨⟨b0, b1, b2, b3, b4⟩, b5, b6, b7, b8, b9, b10, b11, b12, b13, b14⟩ := q
  simp only [eqF, decide_eq_true_eq] at h
  obtain ⟨rfl, rfl, rfl, rfl, rfl, rfl, rfl, rfl, rfl, rfl, rfl, rfl, rfl, rfl, rfl⟩ := h
  rfl
theorem eqF_self (p : Fl) : eqF p p = true := by simp [eqF]
def manyN (t : Int) : Nat := if t = 1 then 16 else if t = 2 then 7 else if t = 3 ∨ t = 4 ∨ t = 5 then 2 else 0
def keyF (k : Ky) : Fl := { zeroF with key := k, st := 1, stp := 1 }
def bareF (k : Ky) : Fl := { zeroF with key := k }
/-- What is wrong with a note. -/
def ntE (n : Nt) : Int :=
  if manyN n.what = 0 ∨ n.seq < 0 ∨ 1000000 < n.seq then 1
  else if n.what = 1 then chkE n.fl
  else if n.what = 2 then (if ¬ chkE (keyF n.fl.key) = 0 then chkE (keyF n.fl.key) else if eqF n.fl (bareF n.fl.key) = true then 0 else 3)
  else if eqF n.fl zeroF = true then 0 else 3
def dnI (f : Fl) : Int := (if f.d0 = true then 1 else 0) + (if f.d1 = true then 2 else 0)
def allN (n : Nt) : List Int := [n.what, n.seq, n.fl.key.kind, n.fl.key.src, n.fl.key.frm, n.fl.key.dst, n.fl.key.too, n.fl.st, n.fl.unt, n.fl.stp, n.fl.h0, n.fl.h1, n.fl.w0, n.fl.w1, dnI n.fl, n.fl.num]
def numsN (n : Nt) : List Int := (allN n).take (manyN n.what)
def zigI (n : Int) : Int := if n < 0 then -2 * n - 1 else 2 * n
/-- The bytes of a number. -/
def wrG : Nat → Int → List Int
  | 0, z => [z]
  | f + 1, z => if z < 128 then [z] else (z % 128 + 128) :: wrG f (z / 128)
def wrL (n : Int) : List Int := wrG 9 (zigI n)
def flatW : List Int → List Int
  | [] => []
  | n :: l => wrL n ++ flatW l
def encN (n : Nt) : List Int := flatW (numsN n)
def sgnI (z : Int) : Int := if z % 2 = 1 then -(z / 2) - 1 else z / 2
/-- The number that bytes begin with: what is wrong, it, how many they are. -/
def rdG : Int → Nat → List Int → Int × Int × Nat
  | z, i, [] => (8, 0, 0)
  | z, i, c :: l => if (i = 9 ∧ 1 < c) ∨ (0 < i ∧ c = 0) then (2, 0, 0) else
      if c < 128 then (0, sgnI (z + c % 128 * 128 ^ i), i + 1) else rdG (z + c % 128 * 128 ^ i) (i + 1) l
def rdL (b : List Int) : Int × Int × Nat := rdG 0 0 b
def psI : Nat → List Int → Nat → List Int → Int × List Int × Nat
  | 0, acc, used, b => (0, acc, used)
  | m + 1, acc, used, b => if ¬ (rdL (b.drop used)).1 = 0 then ((rdL (b.drop used)).1, [], 0) else psI m (acc ++ [(rdL (b.drop used)).2.1]) (used + (rdL (b.drop used)).2.2) b
def parL (b : List Int) : Int × List Int × Nat :=
  if ¬ (rdL b).1 = 0 then ((rdL b).1, [], 0) else if manyN (rdL b).2.1 = 0 then (2, [], 0) else psI (manyN (rdL b).2.1 - 1) [(rdL b).2.1] (rdL b).2.2 b
def noteL (l : List Int) : Nt :=
  { what := l.getD 0 0, seq := l.getD 1 0, fl := { key := { kind := l.getD 2 0, src := l.getD 3 0, frm := l.getD 4 0, dst := l.getD 5 0, too := l.getD 6 0 }, st := l.getD 7 0, unt := l.getD 8 0, stp := l.getD 9 0, h0 := l.getD 10 0, h1 := l.getD 11 0, w0 := l.getD 12 0, w1 := l.getD 13 0, d0 := decide (l.getD 14 0 % 2 = 1), d1 := decide (l.getD 14 0 / 2 % 2 = 1), num := l.getD 15 0 } }
/-- The note that bytes begin with: what is wrong, it, how many they are. -/
def readR (b : List Int) : Int × Nt × Nat :=
  if ¬ (parL b).1 = 0 then ((parL b).1, zeroN, 0) else
  if ntE (noteL (parL b).2.1) = 0 ∧ encN (noteL (parL b).2.1) = b.take (parL b).2.2 then (0, noteL (parL b).2.1, (parL b).2.2) else (2, zeroN, 0)

theorem sgn_zig (n : Int) : sgnI (zigI n) = n := by
  unfold sgnI zigI; split <;> split <;> omega
theorem zig_range {n : Int} (h0 : -9223372036854775808 ≤ n) (h1 : n < 9223372036854775808) : 0 ≤ zigI n ∧ zigI n < 18446744073709551616 := by
  unfold zigI; split <;> omega
theorem pow128_succ (i : Nat) : (128 : Int) ^ (i + 1) = 128 * 128 ^ i := by rw [Int.pow_succ, Int.mul_comm]
theorem split128 (z0 z p : Int) : z0 + z % 128 * p + z / 128 * (128 * p) = z0 + z * p := by
  have h : z = 128 * (z / 128) + z % 128 := by omega
  have e : z * p = (128 * (z / 128) + z % 128) * p := by rw [← h]
  rw [e, Int.add_mul]
  have e2 : z / 128 * (128 * p) = 128 * (z / 128) * p := by rw [← Int.mul_assoc, Int.mul_comm (z / 128) 128]
  omega
theorem two7 (f : Nat) : (2 : Int) ^ (7 * (f + 1) + 1) = 128 * 2 ^ (7 * f + 1) := by
  rw [show 7 * (f + 1) + 1 = (7 * f + 1) + 7 by omega, Int.pow_add, Int.mul_comm]; rfl
theorem rd_wr : ∀ (f : Nat) (z z0 : Int) (i : Nat) (l : List Int), f + i = 9 → 0 ≤ z → z < 2 ^ (7 * f + 1) → (i = 0 ∨ 0 < z) →
    rdG z0 i (wrG f z ++ l) = (0, sgnI (z0 + z * 128 ^ i), i + (wrG f z).length)
  | 0, z, z0, i, l, hf, h0, h1, hi => by
    have hz : z < 2 := by simpa using h1
    have h9 : i = 9 := by omega
    subst h9
    have hp : 0 < z := by omega
    simp only [wrG, List.cons_append, List.nil_append, rdG, List.length_cons, List.length_nil]
    rw [if_neg (by omega), if_pos (by omega), show z % 128 = z by omega]
  | f + 1, z, z0, i, l, hf, h0, h1, hi => by
    rw [two7] at h1
    simp only [wrG]
    split
    · rename_i hz
      simp only [List.cons_append, List.nil_append, rdG, List.length_cons, List.length_nil]
      rw [if_neg (by omega), if_pos hz, show z % 128 = z by omega]
    · rename_i hz
      simp only [List.cons_append, rdG, List.length_cons]
      rw [if_neg (by omega), if_neg (by omega), show (z % 128 + 128) % 128 = z % 128 by omega, rd_wr f (z / 128) _ (i + 1) l (by omega) (by omega) (by omega) (by omega), pow128_succ, split128]
      congr 2; omega
theorem rd_cut : ∀ (f : Nat) (z z0 : Int) (i c : Nat), f + i = 9 → 0 ≤ z → z < 2 ^ (7 * f + 1) → (i = 0 ∨ 0 < z) → c < (wrG f z).length →
    rdG z0 i ((wrG f z).take c) = (8, 0, 0)
  | f, z, z0, i, 0, hf, h0, h1, hi, hc => by simp [rdG]
  | 0, z, z0, i, c + 1, hf, h0, h1, hi, hc => by simp [wrG] at hc
  | f + 1, z, z0, i, c + 1, hf, h0, h1, hi, hc => by
    rw [two7] at h1
    simp only [wrG] at hc ⊢
    split
    · rename_i hz; rw [if_pos hz] at hc; simp at hc
    · rename_i hz
      rw [if_neg hz] at hc
      simp only [List.length_cons] at hc
      simp only [List.take_succ_cons, rdG]
      rw [if_neg (by omega), if_neg (by omega), show (z % 128 + 128) % 128 = z % 128 by omega]
      exact rd_cut f (z / 128) _ (i + 1) c (by omega) (by omega) (by omega) (by omega) (by omega)
def Fit (n : Int) : Prop := -9223372036854775808 ≤ n ∧ n < 9223372036854775808
theorem rdL_wr {n : Int} (h : Fit n) (l : List Int) : rdL (wrL n ++ l) = (0, n, (wrL n).length) := by
  have hz := zig_range h.1 h.2
  have e := rd_wr 9 (zigI n) 0 0 l rfl hz.1 hz.2 (.inl rfl)
  unfold rdL wrL
  rw [e]
  simp [sgn_zig]
theorem rdL_cut {n : Int} (h : Fit n) (c : Nat) (hc : c < (wrL n).length) : rdL ((wrL n).take c) = (8, 0, 0) :=
  rd_cut 9 (zigI n) 0 0 c rfl (zig_range h.1 h.2).1 (zig_range h.1 h.2).2 (.inl rfl) hc
theorem psI_flat : ∀ (ns acc pre rest : List Int), (∀ x ∈ ns, Fit x) → psI ns.length acc pre.length (pre ++ (flatW ns ++ rest)) = (0, acc ++ ns, pre.length + (flatW ns).length)
  | [], acc, pre, rest, h => by simp [psI, flatW]
  | n :: ns, acc, pre, rest, h => by
    have hn := h n (List.mem_cons_self)
    have ih := psI_flat ns (acc ++ [n]) (pre ++ wrL n) rest (fun x hx => h x (List.mem_cons_of_mem _ hx))
    have e : rdL ((pre ++ (flatW (n :: ns) ++ rest)).drop pre.length) = (0, n, (wrL n).length) := by
      rw [List.drop_left]; simp only [flatW, List.append_assoc]; exact rdL_wr hn _
    simp only [List.length_cons, psI]
    rw [e]
    simp only [not_true_eq_false, if_false]
    simp only [flatW, List.append_assoc, List.length_append] at ih ⊢
    rw [ih]
    simp [Nat.add_assoc]
theorem psI_cut : ∀ (ns acc pre : List Int) (c : Nat), (∀ x ∈ ns, Fit x) → c < (flatW ns).length → psI ns.length acc pre.length (pre ++ (flatW ns).take c) = (8, [], 0)
  | [], acc, pre, c, h, hc => by simp [flatW] at hc
  | n :: ns, acc, pre, c, h, hc => by
    have hn := h n (List.mem_cons_self)
    simp only [flatW, List.length_append] at hc
    rw [show flatW (n :: ns) = wrL n ++ flatW ns from rfl]
    rcases Nat.lt_or_ge c (wrL n).length with h1 | h1
    · rw [List.take_append_of_le_length (by omega)]
      have e : rdL ((pre ++ (wrL n).take c).drop pre.length) = (8, 0, 0) := by rw [List.drop_left]; exact rdL_cut hn c h1
      simp only [List.length_cons, psI]
      rw [e]; simp
    · have e : (wrL n ++ flatW ns).take c = wrL n ++ (flatW ns).take (c - (wrL n).length) := by
        rw [List.take_append, List.take_of_length_le h1]
      rw [e]
      have e2 : rdL ((pre ++ (wrL n ++ (flatW ns).take (c - (wrL n).length))).drop pre.length) = (0, n, (wrL n).length) := by rw [List.drop_left]; exact rdL_wr hn _
      simp only [List.length_cons, psI]
      rw [e2]
      simp only [not_true_eq_false, if_false]
      have ih := psI_cut ns (acc ++ [n]) (pre ++ wrL n) (c - (wrL n).length) (fun x hx => h x (List.mem_cons_of_mem _ hx)) (by omega)
      rw [List.append_assoc, List.length_append] at ih
      exact ih
theorem key_fit {k : Ky} (h : kyB k = true) : Fit k.kind ∧ Fit k.src ∧ Fit k.frm ∧ Fit k.dst ∧ Fit k.too := by
  obtain ⟨a, b, c, d, e⟩ := kyB_of h
  unfold Fit; omega
theorem life_st {k s : Int} (h : ¬ lifeI k s = 0) : 1 ≤ s ∧ s ≤ 4 := by
  unfold lifeI at h
  omega
theorem ntE_ok {n : Nt} (h : ntE n = 0) : ¬ manyN n.what = 0 ∧ (0 ≤ n.seq ∧ n.seq ≤ 1000000) ∧ (n.what = 1 → chkE n.fl = 0) ∧ (n.what = 2 → chkE (keyF n.fl.key) = 0 ∧ n.fl = bareF n.fl.key) ∧ (¬ n.what = 1 → ¬ n.what = 2 → n.fl = zeroF) := by
  unfold ntE at h
  split at h
  · simp at h
  · rename_i h0
    refine ⟨fun e => h0 (.inl e), by omega, ?_, ?_, ?_⟩
    · intro h1; rw [if_pos h1] at h; exact h
    · intro h2
      rw [if_neg (by omega), if_pos h2] at h
      split at h
      · contradiction
      · rename_i h3
        split at h
        · rename_i h4; exact ⟨by simpa using h3, eqF_of h4⟩
        · simp at h
    · intro h1 h2
      rw [if_neg h1, if_neg h2] at h
      split at h
      · rename_i h4; exact eqF_of h4
      · simp at h
theorem many_cases {t : Int} (h : ¬ manyN t = 0) : t = 1 ∨ t = 2 ∨ t = 3 ∨ t = 4 ∨ t = 5 := by
  by_cases h1 : t = 1
  · exact .inl h1
  by_cases h2 : t = 2
  · exact .inr (.inl h2)
  by_cases h3 : t = 3 ∨ t = 4 ∨ t = 5
  · exact .inr (.inr h3)
  · exact absurd (by simp only [manyN, if_neg h1, if_neg h2, if_neg h3]) h
theorem nums_fit {n : Nt} (h : ntE n = 0) : ∀ x ∈ numsN n, Fit x := by
  obtain ⟨h0, hs, h1, h2, h3⟩ := ntE_ok h
  have hsq : Fit n.seq := by unfold Fit; omega
  rcases many_cases h0 with hw | hw | hw
  · obtain ⟨hk, hf, _, _⟩ := chkE_ok (h1 hw)
    obtain ⟨k0, k1, k2, k3, k4⟩ := key_fit hk
    obtain ⟨f0, ⟨⟨f1, f2⟩, f3, f4⟩, ⟨⟨f5, f6⟩, f7, f8⟩, ⟨f9, f10⟩, ⟨f11, f12⟩, f13, f14⟩ := fiB_of hf
    have hst := life_st f0
    have hd : Fit (dnI n.fl) := by unfold Fit dnI; split <;> split <;> omega
    intro x hx
    simp only [numsN, manyN, hw, if_pos, allN, List.take_succ_cons, List.take_zero, List.mem_cons, List.not_mem_nil, or_false] at hx
    rcases hx with rfl | rfl | rfl | rfl | rfl | rfl | rfl | rfl | rfl | rfl | rfl | rfl | rfl | rfl | rfl | rfl
    all_goals first | assumption | (unfold Fit; omega)
  · obtain ⟨hk, _⟩ := chkE_ok (h2 hw).1
    obtain ⟨k0, k1, k2, k3, k4⟩ := key_fit hk
    intro x hx
    have e : manyN n.what = 7 := by rw [hw]; rfl
    simp only [numsN, e, allN, List.take_succ_cons, List.take_zero, List.mem_cons, List.not_mem_nil, or_false] at hx
    rcases hx with rfl | rfl | rfl | rfl | rfl | rfl | rfl
    all_goals first | assumption | (unfold Fit; omega)
  · have e : manyN n.what = 2 := by rcases hw with hw | hw | hw <;> rw [hw] <;> rfl
    intro x hx
    simp only [numsN, e, allN, List.take_succ_cons, List.take_zero, List.mem_cons, List.not_mem_nil, or_false] at hx
    rcases hx with rfl | rfl
    · unfold Fit; omega
    · exact hsq
theorem note_nums {n : Nt} (h : ntE n = 0) : noteL (numsN n) = n := by
  obtain ⟨h0, hs, h1, h2, h3⟩ := ntE_ok h
  obtain ⟨w, s, ⟨k, a, b, c, d, e, f, g, i, j, l⟩⟩ := n
  rcases many_cases h0 with hw | hw | hw
  · simp only at hw
    subst hw
    cases i <;> cases j <;> simp [numsN, manyN, allN, noteL, dnI]
  · simp only at hw
    subst hw
    have e2 := (h2 rfl).2
    simp only [bareF, zeroF, Fl.mk.injEq] at e2
    obtain ⟨_, rfl, rfl, rfl, rfl, rfl, rfl, rfl, rfl, rfl, rfl⟩ := e2
    simp [numsN, manyN, allN, noteL]
  · simp only at hw h3
    have e3 := h3 (by omega) (by omega)
    simp only [zeroF, Fl.mk.injEq] at e3
    obtain ⟨rfl, rfl, rfl, rfl, rfl, rfl, rfl, rfl, rfl, rfl, rfl⟩ := e3
    have e : manyN w = 2 := by rcases hw with rfl | rfl | rfl <;> rfl
    simp [numsN, e, allN, noteL, zeroY]
theorem nums_len (n : Nt) : (numsN n).length = manyN n.what := by
  have : manyN n.what ≤ 16 := by unfold manyN; split <;> (try split) <;> (try split) <;> omega
  simp [numsN, allN]; omega
theorem nums_head {n : Nt} (h : ¬ manyN n.what = 0) : ∃ l, numsN n = n.what :: l ∧ l.length = manyN n.what - 1 := by
  have hl := nums_len n
  cases hn : numsN n with
  | nil => rw [hn] at hl; simp at hl; omega
  | cons x l =>
    rw [hn] at hl
    refine ⟨l, ?_, by simp at hl; omega⟩
    have : (numsN n)[0]? = some n.what := by
      unfold numsN allN
      rcases many_cases h with hw | hw | hw | hw | hw <;> simp [manyN, hw]
    rw [hn] at this
    simp at this
    rw [this]
theorem par_enc {n : Nt} (h : ntE n = 0) (b : List Int) : parL (encN n ++ b) = (0, numsN n, (encN n).length) := by
  have h0 := (ntE_ok h).1
  have hf := nums_fit h
  obtain ⟨l, hl, hl1⟩ := nums_head h0
  unfold encN at *
  rw [hl] at hf ⊢
  have hw := hf n.what (List.mem_cons_self)
  have e : rdL (flatW (n.what :: l) ++ b) = (0, n.what, (wrL n.what).length) := by
    simp only [flatW, List.append_assoc]; exact rdL_wr hw _
  unfold parL
  rw [e]
  simp only [not_true_eq_false, if_false]
  rw [if_neg h0, ← hl1]
  have p := psI_flat l [n.what] (wrL n.what) b (fun x hx => hf x (List.mem_cons_of_mem _ hx))
  simp only [flatW, List.append_assoc] at p ⊢
  rw [p]
  simp
theorem par_cut {n : Nt} (h : ntE n = 0) (c : Nat) (hc : c < (encN n).length) : parL ((encN n).take c) = (8, [], 0) := by
  have h0 := (ntE_ok h).1
  have hf := nums_fit h
  obtain ⟨l, hl, hl1⟩ := nums_head h0
  unfold encN at *
  rw [hl] at hf hc ⊢
  have hw := hf n.what (List.mem_cons_self)
  simp only [flatW, List.length_append] at hc ⊢
  unfold parL
  rcases Nat.lt_or_ge c (wrL n.what).length with h1 | h1
  · rw [List.take_append_of_le_length (by omega), rdL_cut hw c h1]
    simp
  · have e : (wrL n.what ++ flatW l).take c = wrL n.what ++ (flatW l).take (c - (wrL n.what).length) := by
      rw [List.take_append, List.take_of_length_le h1]
    rw [e, rdL_wr hw]
    simp only [not_true_eq_false, if_false]
    rw [if_neg h0, ← hl1]
    exact psI_cut l [n.what] (wrL n.what) _ (fun x hx => hf x (List.mem_cons_of_mem _ hx)) (by omega)
theorem read_enc {n : Nt} (h : ntE n = 0) (b : List Int) : readR (encN n ++ b) = (0, n, (encN n).length) := by
  unfold readR
  rw [par_enc h b]
  simp only [not_true_eq_false, if_false]
  rw [note_nums h, if_pos ⟨h, by simp⟩]
theorem read_cut {n : Nt} (h : ntE n = 0) (c : Nat) (hc : c < (encN n).length) : readR ((encN n).take c) = (8, zeroN, 0) := by
  unfold readR
  rw [par_cut h c hc]
  simp
theorem read_ok {b : List Int} (h : (readR b).1 = 0) : ntE (readR b).2.1 = 0 ∧ encN (readR b).2.1 = b.take (readR b).2.2 := by
  unfold readR at h ⊢
  split at h
  · contradiction
  · rename_i h1
    split at h
    · rename_i h2
      rw [if_neg h1, if_pos h2]; exact h2
    · simp at h
theorem wrG_byte : ∀ (f : Nat) (z : Int), 0 ≤ z → z < 2 ^ (7 * f + 1) → ∀ x ∈ wrG f z, 0 ≤ x ∧ x ≤ 255
  | 0, z, h0, h1, x, hx => by
    have hz : z < 2 := by simpa using h1
    simp [wrG] at hx; omega
  | f + 1, z, h0, h1, x, hx => by
    rw [two7] at h1
    simp only [wrG] at hx
    split at hx
    · simp at hx; omega
    · rcases List.mem_cons.1 hx with rfl | hx
      · omega
      · exact wrG_byte f (z / 128) (by omega) (by omega) x hx
theorem wrG_len : ∀ (f : Nat) (z : Int), (wrG f z).length ≤ f + 1
  | 0, z => by simp [wrG]
  | f + 1, z => by
    simp only [wrG]; split
    · simp
    · simp only [List.length_cons]; have := wrG_len f (z / 128); omega
theorem wrL_len (n : Int) : (wrL n).length ≤ 10 := wrG_len 9 _
theorem flatW_len : ∀ (l : List Int), (flatW l).length ≤ 10 * l.length
  | [] => by simp [flatW]
  | n :: l => by simp only [flatW, List.length_append, List.length_cons]; have := flatW_len l; have := wrL_len n; omega
theorem flatW_app : ∀ (l m : List Int), flatW (l ++ m) = flatW l ++ flatW m
  | [], m => rfl
  | n :: l, m => by simp only [List.cons_append, flatW, flatW_app l m, List.append_assoc]
theorem enc_len (n : Nt) : (encN n).length ≤ 160 := by
  have h := flatW_len (numsN n)
  rw [nums_len] at h
  have : manyN n.what ≤ 16 := by unfold manyN; split <;> (try split) <;> (try split) <;> omega
  unfold encN; omega
theorem rdG_used : ∀ (l : List Int) (z : Int) (i : Nat), (rdG z i l).1 = 0 → i < (rdG z i l).2.2 ∧ (rdG z i l).2.2 ≤ i + l.length
  | [], z, i, h => by simp [rdG] at h
  | c :: l, z, i, h => by
    simp only [rdG] at h ⊢
    split at h
    · simp at h
    · rename_i h1
      rw [if_neg h1]
      split at h
      · rename_i h2; rw [if_pos h2]; simp
      · rename_i h2
        rw [if_neg h2]
        have := rdG_used l _ (i + 1) h
        simp only [List.length_cons]; omega
theorem rdL_used {b : List Int} (h : (rdL b).1 = 0) : (rdL b).2.2 ≤ b.length := by have := rdG_used b 0 0 h; unfold rdL; omega
theorem psI_used : ∀ (m : Nat) (acc : List Int) (used : Nat) (b : List Int), used ≤ b.length → (psI m acc used b).2.2 ≤ b.length
  | 0, acc, used, b, h => by simpa [psI] using h
  | m + 1, acc, used, b, h => by
    simp only [psI]; split
    · simp
    · rename_i h1
      have := rdL_used (b := b.drop used) (by omega)
      rw [List.length_drop] at this
      exact psI_used m _ _ b (by omega)
theorem par_used (b : List Int) : (parL b).2.2 ≤ b.length := by
  unfold parL; split
  · simp
  · rename_i h1
    split
    · simp
    · exact psI_used _ _ _ b (rdL_used (by omega))
theorem read_used (b : List Int) : (readR b).2.2 ≤ b.length := by
  unfold readR; split
  · simp
  · split
    · exact par_used b
    · simp
end Go.Proofs.YtkkefgoidjjehaaDoor
