/- Plans, the plain facts, further: a rule fits a key just where each side of it has the key's number; what is judged by the bits of all sides is what is judged. -/
import Derived.Test.YtdellfmkmbabhaaPlanMath
namespace Go.Proofs.Ytdellfmkmbabhaa
set_option linter.unusedVariables false

/-- What a rule with nothing wrong is like. -/
theorem ru_parts {r : Rl} (h : ruE r = 0) : (0 ≤ r.way ∧ r.way ≤ 2) ∧ (0 ≤ r.kind ∧ r.kind ≤ 3) ∧ prefE r.sa r.sl = 0 ∧ prefE r.da r.dl = 0 ∧ r.fr.length ≤ 10 ∧ r.tl.length ≤ 10 ∧ spE r.fr = 0 ∧ spE r.tl = 0 := by
  have two : ∀ {a b : Int}, twoE a b = 0 → a = 0 ∧ b = 0 := fun {a b} h => by
    unfold twoE at h
    split at h
    · rename_i h1; exact ⟨h1, h⟩
    · rename_i h1; exact absurd h h1
  unfold ruE at h
  split at h
  · cases h
  rename_i h1
  split at h
  · rename_i h2; exact absurd h h2
  rename_i h2
  split at h
  · cases h
  rename_i h3
  split at h
  · rename_i h4; exact absurd h h4
  rename_i h4
  have h2' := two (Classical.byContradiction h2)
  have h4' := two (Classical.byContradiction h4)
  have h3' : fullE r = 0 := Classical.byContradiction h3
  unfold fullE at h3'
  have hw : wayE r = false := by simpa using h1
  unfold wayE at hw
  simp only [Bool.or_eq_false_iff, decide_eq_false_iff_not] at hw
  have h5 : ¬ (10 < r.fr.length ∨ 10 < r.tl.length) := fun e => by rw [if_pos e] at h3'; cases h3'
  exact ⟨by omega, by omega, h2'.1, h2'.2, by omega, by omega, h4'.1, h4'.2⟩
/-- The least and the greatest number of a side. -/
def sideLo : Nat → Int
  | 0 => 1
  | _ => 0
def sideHi : Nat → Int
  | 0 => 2
  | 1 => 15
  | 2 => 4294967295
  | 3 => 65535
  | 4 => 4294967295
  | _ => 65535
/-- The number of a key on a side. -/
def ptS (k : Ky) (way : Int) : Nat → Int
  | 0 => way
  | 1 => k.kind
  | 2 => k.src
  | 3 => k.frm
  | 4 => k.dst
  | _ => k.too
theorem sp_parts {l : List Sp} (h : spE l = 0) : ∀ s ∈ l, 0 ≤ s.1 ∧ s.1 ≤ s.2 ∧ s.2 ≤ 65535 := fun s hs => by
  unfold spE at h
  split at h
  · cases h
  split at h
  · rename_i h1
    exact okB_iff.1 (List.all_eq_true.1 h1 s hs)
  · cases h
/-- What is asked for lies within the side. -/
theorem ask_in {r : Rl} (h : ruE r = 0) (side : Nat) : (askS r side).length ≤ 10 ∧ ∀ s ∈ askS r side, sideLo side ≤ s.1 ∧ s.1 ≤ s.2 ∧ s.2 ≤ sideHi side := by
  obtain ⟨⟨w0, w2⟩, ⟨k0, k3⟩, p1, p2, f1, f2, s1, s2⟩ := ru_parts h
  have pf : ∀ {a l : Int}, prefE a l = 0 → ∀ s ∈ [(a, a + pw (32 - l) - 1)], (0 : Int) ≤ s.1 ∧ s.1 ≤ s.2 ∧ s.2 ≤ 4294967295 := fun {a l} hp s hs => by
    rw [List.mem_singleton] at hs
    subst hs
    have := pref_top hp
    have := (prefE_zero hp).1
    have := pw_pos (32 - l)
    simp only
    omega
  have q1 := sp_parts s1
  have q2 := sp_parts s2
  match side with
  | 0 =>
    rw [show askS r 0 = if r.way = 0 then [] else [(r.way, r.way)] from rfl]
    split
    · exact ⟨by simp, fun s hs => by cases hs⟩
    · refine ⟨by simp, fun s hs => ?_⟩
      rw [List.mem_singleton] at hs
      subst hs
      simp only [sideLo, sideHi]; omega
  | 1 =>
    rw [show askS r 1 = if r.kind = 0 then [] else [(r.kind, r.kind)] from rfl]
    split
    · exact ⟨by simp, fun s hs => by cases hs⟩
    · refine ⟨by simp, fun s hs => ?_⟩
      rw [List.mem_singleton] at hs
      subst hs
      simp only [sideLo, sideHi]; omega
  | 2 => exact ⟨by simp [askS], pf p1⟩
  | 3 => exact ⟨f1, q1⟩
  | 4 => exact ⟨by simp [askS], pf p2⟩
  | n + 5 => exact ⟨f2, q2⟩
theorem inS_any (a b : Int) : inS (if a = 0 then [] else [(a, a)]) b = anyB a b := by
  unfold anyB inS inB insB
  by_cases h : a = 0
  · rw [if_pos h, h]; simp
  · rw [if_neg h]
    have h0 : (a == 0) = false := by rw [beq_eq_false_iff_ne]; exact h
    rw [h0]
    by_cases h2 : a = b
    · subst h2; simp
    · have h3 : (a == b) = false := by rw [beq_eq_false_iff_ne]; exact h2
      rw [h3]
      simp
      omega
theorem inS_has {a l x : Int} (hp : prefE a l = 0) (hx : isAddr x = true) : inS [(a, a + pw (32 - l) - 1)] x = hasB a l x := by
  unfold inS inB insB hasB
  rw [Bool.eq_iff_iff]
  simp [hp, hx]
theorem inS_port {l : List Sp} (h : spE l = 0) (n : Int) : inS l n = portB l n := by
  unfold inS portB; simp [h]
def keyOk (k : Ky) (way : Int) : Prop := ∀ side, side < 6 → sideLo side ≤ ptS k way side ∧ ptS k way side ≤ sideHi side
theorem keyB_ok {k : Ky} {way : Int} : keyB k way = true ↔ keyOk k way := by
  unfold keyB isAddr
  simp only [Bool.and_eq_true, Bool.or_eq_true, decide_eq_true_eq, beq_iff_eq]
  constructor
  · rintro ⟨a1, a2, a3, a4, ⟨a5, a6⟩, ⟨a7, a8⟩, a9⟩ side hs
    match side, hs with
    | 0, _ => simp only [sideLo, sideHi, ptS]; omega
    | 1, _ => simp only [sideLo, sideHi, ptS]; omega
    | 2, _ => simp only [sideLo, sideHi, ptS]; omega
    | 3, _ => simp only [sideLo, sideHi, ptS]; omega
    | 4, _ => simp only [sideLo, sideHi, ptS]; omega
    | 5, _ => simp only [sideLo, sideHi, ptS]; omega
  · intro h
    have h0 := h 0 (by omega)
    have h1 := h 1 (by omega)
    have h2 := h 2 (by omega)
    have h3 := h 3 (by omega)
    have h4 := h 4 (by omega)
    have h5 := h 5 (by omega)
    simp only [sideLo, sideHi, ptS] at h0 h1 h2 h3 h4 h5
    omega
/-- A rule fits a key just where each side has the key's number. -/
theorem fits_ask {r : Rl} {k : Ky} {way : Int} (h : ruE r = 0) (hk : keyB k way = true) : fitsB r k way = (inS (askS r 0) (ptS k way 0) && (inS (askS r 1) (ptS k way 1) && (inS (askS r 2) (ptS k way 2) && (inS (askS r 4) (ptS k way 4) && (inS (askS r 3) (ptS k way 3) && inS (askS r 5) (ptS k way 5)))))) := by
  obtain ⟨_, _, p1, p2, _, _, s1, s2⟩ := ru_parts h
  have ok := keyB_ok.1 hk
  have h2 := ok 2 (by omega)
  have h4 := ok 4 (by omega)
  simp only [sideLo, sideHi, ptS] at h2 h4
  simp only [askS, ptS]
  rw [inS_any, inS_any, inS_has p1 (isAddr_yes h2.1 h2.2), inS_has p2 (isAddr_yes h4.1 h4.2), inS_port s1, inS_port s2]
  rfl
/-- What rules ask for on a side. -/
def askL (rs : List Rl) (side : Nat) : List (List Sp) := rs.map fun r => askS r side
/-- The bits of all sides. -/
def allV (rs : List Rl) (k : Ky) (way : Int) (n : Nat) : Nat := n &&& fitV (askL rs 0) (ptS k way 0) &&& fitV (askL rs 1) (ptS k way 1) &&& fitV (askL rs 2) (ptS k way 2) &&& fitV (askL rs 3) (ptS k way 3) &&& fitV (askL rs 4) (ptS k way 4) &&& fitV (askL rs 5) (ptS k way 5)
theorem ask_bit {rs : List Rl} {j side : Nat} {x : Int} (h : j < rs.length) : (fitV (askL rs side) x).testBit j = inS (askS rs[j] side) x := by
  rw [fitV_bit]
  unfold askL
  rw [List.getElem?_map, List.getElem?_eq_getElem h]
  rfl
theorem allV_bit {rs : List Rl} {k : Ky} {way : Int} {n : Nat} (hr : ∀ r ∈ rs, ruE r = 0) (hk : keyB k way = true) (hn : ∀ j, j < rs.length → n.testBit j = true) : ∀ j (h : j < rs.length), (allV rs k way n).testBit (0 + j) = fitsB rs[j] k way := by
  intro j h
  rw [Nat.zero_add]
  unfold allV
  rw [Nat.testBit_and, Nat.testBit_and, Nat.testBit_and, Nat.testBit_and, Nat.testBit_and, Nat.testBit_and, ask_bit h, ask_bit h, ask_bit h, ask_bit h, ask_bit h, ask_bit h, hn j h, fits_ask (hr _ (List.getElem_mem h)) hk]
  generalize inS (askS rs[j] 0) (ptS k way 0) = a
  generalize inS (askS rs[j] 1) (ptS k way 1) = b
  generalize inS (askS rs[j] 2) (ptS k way 2) = c
  generalize inS (askS rs[j] 3) (ptS k way 3) = d
  generalize inS (askS rs[j] 4) (ptS k way 4) = e
  generalize inS (askS rs[j] 5) (ptS k way 5) = f
  cases a <;> cases b <;> cases c <;> cases d <;> cases e <;> cases f <;> rfl
theorem decF_judR {rs : List Rl} {k : Ky} {way : Int} {v : Nat} (h : ∀ j (h : j < rs.length), v.testBit (0 + j) = fitsB rs[j] k way) : decF v 0 rs (zeroR, -1) = (judR rs (lastN (traceL k way 0 rs)), lastN (traceL k way 0 rs)) := by
  rw [decF_trace rs 0 _ h]
  unfold lastN judR
  rcases hl : (traceL k way 0 rs).getLast? with _ | n
  · simp
  · obtain ⟨j, hj, hn⟩ := traceL_mem k way rs 0 n (List.mem_of_getLast? hl)
    have h0 : ¬ n < 0 := by omega
    have e : n - ((0 : Nat) : Int) = n := by omega
    simp only [Option.getD_some]
    rw [if_neg h0, e]
end Go.Proofs.Ytdellfmkmbabhaa
