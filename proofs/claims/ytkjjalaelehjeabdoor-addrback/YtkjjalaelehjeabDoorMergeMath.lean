/- Plain facts: prefixes that rise, merged into stretches with a gap between any two ('Mrg'). -/
import Derived.Test.YtkjjalaelehjeabDoorCovMath
namespace Go.Proofs.YtkjjalaelehjeabDoor
open Go.RowKit
set_option linter.unusedVariables false

/-- The last address of a prefix. -/
def endP (p : Int × Int) : Int := p.1 + pw (32 - p.2) - 1
def HasP (ps : List (Int × Int)) (x : Int) : Prop := ∃ p ∈ ps, p.1 ≤ x ∧ x ≤ endP p
def Mrg (ps Q : List (Int × Int)) : Prop :=
  Q.Pairwise (fun p q => p.2 + 1 < q.1) ∧ OkP Q ∧ (∀ x, InP Q x ↔ HasP ps x) ∧ (∀ q ∈ Q, ∃ p ∈ ps, q.1 = p.1)
theorem HasP_snoc (ps : List (Int × Int)) (p : Int × Int) (x : Int) : HasP (ps ++ [p]) x ↔ HasP ps x ∨ (p.1 ≤ x ∧ x ≤ endP p) := by
  unfold HasP
  constructor
  · rintro ⟨q, hq, h⟩
    rcases List.mem_append.1 hq with hq | hq
    · exact .inl ⟨q, hq, h⟩
    · rw [List.mem_singleton] at hq; subst hq; exact .inr h
  · rintro (⟨q, hq, h⟩ | h)
    · exact ⟨q, List.mem_append_left _ hq, h⟩
    · exact ⟨p, List.mem_append_right _ (List.mem_singleton.2 rfl), h⟩
theorem Mrg.nil : Mrg [] [] := by
  refine ⟨List.Pairwise.nil, ?_, ?_, ?_⟩
  · intro p h; cases h
  · intro x
    constructor
    · rintro ⟨p, h, _⟩; cases h
    · rintro ⟨p, h, _⟩; cases h
  · intro q h; cases h
theorem end_ok {p : Int × Int} (hp : prefE p.1 p.2 = 0) : 0 ≤ p.1 ∧ p.1 ≤ endP p ∧ endP p ≤ 4294967295 := by
  have h1 := pw_pos (32 - p.2)
  have h2 := pref_top hp
  obtain ⟨⟨h3, _⟩, _⟩ := prefE_zero hp
  unfold endP; omega
theorem Mrg.new {ps Q : List (Int × Int)} {p : Int × Int} (h : Mrg ps Q) (hp : prefE p.1 p.2 = 0) (hgap : ∀ q ∈ Q, q.2 + 1 < p.1) : Mrg (ps ++ [p]) (Q ++ [(p.1, endP p)]) := by
  obtain ⟨h1, h2, h3, h4⟩ := h
  have he := end_ok hp
  refine ⟨?_, ?_, ?_, ?_⟩
  · rw [List.pairwise_append]
    refine ⟨h1, List.pairwise_singleton _ _, fun a ha b hb => ?_⟩
    rw [List.mem_singleton] at hb; subst hb
    exact hgap a ha
  · intro q hq
    rcases List.mem_append.1 hq with hq | hq
    · exact h2 q hq
    · rw [List.mem_singleton] at hq; subst hq; exact he
  · intro x
    rw [InP_append, HasP_snoc, h3, InP_one]
  · intro q hq
    rcases List.mem_append.1 hq with hq | hq
    · obtain ⟨r, hr, e⟩ := h4 q hq
      exact ⟨r, List.mem_append_left _ hr, e⟩
    · rw [List.mem_singleton] at hq; subst hq
      exact ⟨p, List.mem_append_right _ (List.mem_singleton.2 rfl), rfl⟩
theorem Mrg.join {ps R : List (Int × Int)} {a b : Int} {p : Int × Int} (h : Mrg ps (R ++ [(a, b)])) (hp : prefE p.1 p.2 = 0) (h1 : a ≤ p.1) (h2 : p.1 ≤ b + 1) (c : Int) (hc : c = if b ≤ endP p then endP p else b) : Mrg (ps ++ [p]) (R ++ [(a, c)]) := by
  obtain ⟨k1, k2, k3, k4⟩ := h
  have he := end_ok hp
  have hab := k2 (a, b) (by simp)
  simp only at hab
  have hc1 : b ≤ c ∧ endP p ≤ c ∧ (c = b ∨ c = endP p) := by rw [hc]; split <;> omega
  rw [List.pairwise_append] at k1
  refine ⟨?_, ?_, ?_, ?_⟩
  · rw [List.pairwise_append]
    refine ⟨k1.1, List.pairwise_singleton _ _, fun q hq r hr => ?_⟩
    rw [List.mem_singleton] at hr; subst hr
    exact k1.2.2 q hq (a, b) (List.mem_singleton.2 rfl)
  · intro q hq
    rcases List.mem_append.1 hq with hq | hq
    · exact k2 q (List.mem_append_left _ hq)
    · rw [List.mem_singleton] at hq; subst hq
      simp only; omega
  · intro x
    have := k3 x
    rw [InP_append, InP_one] at this
    rw [InP_append, HasP_snoc, InP_one, ← this]
    constructor
    · rintro (h | h)
      · exact .inl (.inl h)
      · by_cases hx : x ≤ b
        · exact .inl (.inr ⟨h.1, hx⟩)
        · exact .inr ⟨by omega, by omega⟩
    · rintro ((h | h) | h)
      · exact .inl h
      · exact .inr ⟨h.1, by omega⟩
      · exact .inr ⟨by omega, by omega⟩
  · intro q hq
    rcases List.mem_append.1 hq with hq | hq
    · obtain ⟨r, hr, e⟩ := k4 q (List.mem_append_left _ hq)
      exact ⟨r, List.mem_append_left _ hr, e⟩
    · rw [List.mem_singleton] at hq; subst hq
      obtain ⟨r, hr, e⟩ := k4 (a, b) (by simp)
      exact ⟨r, List.mem_append_left _ hr, e⟩
/-- What is behind the last stretch is behind all of them. -/
theorem Mrg.gap {ps R : List (Int × Int)} {a b x : Int} (h : Mrg ps (R ++ [(a, b)])) (hx : b + 1 < x) : ∀ q ∈ R ++ [(a, b)], q.2 + 1 < x := by
  obtain ⟨k1, k2, _, _⟩ := h
  have hab := k2 (a, b) (by simp)
  rw [List.pairwise_append] at k1
  intro q hq
  rcases List.mem_append.1 hq with hq | hq
  · have := k1.2.2 q hq (a, b) (List.mem_singleton.2 rfl)
    simp only at this hab; omega
  · rw [List.mem_singleton] at hq; subst hq; exact hx
end Go.Proofs.YtkjjalaelehjeabDoor
