/- Plain facts on pieces that rise with a gap between any two: two such lists with the same addresses are one; how many prefixes they are spread into at most. -/
import Derived.Test.YtkjjalaelehjeabDoorSpreadL
namespace Go.Proofs.YtkjjalaelehjeabDoor
open Go.RowKit
set_option linter.unusedVariables false

def InP (L : List (Int × Int)) (x : Int) : Prop := ∃ p ∈ L, p.1 ≤ x ∧ x ≤ p.2
def OkP (L : List (Int × Int)) : Prop := ∀ p ∈ L, 0 ≤ p.1 ∧ p.1 ≤ p.2 ∧ p.2 ≤ 4294967295
theorem InP_append (a b : List (Int × Int)) (x : Int) : InP (a ++ b) x ↔ InP a x ∨ InP b x := by
  unfold InP
  constructor
  · rintro ⟨p, hp, h⟩
    rcases List.mem_append.1 hp with h' | h'
    · exact .inl ⟨p, h', h⟩
    · exact .inr ⟨p, h', h⟩
  · rintro (⟨p, hp, h⟩ | ⟨p, hp, h⟩)
    · exact ⟨p, List.mem_append.2 (.inl hp), h⟩
    · exact ⟨p, List.mem_append.2 (.inr hp), h⟩
theorem InP_one (a b x : Int) : InP [(a, b)] x ↔ a ≤ x ∧ x ≤ b := by unfold InP; simp
theorem InP_cons (p : Int × Int) (L : List (Int × Int)) (x : Int) : InP (p :: L) x ↔ (p.1 ≤ x ∧ x ≤ p.2) ∨ InP L x := by
  have := InP_append [p] L x
  rw [List.singleton_append] at this
  rw [this]
  obtain ⟨a, b⟩ := p
  rw [InP_one]
/-- Pieces in order that have the same together are the same. -/
theorem sorted_unique : ∀ (P Q : List (Int × Int)), List.Pairwise (fun p q => p.2 + 1 < q.1) P → List.Pairwise (fun p q => p.2 + 1 < q.1) Q → OkP P → OkP Q → (∀ x, InP P x ↔ InP Q x) → P = Q
  | [], [], _, _, _, _, _ => rfl
  | [], q :: Q, _, _, _, okQ, h => by
      have hq := okQ q (by simp)
      have := (h q.1).2 ⟨q, by simp, by omega, by omega⟩
      obtain ⟨p, hp, _⟩ := this
      cases hp
  | p :: P, [], _, _, okP, _, h => by
      have hp := okP p (by simp)
      have := (h p.1).1 ⟨p, by simp, by omega, by omega⟩
      obtain ⟨q, hq, _⟩ := this
      cases hq
  | p :: P, q :: Q, sP, sQ, okP, okQ, h => by
      have hp := okP p (by simp)
      have hq := okQ q (by simp)
      rw [List.pairwise_cons] at sP sQ
      have inP : ∀ x, InP (p :: P) x → p.1 ≤ x := by
        rintro x ⟨r, hr, h1, h2⟩
        rcases List.mem_cons.1 hr with rfl | hr
        · exact h1
        · have := sP.1 r hr; omega
      have inQ : ∀ x, InP (q :: Q) x → q.1 ≤ x := by
        rintro x ⟨r, hr, h1, h2⟩
        rcases List.mem_cons.1 hr with rfl | hr
        · exact h1
        · have := sQ.1 r hr; omega
      have e1 : p.1 = q.1 := by
        have a := inQ _ ((h p.1).1 ⟨p, by simp, by omega, by omega⟩)
        have b := inP _ ((h q.1).2 ⟨q, by simp, by omega, by omega⟩)
        omega
      have nP : ¬ InP (p :: P) (p.2 + 1) := by
        rintro ⟨r, hr, h1, h2⟩
        rcases List.mem_cons.1 hr with rfl | hr
        · omega
        · have := sP.1 r hr; omega
      have nQ : ¬ InP (q :: Q) (q.2 + 1) := by
        rintro ⟨r, hr, h1, h2⟩
        rcases List.mem_cons.1 hr with rfl | hr
        · omega
        · have := sQ.1 r hr; omega
      have e2 : p.2 = q.2 := by
        rcases Int.lt_trichotomy p.2 q.2 with h' | h' | h'
        · exact absurd ((h (p.2 + 1)).2 ⟨q, by simp, by omega, by omega⟩) nP
        · exact h'
        · exact absurd ((h (q.2 + 1)).1 ⟨p, by simp, by omega, by omega⟩) nQ
      have e : p = q := Prod.ext e1 e2
      subst e
      congr 1
      refine sorted_unique P Q sP.2 sQ.2 (fun r hr => okP r (by simp [hr])) (fun r hr => okQ r (by simp [hr])) fun x => ?_
      have hx := h x
      rw [InP_cons, InP_cons] at hx
      constructor
      · rintro ⟨r, hr, h1, h2⟩
        have := sP.1 r hr
        rcases hx.1 (.inr ⟨r, hr, h1, h2⟩) with h' | h'
        · omega
        · exact h'
      · rintro ⟨r, hr, h1, h2⟩
        have := sQ.1 r hr
        rcases hx.2 (.inr ⟨r, hr, h1, h2⟩) with h' | h'
        · omega
        · exact h'
theorem spreadF_len : ∀ (f : Nat) (low high : Int), (spreadF f low high).length ≤ f
  | 0, _, _ => by simp [spreadF]
  | f + 1, low, high => by
      rw [spreadF]
      split
      · have := spreadF_len f (low + pw (32 - (bestN low high : Int))) high; simp; omega
      · simp
theorem spreadL_len (low high : Int) : (spreadL low high).length ≤ (high - low + 1).toNat := spreadF_len _ _ _
theorem flat_len : ∀ (Q : List (Int × Int)) (c : Int), 0 ≤ c → c ≤ 4294967296 → (∀ q ∈ Q, c ≤ q.1) → List.Pairwise (fun p q => p.2 + 1 < q.1) Q → OkP Q → ((Q.flatMap fun q => spreadL q.1 q.2).length : Int) ≤ 4294967296 - c
  | [], c, h0, h1, _, _, _ => by simp; omega
  | q :: Q, c, h0, h1, hc, hs, hok => by
      rw [List.pairwise_cons] at hs
      have hq := hok q (by simp)
      have hcq := hc q (by simp)
      have ih := flat_len Q (q.2 + 1) (by omega) (by omega) (fun r hr => by have := hs.1 r hr; omega) hs.2 (fun r hr => hok r (by simp [hr]))
      have hl := spreadL_len q.1 q.2
      simp only [List.flatMap_cons, List.length_append]
      omega
theorem flat_len0 {Q : List (Int × Int)} (hs : List.Pairwise (fun p q => p.2 + 1 < q.1) Q) (hok : OkP Q) : (Q.flatMap fun q => spreadL q.1 q.2).length ≤ 4294967296 := by
  have := flat_len Q 0 (by omega) (by omega) (fun q hq => (hok q hq).1) hs hok
  omega
theorem flat_snoc (Q : List (Int × Int)) (a b : Int) : (Q.flatMap fun q => spreadL q.1 q.2) ++ spreadL a b = (Q ++ [(a, b)]).flatMap fun q => spreadL q.1 q.2 := by simp
theorem spreadL_pos {a b : Int} (h : a ≤ b) : 0 < (spreadL a b).length := by rw [spreadL_yes h]; simp
end Go.Proofs.YtkjjalaelehjeabDoor
