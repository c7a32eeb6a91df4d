/- Whether a piece goes together with those that are there, by the numbers that a group keeps: plain facts. -/
import Derived.Test.YtkpbcdnkbokekaaDoorPoolMath
namespace Go.Proofs.YtkpbcdnkbokekaaDoor
set_option linter.unusedVariables false

def touchY (x y : Pk) : Bool := decide (8 * x.pos < 8 * y.pos + y.body.length) && decide (8 * y.pos < 8 * x.pos + x.body.length)
def touchB (l : List Pk) (x : Pk) : Bool := l.any (touchY x)
def endI (x : Pk) : Int := 8 * x.pos + x.body.length
theorem any_or {α : Type} (f g : α → Bool) (l : List α) : l.any (fun y => f y || g y) = (l.any f || l.any g) := by
  induction l with
  | nil => rfl
  | cons a r ih => simp only [List.any_cons, ih]; cases f a <;> cases g a <;> cases r.any f <;> rfl
theorem endI_hi {x : Pk} (h : 0 ≤ x.pos) : endI x = (hiP x : Int) := by
  have := loP_int h; unfold endI hiP; omega
theorem wrongB_parts {l : List Pk} (h : GoodP l) {x : Pk} (hx : 0 ≤ x.pos) :
    wrongB l x = (decide (x.body.length = 0) || decide (4000 < endI x) || (x.more && decide (¬ x.body.length % 8 = 0)) || (decide (0 < finN l) && (!x.more || decide ((finN l : Int) < endI x))) || (!x.more && decide (endI x < (reachN l : Int))) || touchB l x) := by
  have hany : l.any (wrongY x) = (touchB l x || (decide (0 < finN l) && (!x.more || decide ((finN l : Int) < endI x))) || (!x.more && decide (endI x < (reachN l : Int)))) := by
    have e1 : l.any (wrongY x) = (l.any (touchY x) || l.any (fun y => !y.more && (!x.more || decide (8 * x.pos + x.body.length > 8 * y.pos + y.body.length))) || l.any (fun y => !x.more && decide (8 * y.pos + y.body.length > 8 * x.pos + x.body.length))) := by
      rw [← any_or, ← any_or]; rfl
    have e2 : l.any (fun y => !y.more && (!x.more || decide (8 * x.pos + x.body.length > 8 * y.pos + y.body.length))) = (decide (0 < finN l) && (!x.more || decide ((finN l : Int) < endI x))) := by
      rcases fin_spec l with ⟨h1, h2⟩ | ⟨z, hz, hzm, ez⟩
      · rw [h1]
        simp only [Nat.lt_irrefl, decide_false, Bool.false_and]
        rw [List.any_eq_false]
        intro y hy
        simp [h2 y hy]
      · have hpos : 0 < finN l := by rw [ez]; have := (h.one z hz).2.1; unfold hiP; omega
        rw [decide_eq_true hpos, Bool.true_and, Bool.eq_iff_iff, List.any_eq_true]
        constructor
        · rintro ⟨y, hy, hc⟩
          simp only [Bool.and_eq_true, Bool.not_eq_true', Bool.or_eq_true, decide_eq_true_eq] at hc ⊢
          obtain ⟨hym, hc⟩ := hc
          rcases hc with hc | hc
          · exact .inl hc
          · right
            have := endI_hi (h.one y hy).1
            unfold endI at this ⊢
            rw [h.fin hy hym]; omega
        · intro hc
          refine ⟨z, hz, ?_⟩
          simp only [Bool.and_eq_true, Bool.not_eq_true', Bool.or_eq_true, decide_eq_true_eq] at hc ⊢
          refine ⟨hzm, ?_⟩
          rcases hc with hc | hc
          · exact .inl hc
          · right
            have := endI_hi (h.one z hz).1
            unfold endI at this hc
            rw [ez] at hc; omega
    have e3 : l.any (fun y => !x.more && decide (8 * y.pos + y.body.length > 8 * x.pos + x.body.length)) = (!x.more && decide (endI x < (reachN l : Int))) := by
      rw [Bool.eq_iff_iff, List.any_eq_true]
      constructor
      · rintro ⟨y, hy, hc⟩
        simp only [Bool.and_eq_true, Bool.not_eq_true', decide_eq_true_eq] at hc ⊢
        refine ⟨hc.1, ?_⟩
        have h1 := endI_hi (h.one y hy).1
        have h2 := reachN_ge hy
        unfold endI at h1 ⊢
        omega
      · intro hc
        simp only [Bool.and_eq_true, Bool.not_eq_true', decide_eq_true_eq] at hc
        have hpos : 0 < reachN l := by have := endI_hi hx; omega
        obtain ⟨y, hy, ey⟩ := reachN_in hpos
        refine ⟨y, hy, ?_⟩
        simp only [Bool.and_eq_true, Bool.not_eq_true', decide_eq_true_eq]
        refine ⟨hc.1, ?_⟩
        have h1 := endI_hi (h.one y hy).1
        have h2 := hc.2
        unfold endI at h1 h2
        omega
    rw [e1, e2, e3]; rfl
  unfold wrongB
  rw [hany]
  have e4 : (4000 < 8 * x.pos + (x.body.length : Int)) = (4000 < endI x) := rfl
  simp only [e4]
  cases decide (x.body.length = 0) <;> cases decide (4000 < endI x) <;> cases (x.more && decide (¬ x.body.length % 8 = 0)) <;> cases touchB l x <;> cases (decide (0 < finN l) && (!x.more || decide ((finN l : Int) < endI x))) <;> cases (!x.more && decide (endI x < (reachN l : Int))) <;> rfl
/-- What a piece that is right makes of the numbers that a group keeps. -/
theorem fin_kept {l : List Pk} {x : Pk} (h : GoodP (l ++ [x])) : finN (l ++ [x]) = if x.more then finN l else reachN (l ++ [x]) := by
  rw [finN_snoc h]
  rcases hm : x.more with _ | _
  · simp only [Bool.false_eq_true, if_false]
    have hx : x ∈ l ++ [x] := List.mem_append_right _ (List.mem_singleton.2 rfl)
    have h0 : 0 < reachN (l ++ [x]) := by have := reachN_ge hx; have := (h.one x hx).2.1; unfold hiP at *; omega
    obtain ⟨y, hy, ey⟩ := reachN_in h0
    have h1 := h.under hx hm y hy
    have h2 := reachN_ge hx
    omega
  · rfl
theorem bounds_kept {l : List Pk} (h : GoodP l) : heldN l ≤ 4000 ∧ reachN l ≤ 4000 ∧ finN l ≤ 4000 := by
  have hr : reachN l ≤ 4000 := by
    rcases Nat.eq_zero_or_pos (reachN l) with h0 | h0
    · omega
    · obtain ⟨x, hx, ex⟩ := reachN_in h0
      have := (h.one x hx).2.2.2; omega
  refine ⟨?_, hr, ?_⟩
  · have := (room_le 4000 (posL l) (posL_nodup h) (fun i hi => by
      obtain ⟨x, hx, _, h2⟩ := posL_mem.1 hi
      have := (h.one x hx).2.2.2; omega)).1
    rw [posL_len] at this; exact this
  · rcases fin_spec l with ⟨h1, _⟩ | ⟨z, hz, _, ez⟩
    · omega
    · rw [ez]; exact (h.one z hz).2.2.2
/-- From edge to edge, where they have as many bytes as the last one's end asks for. -/
theorem whole_next {l : List Pk} (h : GoodP l) (hne : l ≠ []) (hd : heldN l = finN l) {n : Nat} (he : EdgeP l n) (hn : n < finN l) : ∃ x ∈ l, loP x = n ∧ hiP x ≤ finN l ∧ (x.more = false → hiP x = finN l) := by
  rcases fin_spec l with ⟨h1, _⟩ | ⟨z, hz, hzm, ez⟩
  · omega
  · obtain ⟨x, hx, a, b⟩ := (h.held hz hzm).2 hd n hn
    refine ⟨x, hx, h.next he hx a b, ?_, fun hm => (h.fin hx hm).symm⟩
    rw [ez]; exact h.under hz hzm x hx
theorem edge_in {l : List Pk} (h : GoodP l) (hne : l ≠ []) (hd : heldN l = finN l) {n : Nat} (he : EdgeP l n) : n < finN l := by
  obtain ⟨x0, hx0⟩ := List.exists_mem_of_ne_nil _ hne
  have hpos := heldN_pos h hx0
  rcases fin_spec l with ⟨h1, _⟩ | ⟨z, hz, hzm, ez⟩
  · omega
  · rcases he with rfl | ⟨x, hx, ex, hm⟩
    · omega
    · have hle := h.under hz hzm x hx
      rcases Nat.lt_or_ge n (finN l) with hc | hc
      · exact hc
      · exfalso
        have hxz : x ≠ z := fun e => by rw [e, hzm] at hm; cases hm
        rcases pair_of h.fit hx hz with e | hf
        · exact hxz e
        · have h1 := hf.1
          have h2 := (h.one x hx).2.1
          have h3 := (h.one z hz).2.1
          unfold hiP at h1 ex ez hle
          omega
theorem chain_no {l : List Pk} (h : GoodP l) (hne : l ≠ []) {n : Nat} (he : EdgeP l n) (hno : ∀ x ∈ l, loP x ≠ n) : ¬ heldN l = finN l := by
  intro hd
  obtain ⟨x, hx, e, _⟩ := whole_next h hne hd he (edge_in h hne hd he)
  exact hno x hx e
theorem chain_yes {l : List Pk} (h : GoodP l) {x : Pk} (hx : x ∈ l) (hm : x.more = false) (hc : ∀ i, i < loP x → ∃ y ∈ l, loP y ≤ i ∧ i < hiP y) : heldN l = finN l ∧ finN l = hiP x := by
  have hf := h.fin hx hm
  refine ⟨h.full hx hm (fun i hi => ?_), hf⟩
  by_cases hl : i < loP x
  · exact hc i hl
  · exact ⟨x, hx, by omega, by omega⟩
end Go.Proofs.YtkpbcdnkbokekaaDoor
