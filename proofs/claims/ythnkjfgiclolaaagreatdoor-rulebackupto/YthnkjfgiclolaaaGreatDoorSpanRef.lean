/- Plain facts: the reference's Norm ('normR') and what its Pick lays, told by their numbers. -/
import Derived.Test.YthnkjfgiclolaaaGreatDoorMgA
namespace Go.Proofs.YthnkjfgiclolaaaGreatDoor
set_option linter.unusedVariables false

def mergeIn : List Sp → Int → Int → List Sp
  | [], a, b => [(a, b)]
  | s :: r, a, b => if s.2 + 1 < a then s :: mergeIn r a b else if b + 1 < s.1 then (a, b) :: s :: r else mergeIn r (if s.1 < a then s.1 else a) (if s.2 > b then s.2 else b)
theorem mergeIn_len : ∀ (l : List Sp) (a b : Int), (mergeIn l a b).length ≤ l.length + 1
  | [], a, b => by simp [mergeIn]
  | s :: r, a, b => by
      rw [mergeIn]
      split
      · have := mergeIn_len r a b; simp; omega
      · split
        · simp
        · have := mergeIn_len r (if s.1 < a then s.1 else a) (if s.2 > b then s.2 else b); simp only [List.length_cons]; omega
theorem mergeIn_is : ∀ (l : List Sp) (a b : Int), Nrm l → 0 ≤ a → a ≤ b → b ≤ 65535 →
    Nrm (mergeIn l a b) ∧ (∀ n, inB (mergeIn l a b) n = (inB l n || insB (a, b) n)) ∧ ∀ c : Int, c + 1 < a → (∀ s ∈ l, c + 1 < s.1) → ∀ s ∈ mergeIn l a b, c + 1 < s.1
  | [], a, b, _, h0, h1, h2 => by
      rw [mergeIn]
      refine ⟨⟨OkS.one ⟨h0, h1, h2⟩, List.pairwise_singleton _ _⟩, fun n => by rw [inB_one, inB_nil, Bool.false_or], fun c hc _ s hs => ?_⟩
      rw [List.mem_singleton] at hs; subst hs; exact hc
  | s :: r, a, b, hn, h0, h1, h2 => by
      obtain ⟨ok, pw⟩ := hn
      have hs := ok s (by simp)
      rw [List.pairwise_cons] at pw
      have hr : Nrm r := ⟨fun t ht => ok t (by simp [ht]), pw.2⟩
      rw [mergeIn]
      split
      · rename_i hlt
        obtain ⟨i1, i2, i3⟩ := mergeIn_is r a b hr h0 h1 h2
        refine ⟨⟨fun t ht => ?_, ?_⟩, fun n => ?_, fun c hc hl t ht => ?_⟩
        · rcases List.mem_cons.1 ht with rfl | ht
          · exact hs
          · exact i1.1 t ht
        · rw [List.pairwise_cons]
          exact ⟨fun t ht => i3 s.2 hlt (fun q hq => pw.1 q hq) t ht, i1.2⟩
        · rw [inB_cons, inB_cons, i2, Bool.or_assoc]
        · rcases List.mem_cons.1 ht with rfl | ht
          · exact hl t (by simp)
          · exact i3 c hc (fun q hq => hl q (by simp [hq])) t ht
      · split
        · rename_i hge hlt
          refine ⟨⟨fun t ht => ?_, ?_⟩, fun n => ?_, fun c hc hl t ht => ?_⟩
          · rcases List.mem_cons.1 ht with rfl | ht
            · exact ⟨h0, h1, h2⟩
            · exact ok t ht
          · rw [List.pairwise_cons]
            refine ⟨fun t ht => ?_, List.pairwise_cons.2 pw⟩
            rcases List.mem_cons.1 ht with rfl | ht
            · exact hlt
            · have := pw.1 t ht; simp only; omega
          · rw [inB_cons (a, b), Bool.or_comm]
          · rcases List.mem_cons.1 ht with rfl | ht
            · exact hc
            · exact hl t ht
        · rename_i hge hlt
          obtain ⟨a', ha⟩ : ∃ a', (if s.1 < a then s.1 else a) = a' := ⟨_, rfl⟩
          obtain ⟨b', hb⟩ : ∃ b', (if s.2 > b then s.2 else b) = b' := ⟨_, rfl⟩
          rw [ha, hb]
          have ha' : a' = min s.1 a := by rw [← ha]; split <;> omega
          have hb' : b' = max s.2 b := by rw [← hb]; split <;> omega
          obtain ⟨i1, i2, i3⟩ := mergeIn_is r a' b' hr (by omega) (by omega) (by omega)
          refine ⟨i1, fun n => ?_, fun c hc hl t ht => ?_⟩
          · rw [i2, inB_cons, Bool.or_comm (insB s n), Bool.or_assoc]
            congr 1
            apply bool_ext
            rw [Bool.or_eq_true, insB_iff, insB_iff, insB_iff]
            simp only
            omega
          · refine i3 c ?_ (fun q hq => hl q (by simp [hq])) t ht
            have := hl s (by simp); omega
/-- Behind what was laid. -/
theorem mergeIn_far {l : List Sp} {a b : Int} (h : ∀ s ∈ l, b + 1 < s.1) (hk : OkS l) (hab : a ≤ b) : mergeIn l a b = (a, b) :: l := by
  cases l with
  | nil => rfl
  | cons s r =>
    have h1 := h s (by simp)
    have h2 := hk s (by simp)
    rw [mergeIn, if_neg (by omega), if_pos h1]
def normR (l : List Sp) : List Sp := l.foldl (fun out s => mergeIn out s.1 s.2) []
theorem normR_snoc (l : List Sp) (s : Sp) : normR (l ++ [s]) = mergeIn (normR l) s.1 s.2 := by simp [normR]
theorem normR_is : ∀ (l : List Sp), OkS l → Nrm (normR l) ∧ (∀ n, inB (normR l) n = inB l n) ∧ (normR l).length ≤ l.length := by
  intro l
  have H : ∀ k, k ≤ l.length → OkS l → Nrm (normR (l.take k)) ∧ (∀ n, inB (normR (l.take k)) n = inB (l.take k) n) ∧ (normR (l.take k)).length ≤ k := by
    intro k
    induction k with
    | zero => intro _ _; exact ⟨Nrm.nil, fun n => rfl, Nat.le_refl _⟩
    | succ k ih =>
      intro hk ok
      obtain ⟨i1, i2, i3⟩ := ih (by omega) ok
      have hs := ok l[k] (List.getElem_mem _)
      rw [List.take_succ_eq_append_getElem (by omega), normR_snoc]
      obtain ⟨j1, j2, _⟩ := mergeIn_is (normR (l.take k)) l[k].1 l[k].2 i1 hs.1 hs.2.1 hs.2.2
      refine ⟨j1, fun n => ?_, ?_⟩
      · rw [j2, i2, inB_append, inB_one]
      · have := mergeIn_len (normR (l.take k)) l[k].1 l[k].2; omega
  intro ok
  have := H l.length (Nat.le_refl _) ok
  rw [List.take_length] at this
  exact this
/-- One step from edge to edge. -/
def sameTo (l : List Sp) (k : Nat) (from' to : Int) : Prop := ∀ s ∈ l.take k, (from' < s.1 → to < s.1) ∧ (from' ≤ s.2 → to ≤ s.2)
theorem sameTo_zero (l : List Sp) (f t : Int) : sameTo l 0 f t := fun s hs => by simp at hs
theorem sameTo_mono {l : List Sp} {k : Nat} {f t t' : Int} (h : sameTo l k f t) (ht : t' ≤ t) : sameTo l k f t' := fun s hs => ⟨fun k => by have := (h s hs).1 k; omega, fun k => by have := (h s hs).2 k; omega⟩
theorem sameTo_snoc {l : List Sp} {k : Nat} {f t t' : Int} (hk : k < l.length) (h : sameTo l k f t) (ht : t' ≤ t) (h1 : f < l[k].1 → t' < l[k].1) (h2 : f ≤ l[k].2 → t' ≤ l[k].2) : sameTo l (k + 1) f t' := by
  intro s hs
  rw [List.take_succ_eq_append_getElem hk] at hs
  rcases List.mem_append.1 hs with hs | hs
  · exact sameTo_mono h ht s hs
  · rw [List.mem_singleton] at hs; subst hs; exact ⟨h1, h2⟩
theorem sameTo_in {l : List Sp} {f t n : Int} (h : sameTo l l.length f t) (h1 : f ≤ n) (h2 : n ≤ t) : inB l n = inB l f := by
  unfold sameTo at h
  rw [List.take_length] at h
  apply bool_ext
  rw [inB_iff, inB_iff]
  constructor
  · rintro ⟨s, hs, a, b⟩
    refine ⟨s, hs, ?_, by omega⟩
    rcases Int.lt_or_le f s.1 with k | k
    · have := (h s hs).1 k; omega
    · exact k
  · rintro ⟨s, hs, a, b⟩
    exact ⟨s, hs, by omega, by have := (h s hs).2 b; omega⟩
/-- What has been picked below 'from'. -/
def Picked (f : Int → Bool) (out : List Sp) (from' : Int) : Prop := OkS out ∧ (∀ n, inB out n = (decide (0 ≤ n ∧ n < from') && f n)) ∧ (out.length : Int) ≤ from'
theorem Picked.zero (f : Int → Bool) : Picked f [] 0 := by
  refine ⟨OkS.nil, fun n => ?_, by simp⟩
  rw [inB_nil]; symm; rw [Bool.and_eq_false_imp]; intro h; have := of_decide_eq_true h; omega
theorem Picked.yes {f : Int → Bool} {out : List Sp} {a b : Int} (h : Picked f out a) (h0 : 0 ≤ a) (h1 : a ≤ b) (h2 : b ≤ 65535) (hs : ∀ n, a ≤ n → n ≤ b → f n = true) : Picked f (out ++ [(a, b)]) (b + 1) := by
  refine ⟨OkS.append h.1 (OkS.one ⟨h0, h1, h2⟩), fun n => ?_, by have := h.2.2; simp; omega⟩
  rw [inB_append, h.2.1, inB_one]
  by_cases hx : a ≤ n ∧ n ≤ b
  · rw [hs n hx.1 hx.2, insB_iff.2 hx]
    simp only [Bool.or_true, Bool.and_true]
    symm; rw [decide_eq_true_eq]; omega
  · rw [insB_not.2 hx, Bool.or_false]
    congr 1
    simp only [decide_eq_decide]; omega
theorem Picked.no {f : Int → Bool} {out : List Sp} {a b : Int} (h : Picked f out a) (h1 : a ≤ b) (hs : ∀ n, a ≤ n → n ≤ b → f n = false) : Picked f out (b + 1) := by
  refine ⟨h.1, fun n => ?_, by have := h.2.2; omega⟩
  rw [h.2.1]
  by_cases hx : a ≤ n ∧ n ≤ b
  · rw [hs n hx.1 hx.2, Bool.and_false, Bool.and_false]
  · congr 1
    simp only [decide_eq_decide]; omega
end Go.Proofs.YthnkjfgiclolaaaGreatDoor
