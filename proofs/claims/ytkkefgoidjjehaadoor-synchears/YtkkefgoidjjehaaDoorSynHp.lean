/- What is told is heard: plain facts on numbers. A hearer that has all up to s, and W of those that wait; what comes out next; what is told again. No condition is asked of a program. -/
import Derived.Test.YtkkefgoidjjehaaDoorSynMath
namespace Go.Proofs.YtkkefgoidjjehaaDoor
set_option linter.unusedVariables false

/-- What comes out next: the numbers behind s, as long as they wait. -/
def nextG : Nat → Nat → List Nat → Nat × List Nat
  | 0, s, W => (s, W)
  | f + 1, s, W => if (s + 1) ∈ W then nextG f (s + 1) (W.filter fun x => decide (x ≠ s + 1)) else (s, W)
theorem filter_lt {W : List Nat} {y : Nat} (h : y ∈ W) : (W.filter fun x => decide (x ≠ y)).length < W.length := by
  refine List.length_filter_lt_length_iff_exists.2 ⟨y, h, by simp⟩
theorem nextG_inv : ∀ (f s : Nat) (W : List Nat), W.length ≤ f → (∀ x ∈ W, s < x) →
    s ≤ (nextG f s W).1 ∧ (∀ x, x ∈ (nextG f s W).2 ↔ x ∈ W ∧ (nextG f s W).1 < x) ∧ (nextG f s W).1 + 1 ∉ (nextG f s W).2 ∧ (∀ x, s < x → x ≤ (nextG f s W).1 → x ∈ W)
  | 0, s, W, hf, hW => by
    obtain rfl : W = [] := List.length_eq_zero_iff.1 (by omega)
    refine ⟨Nat.le_refl _, fun x => by simp [nextG], by simp [nextG], fun x h1 h2 => ?_⟩
    simp only [nextG] at h2; omega
  | f + 1, s, W, hf, hW => by
    simp only [nextG]
    by_cases h : (s + 1) ∈ W
    · rw [if_pos h]
      have hl := filter_lt h
      have hW' : ∀ x ∈ W.filter (fun x => decide (x ≠ s + 1)), s + 1 < x := by
        intro x hx
        obtain ⟨h1, h2⟩ := List.mem_filter.1 hx
        have := hW x h1
        have h3 : x ≠ s + 1 := by simpa using h2
        omega
      obtain ⟨i1, i2, i3, i4⟩ := nextG_inv f (s + 1) _ (by omega) hW'
      refine ⟨by omega, fun x => ?_, i3, fun x h1 h2 => ?_⟩
      · rw [i2 x, List.mem_filter]
        constructor
        · rintro ⟨⟨a, _⟩, b⟩; exact ⟨a, b⟩
        · rintro ⟨a, b⟩; exact ⟨⟨a, by simp; omega⟩, b⟩
      · by_cases e : x = s + 1
        · rw [e]; exact h
        · exact (List.mem_filter.1 (i4 x (by omega) h2)).1
    · rw [if_neg h]
      exact ⟨Nat.le_refl _, fun x => ⟨fun hx => ⟨hx, hW x hx⟩, fun hx => hx.1⟩, h, fun x h1 h2 => by omega⟩
/-- Has a number come? -/
def Rec (s : Nat) (W : List Nat) (x : Nat) : Prop := x ≤ s ∨ x ∈ W
/-- A hearer of at most n: those that wait are beyond the next one. -/
def HOk (n s : Nat) (W : List Nat) : Prop := s ≤ n ∧ ∀ x ∈ W, s + 1 < x ∧ x ≤ n
def putW (s : Nat) (W : List Nat) (j : Nat) : List Nat := if s < j ∧ j ∉ W then j :: W else W
def hearS (s : Nat) (W : List Nat) (j : Nat) : Nat × List Nat := nextG (putW s W j).length s (putW s W j)
theorem putW_mem (s : Nat) (W : List Nat) (j x : Nat) : x ∈ putW s W j → x ∈ W ∨ (x = j ∧ s < j) := by
  unfold putW; split
  · rename_i h
    intro hx
    rcases List.mem_cons.1 hx with e | e
    · exact .inr ⟨e, h.1⟩
    · exact .inl e
  · exact .inl
theorem mem_putW (s : Nat) (W : List Nat) (j x : Nat) : (x ∈ W ∨ (x = j ∧ s < j)) → x ∈ putW s W j := by
  unfold putW; split
  · rintro (h | h)
    · exact List.mem_cons_of_mem _ h
    · rw [h.1]; exact List.mem_cons_self
  · rename_i hn
    rintro (h | ⟨rfl, h⟩)
    · exact h
    · exact Classical.byContradiction fun hx => hn ⟨h, hx⟩
theorem hear_ok {n s : Nat} {W : List Nat} {j : Nat} (h : HOk n s W) (hj : j ≤ n) :
    HOk n (hearS s W j).1 (hearS s W j).2 ∧ s ≤ (hearS s W j).1 ∧ (∀ x, Rec s W x → Rec (hearS s W j).1 (hearS s W j).2 x) ∧ Rec (hearS s W j).1 (hearS s W j).2 j := by
  have hp : ∀ x ∈ putW s W j, s < x := by
    intro x hx
    rcases putW_mem s W j x hx with e | ⟨rfl, e⟩
    · have := (h.2 x e).1; omega
    · exact e
  obtain ⟨i1, i2, i3, i4⟩ := nextG_inv (putW s W j).length s (putW s W j) (Nat.le_refl _) hp
  have hr : ∀ x, x ∈ putW s W j → Rec (hearS s W j).1 (hearS s W j).2 x := by
    intro x hx
    rcases Nat.lt_or_ge (hearS s W j).1 x with e | e
    · exact .inr ((i2 x).2 ⟨hx, e⟩)
    · exact .inl e
  have hn : ∀ x ∈ putW s W j, x ≤ n := by
    intro x hx
    rcases putW_mem s W j x hx with e | ⟨rfl, _⟩
    · exact (h.2 x e).2
    · exact hj
  refine ⟨⟨?_, fun x hx => ?_⟩, i1, fun x hx => ?_, ?_⟩
  · rcases Nat.lt_or_ge s (hearS s W j).1 with e | e
    · exact hn _ (i4 _ e (Nat.le_refl _))
    · have := h.1; exact Nat.le_trans e this
  · obtain ⟨a, b⟩ := (i2 x).1 hx
    refine ⟨?_, hn x a⟩
    have hne : x ≠ (hearS s W j).1 + 1 := fun e => i3 (e ▸ hx)
    have hb : (hearS s W j).1 < x := b
    omega
  · rcases hx with hx | hx
    · exact .inl (Nat.le_trans hx i1)
    · exact hr x (mem_putW s W j x (.inl hx))
  · rcases Nat.lt_or_ge s j with e | e
    · exact hr j (mem_putW s W j j (.inr ⟨rfl, e⟩))
    · exact .inl (Nat.le_trans e i1)
theorem all_rec {n s : Nat} {W : List Nat} (h : HOk n s W) (ha : ∀ x, 1 ≤ x → x ≤ n → Rec s W x) : s = n := by
  rcases Nat.lt_or_ge s n with e | e
  · rcases ha (s + 1) (by omega) (by omega) with h1 | h1
    · omega
    · have := (h.2 _ h1).1; omega
  · have := h.1; omega
/-- What is heard, one behind the other. -/
def hearL : List Nat → Nat → List Nat → Nat × List Nat
  | [], s, W => (s, W)
  | j :: l, s, W => hearL l (hearS s W j).1 (hearS s W j).2
theorem hearL_ok {n : Nat} : ∀ (l : List Nat) (s : Nat) (W : List Nat), HOk n s W → (∀ j ∈ l, j ≤ n) →
    HOk n (hearL l s W).1 (hearL l s W).2 ∧ s ≤ (hearL l s W).1 ∧ (∀ x, Rec s W x → Rec (hearL l s W).1 (hearL l s W).2 x) ∧ ∀ j ∈ l, Rec (hearL l s W).1 (hearL l s W).2 j
  | [], s, W, h, hl => ⟨h, Nat.le_refl _, fun x hx => hx, fun j hj => by cases hj⟩
  | j :: l, s, W, h, hl => by
    obtain ⟨a, b, c, d⟩ := hear_ok h (hl j (List.mem_cons_self))
    obtain ⟨a', b', c', d'⟩ := hearL_ok l _ _ a (fun x hx => hl x (List.mem_cons_of_mem _ hx))
    refine ⟨a', Nat.le_trans b b', fun x hx => c' x (c x hx), fun x hx => ?_⟩
    rcases List.mem_cons.1 hx with rfl | hx
    · exact c' _ d
    · exact d' x hx
/-- The numbers that are due. -/
def dueJ (h n now : Nat) (ds : Nat → Nat) : List Nat := ((List.range (n - h)).map fun k => k + h + 1).filter fun j => decide (ds j ≤ now)
def dsN (now : Nat) (ds : Nat → Nat) (j : Nat) : Nat := if ds j ≤ now then now + 3 else ds j
theorem mem_dueJ {h n now : Nat} {ds : Nat → Nat} {j : Nat} : j ∈ dueJ h n now ds ↔ (h < j ∧ j ≤ n) ∧ ds j ≤ now := by
  unfold dueJ
  rw [List.mem_filter, List.mem_map]
  constructor
  · rintro ⟨⟨k, hk, rfl⟩, hd⟩
    have := List.mem_range.1 hk
    exact ⟨by omega, by simpa using hd⟩
  · rintro ⟨⟨h1, h2⟩, h3⟩
    exact ⟨⟨j - h - 1, List.mem_range.2 (by omega), by omega⟩, by simpa using h3⟩
/-- A round of the last ten: what was not told in them is due at 42. -/
def TInv (h n s : Nat) (W : List Nat) (ds : Nat → Nat) : Prop := ∀ j, h < j → j ≤ n → Rec s W j ∨ ds j ≤ 42
theorem tail_step {h n s i : Nat} {W : List Nat} {ds : Nat → Nat} (hi : 40 ≤ i) (hk : HOk n s W) (ht : TInv h n s W ds) :
    TInv h n (hearL (dueJ h n i ds).reverse s W).1 (hearL (dueJ h n i ds).reverse s W).2 (dsN i ds) := by
  obtain ⟨a, b, c, d⟩ := hearL_ok (n := n) (dueJ h n i ds).reverse s W hk (fun j hj => (mem_dueJ.1 (List.mem_reverse.1 hj)).1.2)
  intro j h1 h2
  by_cases e : ds j ≤ i
  · exact .inl (d j (List.mem_reverse.2 (mem_dueJ.2 ⟨⟨h1, h2⟩, e⟩)))
  · rcases ht j h1 h2 with e2 | e2
    · exact .inl (c j e2)
    · exact .inr (by unfold dsN; rw [if_neg e]; exact e2)
theorem tail_done {h n s : Nat} {W : List Nat} {ds : Nat → Nat} (hs : h ≤ s) (hk : HOk n s W) (ht : TInv h n s W ds) : (hearL (dueJ h n 42 ds).reverse s W).1 = n := by
  obtain ⟨a, b, c, d⟩ := hearL_ok (n := n) (dueJ h n 42 ds).reverse s W hk (fun j hj => (mem_dueJ.1 (List.mem_reverse.1 hj)).1.2)
  refine all_rec a fun x h1 h2 => ?_
  rcases Nat.lt_or_ge h x with e | e
  · by_cases e2 : ds x ≤ 42
    · exact d x (List.mem_reverse.2 (mem_dueJ.2 ⟨⟨e, h2⟩, e2⟩))
    · rcases ht x e h2 with e3 | e3
      · exact c x e3
      · exact absurd e3 e2
  · exact c x (.inl (by omega))
end Go.Proofs.YtkkefgoidjjehaaDoor
