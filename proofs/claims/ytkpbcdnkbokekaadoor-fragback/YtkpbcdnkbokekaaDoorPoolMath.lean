/- Pieces that are put together: plain facts on numbers and lists. No condition is asked of a program. -/
import Derived.Test.YtkpbcdnkbokekaaDoorWireMath
namespace Go.Proofs.YtkpbcdnkbokekaaDoor
set_option linter.unusedVariables false

/-! ### as many numbers as there is room for are all of them -/
theorem room_le : ∀ (n : Nat) (l : List Nat), l.Nodup → (∀ x ∈ l, x < n) → l.length ≤ n ∧ (l.length = n → ∀ k, k < n → k ∈ l)
  | 0, l, _, h => by
      have : l = [] := List.eq_nil_iff_forall_not_mem.2 (fun x hx => by have := h x hx; omega)
      subst this; exact ⟨by simp, fun _ k hk => by omega⟩
  | n + 1, l, hn, h => by
      by_cases hm : n ∈ l
      · have h1 : (l.erase n).Nodup := hn.erase n
        have h2 : ∀ x ∈ l.erase n, x < n := fun x hx => by
          obtain ⟨h3, h4⟩ := (List.Nodup.mem_erase_iff hn).1 hx
          have := h x h4; omega
        have h5 := List.length_erase_of_mem hm
        have h6 : 0 < l.length := List.length_pos_of_mem hm
        obtain ⟨i1, i2⟩ := room_le n (l.erase n) h1 h2
        refine ⟨by omega, fun e k hk => ?_⟩
        by_cases hkn : k = n
        · rw [hkn]; exact hm
        · exact List.mem_of_mem_erase (i2 (by omega) k (by omega))
      · have h2 : ∀ x ∈ l, x < n := fun x hx => by
          have := h x hx
          have : x ≠ n := fun e => hm (e ▸ hx)
          omega
        obtain ⟨i1, i2⟩ := room_le n l hn h2
        exact ⟨by omega, fun e => by omega⟩
theorem room_ge : ∀ (n : Nat) (l : List Nat), (∀ k, k < n → k ∈ l) → n ≤ l.length
  | 0, l, _ => Nat.zero_le _
  | n + 1, l, h => by
      have hm := h n (by omega)
      have h5 := List.length_erase_of_mem hm
      have h6 : 0 < l.length := List.length_pos_of_mem hm
      have := room_ge n (l.erase n) (fun k hk => (List.mem_erase_of_ne (by omega)).2 (h k (by omega)))
      omega

/-! ### pieces -/
def loP (x : Pk) : Nat := (8 * x.pos).toNat
def hiP (x : Pk) : Nat := loP x + x.body.length
/-- Two pieces go together. -/
def FitP (y x : Pk) : Prop := (hiP y ≤ loP x ∨ hiP x ≤ loP y) ∧ (y.more = false → x.more = true ∧ hiP x ≤ hiP y) ∧ (x.more = false → y.more = true ∧ hiP y ≤ hiP x)
/-- A piece by itself. -/
def OneP (x : Pk) : Prop := 0 ≤ x.pos ∧ 0 < x.body.length ∧ (x.more = true → x.body.length % 8 = 0) ∧ hiP x ≤ 4000
structure GoodP (l : List Pk) : Prop where
  one : ∀ x ∈ l, OneP x
  fit : l.Pairwise FitP
/-- Is a piece wrong, by those that are there? -/
def wrongY (x y : Pk) : Bool :=
  (decide (8 * x.pos < 8 * y.pos + y.body.length) && decide (8 * y.pos < 8 * x.pos + x.body.length)) || (!y.more && (!x.more || decide (8 * x.pos + x.body.length > 8 * y.pos + y.body.length))) || (!x.more && decide (8 * y.pos + y.body.length > 8 * x.pos + x.body.length))
def wrongB (l : List Pk) (x : Pk) : Bool :=
  decide (x.body.length = 0) || (x.more && decide (¬ x.body.length % 8 = 0)) || decide (4000 < 8 * x.pos + x.body.length) || l.any (wrongY x)
def heldN (l : List Pk) : Nat := (l.map fun x => x.body.length).sum
def finN (l : List Pk) : Nat := match l.find? (fun x => !x.more) with | some x => hiP x | none => 0
def reachN : List Pk → Nat
  | [] => 0
  | x :: l => max (hiP x) (reachN l)
def ttlF (t : Int) (l : List Pk) : Int := l.foldl (fun t y => if y.ttl < t then y.ttl else t) t
def ttlM : List Pk → Int
  | [] => 0
  | x :: l => ttlF x.ttl l
def coverB (i : Nat) (x : Pk) : Bool := decide (loP x ≤ i) && decide (i < hiP x)
def byteAt (l : List Pk) (i : Nat) : Int := match l.find? (coverB i) with | some x => x.body.getD (i - loP x) 0 | none => 0
/-- What pieces make, up to a place. -/
def wholeN (l : List Pk) (n : Nat) : List Int := (List.range n).map (byteAt l)
def posL (l : List Pk) : List Nat := l.flatMap fun x => List.range' (loP x) x.body.length

theorem FitP.symm {y x : Pk} (h : FitP y x) : FitP x y := ⟨h.1.symm, h.2.2, h.2.1⟩
theorem loP_int {x : Pk} (h : 0 ≤ x.pos) : ((loP x : Nat) : Int) = 8 * x.pos := by unfold loP; omega
theorem wrongB_no {l : List Pk} {x : Pk} (hl : ∀ y ∈ l, OneP y) (hx : 0 ≤ x.pos) (h : wrongB l x = false) : OneP x ∧ ∀ y ∈ l, FitP y x := by
  unfold wrongB at h
  simp only [Bool.or_eq_false_iff, Bool.and_eq_false_iff, decide_eq_false_iff_not, List.any_eq_false] at h
  obtain ⟨⟨⟨h1, h2⟩, h3⟩, h4⟩ := h
  have ex := loP_int hx
  refine ⟨⟨hx, by omega, fun hm => ?_, by unfold hiP; omega⟩, fun y hy => ?_⟩
  · rcases h2 with h2 | h2
    · rw [hm] at h2; cases h2
    · exact Classical.not_not.1 h2
  · have h5 := h4 y hy
    unfold wrongY at h5
    obtain ⟨y0, _, _, _⟩ := hl y hy
    have ey := loP_int y0
    simp only [Bool.or_eq_true, Bool.and_eq_true, Bool.not_eq_true', decide_eq_true_eq, not_or, not_and] at h5
    obtain ⟨⟨a, b⟩, c⟩ := h5
    refine ⟨?_, fun hm => ?_, fun hm => ?_⟩
    · unfold hiP
      by_cases ha : 8 * x.pos < 8 * y.pos + y.body.length
      · have := a ha; right; omega
      · left; omega
    · obtain ⟨b1, b2⟩ := b hm
      refine ⟨by simpa using b1, by unfold hiP; omega⟩
    · have c1 := c hm
      refine ⟨?_, by unfold hiP; omega⟩
      rcases hy' : y.more with _ | _
      · obtain ⟨b1, _⟩ := b hy'
        exact absurd hm b1
      · rfl
theorem wrongB_yes {l : List Pk} {x : Pk} (hl : ∀ y ∈ l, OneP y) (h1 : OneP x) (h2 : ∀ y ∈ l, FitP y x) : wrongB l x = false := by
  obtain ⟨hx, h3, h4, h5⟩ := h1
  have ex := loP_int hx
  unfold hiP at h5
  unfold wrongB
  simp only [Bool.or_eq_false_iff, Bool.and_eq_false_iff, decide_eq_false_iff_not, List.any_eq_false]
  refine ⟨⟨⟨by omega, ?_⟩, by omega⟩, fun y hy => ?_⟩
  · rcases hm : x.more with _ | _
    · exact .inl rfl
    · exact .inr (fun h => h (h4 hm))
  · obtain ⟨y0, _, _, _⟩ := hl y hy
    have ey := loP_int y0
    obtain ⟨a, b, c⟩ := h2 y hy
    unfold hiP at a b c
    unfold wrongY
    simp only [Bool.or_eq_true, Bool.and_eq_true, Bool.not_eq_true', decide_eq_true_eq, not_or, not_and]
    refine ⟨⟨fun h => by rcases a with a | a <;> omega, fun hm => ?_⟩, fun hm => ?_⟩
    · obtain ⟨b1, b2⟩ := b hm
      exact ⟨by rw [b1]; simp, by omega⟩
    · obtain ⟨c1, c2⟩ := c hm
      omega
theorem GoodP.nil : GoodP [] := ⟨fun x hx => (by cases hx), .nil⟩
theorem GoodP.snoc {l : List Pk} {x : Pk} (h : GoodP l) (hx : 0 ≤ x.pos) (hw : wrongB l x = false) : GoodP (l ++ [x]) := by
  obtain ⟨h1, h2⟩ := wrongB_no h.one hx hw
  refine ⟨fun y hy => ?_, ?_⟩
  · rcases List.mem_append.1 hy with h' | h'
    · exact h.one y h'
    · rw [List.mem_singleton.1 h']; exact h1
  · rw [List.pairwise_append]
    refine ⟨h.fit, List.pairwise_singleton _ _, fun y hy z hz => ?_⟩
    rw [List.mem_singleton.1 hz]; exact h2 y hy
theorem GoodP.apart {l : List Pk} (h : GoodP l) {x y : Pk} (hx : x ∈ l) (hy : y ∈ l) (i : Nat) (h1 : loP x ≤ i ∧ i < hiP x) (h2 : loP y ≤ i ∧ i < hiP y) : x = y := by
  have hp := h.fit
  clear h
  induction l with
  | nil => cases hx
  | cons a r ih =>
    rw [List.pairwise_cons] at hp
    rcases List.mem_cons.1 hx with rfl | hx' <;> rcases List.mem_cons.1 hy with rfl | hy'
    · rfl
    · have := (hp.1 _ hy').1; omega
    · have := (hp.1 _ hx').1; omega
    · exact ih hx' hy' hp.2
theorem posL_mem {l : List Pk} {i : Nat} : i ∈ posL l ↔ ∃ x ∈ l, loP x ≤ i ∧ i < hiP x := by
  unfold posL hiP
  simp only [List.mem_flatMap, List.mem_range'_1]
theorem posL_len (l : List Pk) : (posL l).length = heldN l := by
  unfold posL heldN
  rw [List.length_flatMap]; simp
theorem posL_nodup {l : List Pk} (h : GoodP l) : (posL l).Nodup := by
  unfold posL List.Nodup
  rw [List.pairwise_flatMap]
  refine ⟨fun x _ => List.nodup_range', h.fit.imp (fun {a b} hf x hx y hy e => ?_)⟩
  subst e
  simp only [List.mem_range'_1] at hx hy
  have := hf.1
  unfold hiP at this
  omega
theorem fin_spec (l : List Pk) : (finN l = 0 ∧ ∀ x ∈ l, x.more = true) ∨ ∃ z ∈ l, z.more = false ∧ finN l = hiP z := by
  unfold finN
  rcases hf : l.find? (fun x => !x.more) with _ | z
  · left
    refine ⟨by rw [hf], fun x hx => ?_⟩
    have := List.find?_eq_none.1 hf x hx
    simpa using this
  · right
    have h1 := List.find?_some hf
    exact ⟨z, List.mem_of_find?_eq_some hf, by simpa using h1, by rw [hf]⟩
theorem pair_of {l : List Pk} (h : l.Pairwise FitP) {x y : Pk} (hx : x ∈ l) (hy : y ∈ l) : x = y ∨ FitP x y := by
  induction l with
  | nil => cases hx
  | cons a r ih =>
    rw [List.pairwise_cons] at h
    rcases List.mem_cons.1 hx with rfl | hx' <;> rcases List.mem_cons.1 hy with rfl | hy'
    · exact .inl rfl
    · exact .inr (h.1 _ hy')
    · exact .inr (h.1 _ hx').symm
    · exact ih h.2 hx' hy'
theorem GoodP.under {l : List Pk} (h : GoodP l) {z : Pk} (hz : z ∈ l) (hm : z.more = false) : ∀ x ∈ l, hiP x ≤ hiP z := by
  intro x hx
  rcases pair_of h.fit hz hx with rfl | hf
  · exact Nat.le_refl _
  · exact (hf.2.1 hm).2
theorem GoodP.fin {l : List Pk} (h : GoodP l) {z : Pk} (hz : z ∈ l) (hm : z.more = false) : finN l = hiP z := by
  rcases fin_spec l with ⟨_, h2⟩ | ⟨y, hy, hym, e⟩
  · have := h2 z hz; rw [hm] at this; cases this
  · rw [e]
    exact Nat.le_antisymm (h.under hz hm y hy) (h.under hy hym z hz)
/-- Pieces have no more bytes than there is room for; and if as many, they leave no gap. -/
theorem GoodP.held {l : List Pk} (h : GoodP l) {z : Pk} (hz : z ∈ l) (hm : z.more = false) : heldN l ≤ finN l ∧ (heldN l = finN l → ∀ i, i < finN l → ∃ x ∈ l, loP x ≤ i ∧ i < hiP x) := by
  have h1 := room_le (finN l) (posL l) (posL_nodup h) (fun i hi => by
    obtain ⟨x, hx, _, h2⟩ := posL_mem.1 hi
    have := h.under hz hm x hx
    rw [h.fin hz hm]; omega)
  rw [posL_len] at h1
  exact ⟨h1.1, fun e i hi => posL_mem.1 (h1.2 e i hi)⟩
theorem GoodP.full {l : List Pk} (h : GoodP l) {z : Pk} (hz : z ∈ l) (hm : z.more = false) (hc : ∀ i, i < finN l → ∃ x ∈ l, loP x ≤ i ∧ i < hiP x) : heldN l = finN l := by
  have h1 := room_ge (finN l) (posL l) (fun i hi => posL_mem.2 (hc i hi))
  rw [posL_len] at h1
  have := (h.held hz hm).1
  omega
theorem heldN_pos {l : List Pk} (h : GoodP l) {x : Pk} (hx : x ∈ l) : 0 < heldN l := by
  have h1 : loP x ∈ posL l := posL_mem.2 ⟨x, hx, Nat.le_refl _, by have := (h.one x hx).2.1; unfold hiP; omega⟩
  have h2 := List.length_pos_of_mem h1
  rw [posL_len] at h2; exact h2
/-- A place where pieces begin, or one ends. -/
def EdgeP (l : List Pk) (n : Nat) : Prop := n = 0 ∨ ∃ x ∈ l, hiP x = n ∧ x.more = true
/-- Where there is no gap, a piece begins at each edge. -/
theorem GoodP.next {l : List Pk} (h : GoodP l) {n : Nat} (he : EdgeP l n) {y : Pk} (hy : y ∈ l) (h1 : loP y ≤ n) (h2 : n < hiP y) : loP y = n := by
  rcases he with rfl | ⟨x, hx, e, _⟩
  · omega
  · by_cases hc : loP y = n
    · exact hc
    · exfalso
      have hx0 := (h.one x hx).2.1
      have hle : loP x ≤ n - 1 ∧ n - 1 < hiP x := by unfold hiP at e ⊢; omega
      have := h.apart hx hy (n - 1) hle (by omega)
      subst this
      omega
theorem GoodP.edge8 {l : List Pk} (h : GoodP l) {n : Nat} (he : EdgeP l n) : n % 8 = 0 := by
  rcases he with rfl | ⟨x, hx, e, hm⟩
  · rfl
  · have h1 := (h.one x hx).2.2.1 hm
    have h0 := loP_int (h.one x hx).1
    unfold hiP at e
    omega
theorem byteAt_of {l : List Pk} (h : GoodP l) {x : Pk} (hx : x ∈ l) {i : Nat} (h1 : loP x ≤ i) (h2 : i < hiP x) : byteAt l i = x.body.getD (i - loP x) 0 := by
  unfold byteAt
  rcases hf : l.find? (coverB i) with _ | y
  · have := List.find?_eq_none.1 hf x hx
    simp [coverB, h1, h2] at this
  · have hy := List.mem_of_find?_eq_some hf
    have hc := List.find?_some hf
    simp only [coverB, Bool.and_eq_true, decide_eq_true_eq] at hc
    have := h.apart hx hy i ⟨h1, h2⟩ hc
    subst this; rfl
theorem wholeN_len (l : List Pk) (n : Nat) : (wholeN l n).length = n := by simp [wholeN]
theorem wholeN_step {l : List Pk} (h : GoodP l) {x : Pk} (hx : x ∈ l) : wholeN l (loP x) ++ x.body = wholeN l (hiP x) := by
  unfold wholeN
  have e : List.range (hiP x) = List.range (loP x) ++ (List.range x.body.length).map (loP x + ·) := by unfold hiP; rw [List.range_add]
  rw [e, List.map_append, List.map_map]
  congr 1
  refine List.ext_getElem (by simp) (fun i h1 h2 => ?_)
  have hi : i < x.body.length := h1
  simp only [List.getElem_map, List.getElem_range, Function.comp]
  rw [byteAt_of h hx (by omega) (by unfold hiP; omega), Nat.add_sub_cancel_left]
  simp [List.getD, hi]
/-- A step: the edge moves on. -/
theorem EdgeP.step {l : List Pk} {x : Pk} (hx : x ∈ l) (hm : x.more = true) : EdgeP l (hiP x) := .inr ⟨x, hx, rfl, hm⟩

theorem heldN_snoc (l : List Pk) (x : Pk) : heldN (l ++ [x]) = heldN l + x.body.length := by simp [heldN]
theorem reachN_snoc (l : List Pk) (x : Pk) : reachN (l ++ [x]) = max (reachN l) (hiP x) := by
  induction l with
  | nil => simp [reachN]
  | cons a r ih => show max (hiP a) (reachN (r ++ [x])) = max (max (hiP a) (reachN r)) (hiP x); rw [ih]; omega
theorem reachN_ge {l : List Pk} {x : Pk} (h : x ∈ l) : hiP x ≤ reachN l := by
  induction l with
  | nil => cases h
  | cons a r ih =>
    show _ ≤ max (hiP a) (reachN r)
    rcases List.mem_cons.1 h with rfl | h
    · omega
    · have := ih h; omega
theorem reachN_in {l : List Pk} (h : 0 < reachN l) : ∃ x ∈ l, hiP x = reachN l := by
  induction l with
  | nil => simp [reachN] at h
  | cons a r ih =>
    have e : reachN (a :: r) = max (hiP a) (reachN r) := rfl
    by_cases hc : reachN r ≤ hiP a
    · exact ⟨a, List.mem_cons_self, by omega⟩
    · obtain ⟨x, hx, ex⟩ := ih (by omega)
      exact ⟨x, List.mem_cons_of_mem _ hx, by omega⟩
theorem finN_snoc {l : List Pk} {x : Pk} (h : GoodP (l ++ [x])) : finN (l ++ [x]) = if x.more then finN l else hiP x := by
  rcases hm : x.more with _ | _
  · simp only [Bool.false_eq_true, if_false]; exact h.fin (List.mem_append_right _ (List.mem_singleton.2 rfl)) hm
  · simp only [if_true]
    unfold finN
    rw [List.find?_append]
    rcases hf : l.find? (fun x => !x.more) with _ | z
    · simp [hf, hm]
    · simp [hf]
theorem ttlM_snoc (l : List Pk) (x : Pk) : ttlM (l ++ [x]) = if l = [] ∨ x.ttl < ttlM l then x.ttl else ttlM l := by
  match l with
  | [] => simp [ttlM, ttlF]
  | a :: r => simp [ttlM, ttlF, List.foldl_append]
theorem ttlF_spec (l : List Pk) : ∀ t, ttlF t l ≤ t ∧ (∀ y ∈ l, ttlF t l ≤ y.ttl) ∧ (ttlF t l = t ∨ ∃ y ∈ l, ttlF t l = y.ttl) := by
  induction l with
  | nil => intro t; exact ⟨Int.le_refl _, fun y hy => (by cases hy), .inl rfl⟩
  | cons a r ih =>
    intro t
    have e : ttlF t (a :: r) = ttlF (if a.ttl < t then a.ttl else t) r := rfl
    obtain ⟨h1, h2, h3⟩ := ih (if a.ttl < t then a.ttl else t)
    rw [e]
    refine ⟨?_, fun y hy => ?_, ?_⟩
    · exact Int.le_trans h1 (by split <;> omega)
    · rcases List.mem_cons.1 hy with rfl | hy
      · exact Int.le_trans h1 (by split <;> omega)
      · exact h2 y hy
    · rcases h3 with h3 | ⟨y, hy, h3⟩
      · by_cases hc : a.ttl < t
        · rw [if_pos hc] at h3 ⊢; exact .inr ⟨a, List.mem_cons_self, h3⟩
        · rw [if_neg hc] at h3 ⊢; exact .inl h3
      · exact .inr ⟨y, List.mem_cons_of_mem _ hy, h3⟩
/-- Whichever one begins, the least is the least. -/
theorem ttlF_any {l : List Pk} {x : Pk} (hx : x ∈ l) : ttlF x.ttl l = ttlM l := by
  match l, hx with
  | a :: r, hx =>
    have e : ttlM (a :: r) = ttlF a.ttl (a :: r) := by simp [ttlM, ttlF]
    rw [e]
    obtain ⟨h1, h2, h3⟩ := ttlF_spec (a :: r) x.ttl
    obtain ⟨k1, k2, k3⟩ := ttlF_spec (a :: r) a.ttl
    refine Int.le_antisymm ?_ ?_
    · rcases k3 with k3 | ⟨y, hy, k3⟩
      · rw [k3]; exact h2 a List.mem_cons_self
      · rw [k3]; exact h2 y hy
    · rcases h3 with h3 | ⟨y, hy, h3⟩
      · rw [h3]; exact k2 x hx
      · rw [h3]; exact k2 y hy

/-! ### a pool -/
structure Nm where
  kind : Int
  src : Int
  dst : Int
  ident : Int
deriving DecidableEq
def nmOf (p : Pk) : Nm := ⟨p.kind, p.src, p.dst, p.ident⟩
/-- What has come of one packet. -/
structure Hp where
  name : Nm
  began : Int
  bad : Bool
  all : List Pk
structure Po where
  life : Int
  now : Int
  l : List Hp
def tickE (s : Po) (now : Int) : Int := if now < 0 ∨ 1000000 < now then 1 else if now < s.now then 6 else 0
def oldB (life now : Int) (h : Hp) : Bool := decide (life ≤ now - h.began)
def tickS (s : Po) (now : Int) : Po := if tickE s now = 0 then { life := s.life, now := now, l := s.l.filter fun h => !oldB s.life now h } else s
def getH (l : List Hp) (n : Nm) : Option Hp := l.find? fun h => decide (h.name = n)
def setH (l : List Hp) (h : Hp) : List Hp := if (getH l h.name).isSome then l.map (fun g => if g.name = h.name then h else g) else l ++ [h]
def delH (l : List Hp) (n : Nm) : List Hp := l.filter fun h => decide (¬ h.name = n)
def madeP (x : Pk) (all : List Pk) : Pk := { x with ttl := ttlM all, pos := 0, more := false, body := wholeN all (finN all) }
def orNew (o : Option Hp) (n : Nm) (now : Int) : Hp := o.getD { name := n, began := now, bad := false, all := [] }
/-- What is done with a piece of a packet that is there, or begins. -/
def addH (s : Po) (h : Hp) (x : Pk) : Po × Pk × Bool × Int :=
  if h.bad then (s, zeroK, false, 6) else
  if wrongB h.all x then ({ s with l := setH s.l { h with bad := true, all := [] } }, zeroK, false, 3) else
  if heldN (h.all ++ [x]) = finN (h.all ++ [x]) then ({ s with l := delH s.l h.name }, madeP x (h.all ++ [x]), true, 0) else
  ({ s with l := setH s.l { h with all := h.all ++ [x] } }, zeroK, false, 0)
def addA (s : Po) (x : Pk) (now : Int) : Po × Pk × Bool × Int :=
  if ¬ pkErr x = 0 then (s, zeroK, false, pkErr x) else
  if ¬ tickE s now = 0 then (s, zeroK, false, tickE s now) else
  if x.pos = 0 ∧ x.more = false then (tickS s now, x, true, 0) else
  if getH (tickS s now).l (nmOf x) = none ∧ 8 ≤ (tickS s now).l.length then (tickS s now, zeroK, false, 4) else
  addH (tickS s now) (orNew (getH (tickS s now).l (nmOf x)) (nmOf x) now) x
/-- A pool as it may be. -/
structure OkH (h : Hp) : Prop where
  good : GoodP h.all
  none_ : h.bad = true → h.all = []
  kin : ∀ x ∈ h.all, nmOf x = h.name ∧ pkErr x = 0
structure OkP (s : Po) : Prop where
  each : ∀ h ∈ s.l, OkH h
  apart : s.l.Pairwise (fun g h => g.name ≠ h.name)
  few : s.l.length ≤ 8
theorem getH_some {l : List Hp} {n : Nm} {h : Hp} (e : getH l n = some h) : h ∈ l ∧ h.name = n := by
  unfold getH at e
  have h1 := List.find?_some e
  exact ⟨List.mem_of_find?_eq_some e, by simpa using h1⟩
theorem getH_none {l : List Hp} {n : Nm} (e : getH l n = none) : ∀ h ∈ l, h.name ≠ n := by
  intro h hh
  have := List.find?_eq_none.1 e h hh
  simpa using this
theorem OkP.tick {s : Po} (h : OkP s) (now : Int) : OkP (tickS s now) := by
  unfold tickS
  split
  · exact ⟨fun g hg => h.each g (List.mem_filter.1 hg).1, h.apart.filter _, Nat.le_trans (List.length_filter_le _ _) h.few⟩
  · exact h
theorem tickS_len (s : Po) (now : Int) : (tickS s now).l.length ≤ s.l.length := by
  unfold tickS
  split
  · exact List.length_filter_le _ _
  · exact Nat.le_refl _
theorem setH_old {l : List Hp} {h g : Hp} (e : getH l h.name = some g) : setH l h = l.map (fun g => if g.name = h.name then h else g) := by unfold setH; rw [e]; rfl
theorem setH_new {l : List Hp} {h : Hp} (e : getH l h.name = none) : setH l h = l ++ [h] := by unfold setH; rw [e]; rfl
theorem setH_mem {l : List Hp} {h g : Hp} (hg : g ∈ setH l h) : g = h ∨ (g ∈ l ∧ g.name ≠ h.name) := by
  unfold setH at hg
  split at hg
  · obtain ⟨k, hk, rfl⟩ := List.mem_map.1 hg
    by_cases hn : k.name = h.name
    · rw [if_pos hn]; exact .inl rfl
    · rw [if_neg hn]; exact .inr ⟨hk, hn⟩
  · rename_i hs
    have hn : getH l h.name = none := by
      rcases hx : getH l h.name with _ | y
      · rfl
      · rw [hx] at hs; simp at hs
    rcases List.mem_append.1 hg with h' | h'
    · exact .inr ⟨h', getH_none hn g h'⟩
    · exact .inl (List.mem_singleton.1 h')
theorem setH_apart {l : List Hp} {h : Hp} (ha : l.Pairwise (fun g h => g.name ≠ h.name)) : (setH l h).Pairwise (fun g h => g.name ≠ h.name) := by
  unfold setH
  split
  · rw [List.pairwise_map]
    refine ha.imp (fun {a b} hab => ?_)
    by_cases h1 : a.name = h.name <;> by_cases h2 : b.name = h.name
    · exact absurd (h1.trans h2.symm) hab
    · rw [if_pos h1, if_neg h2]; exact fun e => h2 e.symm
    · rw [if_neg h1, if_pos h2]; exact h1
    · rw [if_neg h1, if_neg h2]; exact hab
  · rename_i hs
    have hn : getH l h.name = none := by
      rcases hx : getH l h.name with _ | y
      · rfl
      · rw [hx] at hs; simp at hs
    rw [List.pairwise_append]
    refine ⟨ha, List.pairwise_singleton _ _, fun g hg k hk => ?_⟩
    rw [List.mem_singleton.1 hk]; exact getH_none hn g hg
theorem setH_len {l : List Hp} {h : Hp} : (setH l h).length = if getH l h.name = none then l.length + 1 else l.length := by
  unfold setH
  rcases hx : getH l h.name with _ | y <;> simp
end Go.Proofs.YtkpbcdnkbokekaaDoor
