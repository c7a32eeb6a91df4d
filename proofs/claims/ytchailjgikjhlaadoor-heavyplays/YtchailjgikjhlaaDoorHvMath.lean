/- Counts that tell who does most: plain facts on lists of keys and numbers. What Add and Merge make of them, what may be lacking, and that it is no more than a part of all. No condition is asked of a program. -/
namespace Go.Proofs.YtchailjgikjhlaaDoor
set_option linter.unusedVariables false

abbrev Cs := List (Int × Int)
/-- What a key has: 0, if it has none. -/
def getC : Cs → Int → Int
  | [], _ => 0
  | p :: r, k => if p.1 = k then p.2 else getC r k
def ApC (l : Cs) : Prop := l.Pairwise fun p q => p.1 ≠ q.1
def PosC (l : Cs) : Prop := ∀ p ∈ l, 1 ≤ p.2
def sumC : Cs → Int
  | [] => 0
  | p :: r => p.2 + sumC r
def leastL (many : Int) : Cs → Int
  | [] => many
  | p :: r => min p.2 (leastL many r)
/-- What is there while a part is being taken: of those still to come nothing is. -/
def tkO (part : Int) (todo : Int → Bool) (p : Int × Int) : Option (Int × Int) :=
  if todo p.1 = true then some p else if part < p.2 then some (p.1, p.2 - part) else none
def takeW (part : Int) (todo : Int → Bool) (l : Cs) : Cs := l.filterMap (tkO part todo)
def takeL (part : Int) (l : Cs) : Cs := takeW part (fun _ => false) l
def neC (k : Int) (p : Int × Int) : Bool := !decide (p.1 = k)
def putC (l : Cs) (k v : Int) : Cs := (k, v) :: l.filter (neC k)
/-- A Heavy: how many counts, what may be lacking, all, the counts in whatever order. -/
structure Hv where
  n : Int
  less : Int
  all : Int
  l : Cs
def addE (h : Hv) (many : Int) : Int := if many < 1 ∨ 1000000 < many then 1 else if 1099511627776 < h.all + many then 4 else 0
def roomB (h : Hv) (k : Int) : Bool := decide (0 < getC h.l k) || decide ((h.l.length : Int) < h.n)
def restL (l : Cs) (k m : Int) : Cs := if 0 < m then putC l k (getC l k + m) else l
def addG (h : Hv) (k many : Int) : Hv :=
  if roomB h k = true then { n := h.n, less := h.less, all := h.all + many, l := restL h.l k many }
  else { n := h.n, less := h.less + leastL many h.l, all := h.all + many, l := restL (takeL (leastL many h.l) h.l) k (many - leastL many h.l) }
def addS (h : Hv) (k many : Int) : Hv := if addE h many = 0 then addG h k many else h

theorem getC_not {l : Cs} {k : Int} (h : ∀ p ∈ l, p.1 ≠ k) : getC l k = 0 := by
  induction l with
  | nil => rfl
  | cons p r ih =>
    unfold getC
    rw [if_neg (h p (List.mem_cons_self ..))]
    exact ih (fun q hq => h q (List.mem_cons_of_mem _ hq))
theorem getC_mem {l : Cs} {k v : Int} (ha : ApC l) (h : (k, v) ∈ l) : getC l k = v := by
  induction l with
  | nil => cases h
  | cons p r ih =>
    unfold ApC at ha
    rw [List.pairwise_cons] at ha
    unfold getC
    rcases List.mem_cons.1 h with rfl | h'
    · simp
    · rw [if_neg (ha.1 _ h')]
      exact ih ha.2 h'
theorem getC_in {l : Cs} {k : Int} (h : ¬ getC l k = 0) : (k, getC l k) ∈ l := by
  induction l with
  | nil => exact absurd rfl h
  | cons p r ih =>
    unfold getC at h ⊢
    split
    · rename_i e
      rw [← e]
      exact List.mem_cons_self ..
    · rename_i e
      rw [if_neg e] at h
      exact List.mem_cons_of_mem _ (ih h)
theorem getC_nonneg {l : Cs} (hp : PosC l) (k : Int) : 0 ≤ getC l k := by
  by_cases h : getC l k = 0
  · omega
  · have := hp _ (getC_in h)
    simp only at this
    omega
theorem getC_zero {l : Cs} {k : Int} (hp : PosC l) (h : ¬ 0 < getC l k) : ∀ p ∈ l, p.1 ≠ k := by
  induction l with
  | nil => intro p hp'; cases hp'
  | cons p r ih =>
    unfold getC at h
    have h1 := hp p (List.mem_cons_self ..)
    intro q hq
    split at h
    · omega
    · rename_i e
      rcases List.mem_cons.1 hq with rfl | hq
      · exact e
      · exact ih (fun x hx => hp x (List.mem_cons_of_mem _ hx)) h q hq
theorem getC_sum {l : Cs} (hp : PosC l) (k : Int) : getC l k ≤ sumC l := by
  induction l with
  | nil => exact Int.le_refl _
  | cons p r ih =>
    have h1 := hp p (List.mem_cons_self ..)
    have h2 := ih (fun x hx => hp x (List.mem_cons_of_mem _ hx))
    have h3 := getC_nonneg (fun x hx => hp x (List.mem_cons_of_mem _ hx)) k (l := r)
    unfold getC sumC
    split <;> omega
theorem mem_sum {l : Cs} (hp : PosC l) : ∀ p ∈ l, p.2 ≤ sumC l := by
  induction l with
  | nil => intro p hp'; cases hp'
  | cons q r ih =>
    have h1 := hp q (List.mem_cons_self ..)
    have h2 := ih (fun x hx => hp x (List.mem_cons_of_mem _ hx))
    have h3 : 0 ≤ sumC r := by
      have := getC_sum (fun x hx => hp x (List.mem_cons_of_mem _ hx)) 0 (l := r)
      have := getC_nonneg (fun x hx => hp x (List.mem_cons_of_mem _ hx)) 0 (l := r)
      omega
    intro p hp'
    unfold sumC
    rcases List.mem_cons.1 hp' with rfl | h
    · omega
    · have := h2 p h; omega
theorem sum_nonneg {l : Cs} (hp : PosC l) : 0 ≤ sumC l := by
  have := getC_sum hp 0
  have := getC_nonneg hp 0
  omega
theorem sumC_perm {l l' : Cs} (h : l.Perm l') : sumC l = sumC l' := by
  induction h with
  | nil => rfl
  | cons x _ ih => unfold sumC; omega
  | swap x y l => simp only [sumC]; omega
  | trans _ _ i1 i2 => omega
theorem ApC.perm {l l' : Cs} (ha : ApC l) (h : l.Perm l') : ApC l' := (h.pairwise_iff (R := fun p q : Int × Int => p.1 ≠ q.1) (fun {_ _} h => Ne.symm h)).1 ha
theorem getC_perm {l l' : Cs} (ha : ApC l) (h : l.Perm l') (k : Int) : getC l k = getC l' k := by
  by_cases h0 : getC l k = 0
  · by_cases h1 : getC l' k = 0
    · omega
    · exact getC_mem ha (h.mem_iff.2 (getC_in h1))
  · exact (getC_mem (ha.perm h) (h.mem_iff.1 (getC_in h0))).symm
theorem PosC.perm {l l' : Cs} (hp : PosC l) (h : l.Perm l') : PosC l' := fun p hm => hp p (h.mem_iff.2 hm)

/-! ### a count that is put -/
theorem neC_iff {k : Int} {p : Int × Int} : neC k p = true ↔ p.1 ≠ k := by simp [neC]
theorem getC_filter {l : Cs} {k j : Int} (h : j ≠ k) : getC (l.filter (neC k)) j = getC l j := by
  induction l with
  | nil => rfl
  | cons p r ih =>
    by_cases e : neC k p = true
    · rw [List.filter_cons_of_pos e]
      unfold getC
      rw [ih]
    · rw [List.filter_cons_of_neg e, ih]
      conv => rhs; unfold getC
      rw [if_neg]
      intro e2
      apply e
      rw [neC_iff, e2]
      exact h
theorem getC_put {l : Cs} (k v j : Int) : getC (putC l k v) j = if j = k then v else getC l j := by
  unfold putC
  rw [getC]
  by_cases e : j = k
  · simp [e]
  · rw [if_neg (fun e2 => e e2.symm), if_neg e, getC_filter e]
theorem apC_put {l : Cs} (ha : ApC l) (k v : Int) : ApC (putC l k v) := by
  unfold ApC putC
  rw [List.pairwise_cons]
  refine ⟨fun q hq => ?_, ha.filter _⟩
  have := (List.mem_filter.1 hq).2
  rw [neC_iff] at this
  exact fun e => this e.symm
theorem posC_put {l : Cs} (hp : PosC l) {k v : Int} (hv : 1 ≤ v) : PosC (putC l k v) := by
  intro p h
  rcases List.mem_cons.1 h with rfl | h
  · exact hv
  · exact hp p (List.mem_filter.1 h).1
theorem filter_not {l : Cs} {k : Int} (h : ∀ p ∈ l, p.1 ≠ k) : l.filter (neC k) = l := List.filter_eq_self.2 (fun p hp => neC_iff.2 (h p hp))
theorem filter_one {l : Cs} {k v : Int} (ha : ApC l) (h : (k, v) ∈ l) : l.Perm ((k, v) :: l.filter (neC k)) := by
  induction l with
  | nil => cases h
  | cons p r ih =>
    unfold ApC at ha
    rw [List.pairwise_cons] at ha
    rcases List.mem_cons.1 h with rfl | h'
    · have e : ¬ neC k (k, v) = true := by simp [neC]
      rw [List.filter_cons_of_neg e, filter_not (fun q hq => (ha.1 q hq).symm)]
    · have e : neC k p = true := neC_iff.2 (ha.1 _ h')
      rw [List.filter_cons_of_pos e]
      exact (List.Perm.cons p (ih ha.2 h')).trans (List.Perm.swap _ _ _)
theorem sum_put {l : Cs} (ha : ApC l) (hp : PosC l) (k m : Int) : sumC (putC l k (getC l k + m)) = sumC l + m := by
  by_cases h : getC l k = 0
  · have e := getC_zero hp (k := k) (by omega)
    unfold putC
    rw [filter_not e, h]
    simp only [sumC]; omega
  · have := sumC_perm (filter_one ha (getC_in h))
    unfold putC
    simp only [sumC] at this ⊢
    omega
theorem len_put_in {l : Cs} (ha : ApC l) {k v : Int} (h : ¬ getC l k = 0) : (putC l k v).length = l.length := by
  have := (filter_one ha (getC_in h)).length_eq
  unfold putC
  simp only [List.length_cons] at this ⊢
  omega
theorem len_put_le (l : Cs) (k v : Int) : (putC l k v).length ≤ l.length + 1 := by
  unfold putC
  have := List.length_filter_le (neC k) l
  simp only [List.length_cons]
  omega

/-! ### a part that is taken -/
theorem fm_congr {α β : Type} {l : List α} {f g : α → Option β} (h : ∀ x ∈ l, f x = g x) : l.filterMap f = l.filterMap g := by
  induction l with
  | nil => rfl
  | cons a r ih =>
    rw [List.filterMap_cons, List.filterMap_cons, h a (List.mem_cons_self ..), ih (fun x hx => h x (List.mem_cons_of_mem _ hx))]
theorem takeW_all {l : Cs} (part : Int) {todo : Int → Bool} (h : ∀ p ∈ l, todo p.1 = true) : takeW part todo l = l := by
  unfold takeW
  induction l with
  | nil => rfl
  | cons p r ih =>
    rw [List.filterMap_cons]
    have e : tkO part todo p = some p := by unfold tkO; rw [if_pos (h p (List.mem_cons_self ..))]
    rw [e]
    simp only
    rw [ih (fun q hq => h q (List.mem_cons_of_mem _ hq))]
theorem takeW_none {l : Cs} (part : Int) {todo : Int → Bool} (h : ∀ p ∈ l, todo p.1 = false) : takeW part todo l = takeL part l := by
  unfold takeL takeW
  refine fm_congr (fun p hp => ?_)
  unfold tkO
  rw [h p hp]
def setC (k v : Int) (p : Int × Int) : Int × Int := if p.1 = k then (k, v) else p
def strike (todo : Int → Bool) (k : Int) (z : Int) : Bool := todo z && !decide (z = k)
theorem ap_one {l : Cs} (ha : ApC l) {k c : Int} (h : (k, c) ∈ l) {p : Int × Int} (hp : p ∈ l) (e : p.1 = k) : p = (k, c) := by
  have h1 := getC_mem ha h
  have h2 := getC_mem (k := p.1) (v := p.2) ha hp
  rw [e, h1] at h2
  exact Prod.ext e h2.symm
theorem takeW_set {l : Cs} {part k c : Int} {todo : Int → Bool} (ha : ApC l) (h : (k, c) ∈ l) (ht : todo k = true) (hc : part < c) :
    (takeW part todo l).map (setC k (c - part)) = takeW part (strike todo k) l := by
  unfold takeW
  rw [List.map_filterMap]
  refine fm_congr (fun p hp => ?_)
  by_cases e : p.1 = k
  · have := ap_one ha h hp e
    subst this
    simp [tkO, setC, strike, ht, hc]
  · have e1 : strike todo k p.1 = todo p.1 := by simp [strike, e]
    unfold tkO
    rw [e1]
    split
    · simp [setC, e]
    · split
      · simp [setC, e]
      · rfl
theorem takeW_del {l : Cs} {part k c : Int} {todo : Int → Bool} (ha : ApC l) (h : (k, c) ∈ l) (ht : todo k = true) (hc : ¬ part < c) :
    (takeW part todo l).filter (neC k) = takeW part (strike todo k) l := by
  unfold takeW
  rw [List.filter_filterMap]
  refine fm_congr (fun p hp => ?_)
  by_cases e : p.1 = k
  · have := ap_one ha h hp e
    subst this
    simp [tkO, neC, strike, ht, hc, Option.filter]
  · have e1 : strike todo k p.1 = todo p.1 := by simp [strike, e]
    unfold tkO
    rw [e1]
    split
    · simp [neC, e, Option.filter]
    · split
      · simp [neC, e, Option.filter]
      · rfl
theorem takeW_mem {l : Cs} {part k c : Int} {todo : Int → Bool} (h : (k, c) ∈ l) (ht : todo k = true) : (k, c) ∈ takeW part todo l := by
  unfold takeW
  refine List.mem_filterMap.2 ⟨(k, c), h, ?_⟩
  simp [tkO, ht]
theorem takeW_inv {l : Cs} {part : Int} {todo : Int → Bool} (ha : ApC l) {k c : Int} (h : (k, c) ∈ takeW part todo l) (ht : todo k = true) : (k, c) ∈ l := by
  unfold takeW at h
  obtain ⟨p, hp, e⟩ := List.mem_filterMap.1 h
  unfold tkO at e
  split at e
  · cases e; exact hp
  · rename_i h0
    split at e
    · cases e
      exact absurd ht h0
    · cases e
theorem takeW_len (part : Int) (todo : Int → Bool) (l : Cs) : (takeW part todo l).length ≤ l.length := List.length_filterMap_le _ _
theorem take_cons (part : Int) (p : Int × Int) (r : Cs) : takeL part (p :: r) = if part < p.2 then (p.1, p.2 - part) :: takeL part r else takeL part r := by
  unfold takeL takeW
  rw [List.filterMap_cons]
  unfold tkO
  by_cases h : part < p.2
  · simp [h]
  · simp [h]
theorem take_mem {part : Int} {l : Cs} {p : Int × Int} : p ∈ takeL part l ↔ (p.1, p.2 + part) ∈ l ∧ 0 < p.2 := by
  induction l with
  | nil => simp [takeL, takeW]
  | cons q r ih =>
    rw [take_cons]
    obtain ⟨a, b⟩ := p
    obtain ⟨c, d⟩ := q
    split
    · rename_i h
      simp only at h
      simp only [List.mem_cons, Prod.mk.injEq, ih]
      constructor
      · rintro (⟨rfl, rfl⟩ | h2)
        · exact ⟨Or.inl ⟨rfl, by omega⟩, by omega⟩
        · exact ⟨Or.inr h2.1, h2.2⟩
      · rintro ⟨⟨rfl, h2⟩ | h2, h3⟩
        · exact Or.inl ⟨rfl, by omega⟩
        · exact Or.inr ⟨h2, h3⟩
    · rename_i h
      simp only at h
      simp only [List.mem_cons, Prod.mk.injEq, ih]
      constructor
      · rintro h2
        exact ⟨Or.inr h2.1, h2.2⟩
      · rintro ⟨⟨rfl, h2⟩ | h2, h3⟩
        · omega
        · exact ⟨h2, h3⟩
theorem apC_take {l : Cs} (ha : ApC l) (part : Int) : ApC (takeL part l) := by
  induction l with
  | nil => exact List.Pairwise.nil
  | cons q r ih =>
    unfold ApC at ha
    rw [List.pairwise_cons] at ha
    rw [take_cons]
    split
    · unfold ApC
      rw [List.pairwise_cons]
      refine ⟨fun p hp => ?_, ih ha.2⟩
      exact ha.1 (p.1, p.2 + part) (take_mem.1 hp).1
    · exact ih ha.2
theorem posC_take (l : Cs) (part : Int) : PosC (takeL part l) := fun p hp => by have := (take_mem.1 hp).2; omega
theorem getC_take {l : Cs} (ha : ApC l) (hp : PosC l) {part : Int} (h0 : 0 ≤ part) (k : Int) : getC (takeL part l) k = max (getC l k - part) 0 := by
  have hn := getC_nonneg hp k
  by_cases h : getC (takeL part l) k = 0
  · by_cases h1 : getC l k = 0
    · omega
    · by_cases h2 : part < getC l k
      · exfalso
        have := getC_in h1
        have h3 : (k, getC l k - part) ∈ takeL part l := take_mem.2 ⟨by simp only; rw [show getC l k - part + part = getC l k by omega]; exact this, by simp only; omega⟩
        have := getC_mem (apC_take ha part) h3
        omega
      · omega
  · have h1 := take_mem.1 (getC_in h)
    have h2 := getC_mem ha h1.1
    simp only at h1 h2
    omega
theorem sum_take_le {l : Cs} (hp : PosC l) {part : Int} (h : ∀ p ∈ l, part ≤ p.2) : sumC (takeL part l) = sumC l - part * (l.length : Int) := by
  induction l with
  | nil => simp [takeL, takeW, sumC]
  | cons q r ih =>
    have i1 := ih (fun x hx => hp x (List.mem_cons_of_mem _ hx)) (fun x hx => h x (List.mem_cons_of_mem _ hx))
    have i2 := h q (List.mem_cons_self ..)
    rw [take_cons, List.length_cons]
    have e : part * ((r.length + 1 : Nat) : Int) = part * (r.length : Int) + part := by
      rw [Int.natCast_add, Int.mul_add]; simp
    rw [e]
    split
    · simp only [sumC]; omega
    · simp only [sumC]; omega
theorem least_le (many : Int) (l : Cs) : leastL many l ≤ many := by
  induction l with
  | nil => exact Int.le_refl _
  | cons p r ih => unfold leastL; omega
theorem least_mem {many : Int} {l : Cs} : ∀ p ∈ l, leastL many l ≤ p.2 := by
  induction l with
  | nil => intro p hp; cases hp
  | cons q r ih =>
    intro p hp
    unfold leastL
    rcases List.mem_cons.1 hp with rfl | h
    · omega
    · have := ih p h; omega
theorem least_at (many : Int) (l : Cs) : leastL many l = many ∨ ∃ p ∈ l, p.2 = leastL many l := by
  induction l with
  | nil => exact Or.inl rfl
  | cons q r ih =>
    unfold leastL
    rcases ih with h | ⟨p, hp, h⟩
    · by_cases e : q.2 ≤ leastL many r
      · exact Or.inr ⟨q, List.mem_cons_self .., by omega⟩
      · exact Or.inl (by omega)
    · by_cases e : q.2 ≤ leastL many r
      · exact Or.inr ⟨q, List.mem_cons_self .., by omega⟩
      · exact Or.inr ⟨p, List.mem_cons_of_mem _ hp, by omega⟩
theorem least_pos {many : Int} {l : Cs} (hp : PosC l) (hm : 1 ≤ many) : 1 ≤ leastL many l := by
  rcases least_at many l with h | ⟨p, hp', h⟩
  · omega
  · have := hp p hp'; omega
theorem least_is {many m : Int} {l : Cs} (h1 : m ≤ many) (h2 : ∀ p ∈ l, m ≤ p.2) (h3 : m = many ∨ ∃ p ∈ l, m = p.2) : m = leastL many l := by
  have a1 := least_le many l
  have a2 := least_mem (many := many) (l := l)
  rcases least_at many l with h | ⟨p, hp, h⟩
  · rcases h3 with h3 | ⟨q, hq, h3⟩
    · omega
    · have := a2 q hq; omega
  · have := h2 p hp
    rcases h3 with h3 | ⟨q, hq, h3⟩
    · omega
    · have := a2 q hq; omega
theorem take_short {l : Cs} {part : Int} (h : ∃ p ∈ l, p.2 = part) : (takeL part l).length < l.length := by
  induction l with
  | nil => obtain ⟨p, hp, _⟩ := h; cases hp
  | cons q r ih =>
    rw [take_cons]
    have hl := takeW_len part (fun _ => false) r
    obtain ⟨p, hp, h⟩ := h
    rcases List.mem_cons.1 hp with rfl | hp
    · rw [if_neg (by omega)]
      simp only [List.length_cons]
      show (takeW part (fun _ => false) r).length < _
      omega
    · have := ih ⟨p, hp, h⟩
      split <;> simp only [List.length_cons] <;> omega
theorem take_len (l : Cs) (part : Int) : (takeL part l).length ≤ l.length := takeW_len _ _ _

/-! ### what a Heavy is -/
structure HvOk (h : Hv) : Prop where
  nn : 1 ≤ h.n ∧ h.n ≤ 20
  ap : ApC h.l
  po : PosC h.l
  le : (h.l.length : Int) ≤ h.n
  ls : 0 ≤ h.less
  sm : sumC h.l + h.less * (h.n + 1) ≤ h.all
  al : h.all ≤ 1099511627776
theorem HvOk.less_le {h : Hv} (k : HvOk h) : h.less ≤ 1099511627776 := by
  have h1 := sum_nonneg k.po
  have h2 := k.sm
  have h3 := k.al
  have h4 : h.less * 1 ≤ h.less * (h.n + 1) := Int.mul_le_mul_of_nonneg_left (by have := k.nn; omega) k.ls
  omega
theorem HvOk.sum_le {h : Hv} (k : HvOk h) : sumC h.l ≤ 1099511627776 := by
  have h2 := k.sm
  have h3 := k.al
  have h4 : h.less * 0 ≤ h.less * (h.n + 1) := Int.mul_le_mul_of_nonneg_left (by have := k.nn; omega) k.ls
  omega
theorem HvOk.new {n : Int} (h : 1 ≤ n ∧ n ≤ 20) : HvOk { n := n, less := 0, all := 0, l := [] } :=
  ⟨h, List.Pairwise.nil, (fun p hp => nomatch hp), (by simp only [List.length_nil]; omega), Int.le_refl _, (by simp [sumC]), (by simp only; omega)⟩
theorem HvOk.all_nonneg {h : Hv} (k : HvOk h) : 0 ≤ h.all := by
  have h1 := sum_nonneg k.po
  have h2 := k.sm
  have h4 : h.less * 0 ≤ h.less * (h.n + 1) := Int.mul_le_mul_of_nonneg_left (by have := k.nn; omega) k.ls
  omega
theorem apC_rest {l : Cs} (ha : ApC l) (k m : Int) : ApC (restL l k m) := by
  unfold restL; split
  · exact apC_put ha _ _
  · exact ha
theorem posC_rest {l : Cs} (hp : PosC l) (k m : Int) : PosC (restL l k m) := by
  unfold restL; split
  · exact posC_put hp (by have := getC_nonneg hp k; omega)
  · exact hp
theorem addG_ok {h : Hv} (ok : HvOk h) (k many : Int) (h1 : 1 ≤ many) (h2 : h.all + many ≤ 1099511627776) : HvOk (addG h k many) := by
  unfold addG
  split
  · rename_i hr
    refine ⟨ok.nn, apC_rest ok.ap _ _, posC_rest ok.po _ _, ?_, ok.ls, ?_, h2⟩
    · simp only [restL, if_pos (show 0 < many by omega)]
      unfold roomB at hr
      simp only [Bool.or_eq_true, decide_eq_true_eq] at hr
      rcases hr with hr | hr
      · rw [len_put_in ok.ap (by omega)]; exact ok.le
      · have := len_put_le h.l k (getC h.l k + many); omega
    · simp only [restL, if_pos (show 0 < many by omega)]
      rw [sum_put ok.ap ok.po]
      have := ok.sm; omega
  · rename_i hr
    unfold roomB at hr
    simp only [Bool.or_eq_true, decide_eq_true_eq, not_or] at hr
    have hl : (h.l.length : Int) = h.n := by have := ok.le; omega
    have l1 := least_le many h.l
    have l2 := least_pos ok.po h1
    have l3 := least_mem (many := many) (l := h.l)
    have a1 := apC_take ok.ap (leastL many h.l)
    have a2 := posC_take h.l (leastL many h.l)
    have s1 := sum_take_le ok.po l3
    have sm := ok.sm
    have ls := ok.ls
    have e1 : (h.less + leastL many h.l) * (h.n + 1) = h.less * (h.n + 1) + (leastL many h.l * h.n + leastL many h.l) := by rw [Int.add_mul, Int.mul_add (leastL many h.l)]; omega
    refine ⟨ok.nn, apC_rest a1 _ _, posC_rest a2 _ _, ?_, by simp only; omega, ?_, h2⟩
    · simp only
      unfold restL
      split
      · rename_i hm
        have hs : (takeL (leastL many h.l) h.l).length < h.l.length := take_short (by
          rcases least_at many h.l with e | e
          · omega
          · exact e)
        have := len_put_le (takeL (leastL many h.l) h.l) k (getC (takeL (leastL many h.l) h.l) k + (many - leastL many h.l))
        omega
      · have := take_len h.l (leastL many h.l); omega
    · simp only
      rw [e1]
      rw [hl] at s1
      unfold restL
      split
      · rw [sum_put a1 a2]; omega
      · omega
theorem addE_ok {h : Hv} {many : Int} (e : addE h many = 0) : 1 ≤ many ∧ many ≤ 1000000 ∧ h.all + many ≤ 1099511627776 := by
  unfold addE at e
  split at e
  · cases e
  split at e
  · cases e
  · omega
theorem HvOk.add {h : Hv} (ok : HvOk h) (k many : Int) : HvOk (addS h k many) := by
  unfold addS
  split
  · rename_i e
    have := addE_ok e
    exact addG_ok ok k many this.1 this.2.2
  · exact ok
theorem addS_n (h : Hv) (k many : Int) : (addS h k many).n = h.n := by
  unfold addS addG; split <;> (try split) <;> rfl
theorem addG_all (h : Hv) (k many : Int) : (addG h k many).all = h.all + many := by
  unfold addG; split <;> rfl
/-- Of a key: what was added is from what is counted to that and what may be lacking. -/
def Bnd (h : Hv) (key mine : Int) : Prop := getC h.l key ≤ mine ∧ mine ≤ getC h.l key + h.less
theorem getC_rest {l : Cs} (k m j : Int) (hm : 0 ≤ m) : getC (restL l k m) j = if j = k then getC l k + m else getC l j := by
  unfold restL
  split
  · exact getC_put _ _ _
  · split
    · rename_i e; subst e; omega
    · rfl
theorem Bnd.add {h : Hv} (ok : HvOk h) {key mine : Int} (b : Bnd h key mine) (k many : Int) (h1 : 1 ≤ many) : Bnd (addG h k many) key (if k = key then mine + many else mine) := by
  unfold Bnd at b ⊢
  unfold addG
  split
  · simp only
    rw [getC_rest _ _ _ (by omega)]
    by_cases e : k = key
    · subst e; simp only [if_true]; omega
    · rw [if_neg e, if_neg (fun e2 => e e2.symm)]; omega
  · rename_i hr
    unfold roomB at hr
    simp only [Bool.or_eq_true, decide_eq_true_eq, not_or] at hr
    simp only
    have l1 := least_le many h.l
    have l2 := least_pos ok.po h1
    have g := fun j => getC_take ok.ap ok.po (part := leastL many h.l) (by omega) j
    have nn := getC_nonneg ok.po key
    rw [getC_rest _ _ _ (by omega), g, g]
    by_cases e : k = key
    · subst e; simp only [if_true]; omega
    · rw [if_neg e, if_neg (fun e2 => e e2.symm)]; omega
end Go.Proofs.YtchailjgikjhlaaDoor
