/- Counts that are merged: plain facts on lists. What is taken of all of them is taken of one more than may stay. No condition is asked of a program. -/
import Derived.Test.YtchailjgikjhlaaDoorHvMath
namespace Go.Proofs.YtchailjgikjhlaaDoor
set_option linter.unusedVariables false

def mergeL : Cs → Cs → Cs
  | l, [] => l
  | l, p :: r => mergeL (putC l p.1 (getC l p.1 + p.2)) r
theorem apC_merge : ∀ (o l : Cs), ApC l → ApC (mergeL l o)
  | [], l, h => h
  | p :: r, l, h => apC_merge r _ (apC_put h _ _)
theorem posC_merge : ∀ (o l : Cs), PosC l → PosC o → PosC (mergeL l o)
  | [], l, h, _ => h
  | p :: r, l, h, ho => posC_merge r _ (posC_put h (by have := getC_nonneg h p.1; have := ho p (List.mem_cons_self ..); omega)) (fun q hq => ho q (List.mem_cons_of_mem _ hq))
theorem getC_merge : ∀ (o l : Cs), ApC o → ∀ k, getC (mergeL l o) k = getC l k + getC o k
  | [], l, _, k => by simp [mergeL, getC]
  | p :: r, l, ha, k => by
    unfold ApC at ha
    rw [List.pairwise_cons] at ha
    rw [mergeL, getC_merge r _ ha.2, getC_put, getC]
    by_cases e : k = p.1
    · subst e
      rw [if_pos rfl, if_pos rfl, getC_not (l := r) (k := p.1) (fun q hq => (ha.1 q hq).symm)]
      omega
    · rw [if_neg e, if_neg (fun e2 => e e2.symm)]
theorem sum_merge : ∀ (o l : Cs), ApC l → PosC l → PosC o → sumC (mergeL l o) = sumC l + sumC o
  | [], l, _, _, _ => by simp [mergeL, sumC]
  | p :: r, l, ha, hp, ho => by
    have h1 := ho p (List.mem_cons_self ..)
    rw [mergeL, sum_merge r _ (apC_put ha _ _) (posC_put hp (by have := getC_nonneg hp p.1; omega)) (fun q hq => ho q (List.mem_cons_of_mem _ hq)), sum_put ha hp, sumC]
    omega
theorem len_merge : ∀ (o l : Cs), (mergeL l o).length ≤ l.length + o.length
  | [], l => by simp [mergeL]
  | p :: r, l => by
    have h1 := len_merge r (putC l p.1 (getC l p.1 + p.2))
    have h2 := len_put_le l p.1 (getC l p.1 + p.2)
    rw [mergeL, List.length_cons]
    omega
theorem mem_iff_get {l : Cs} (ha : ApC l) (hp : PosC l) (p : Int × Int) : p ∈ l ↔ getC l p.1 = p.2 ∧ 1 ≤ p.2 := by
  constructor
  · intro h
    exact ⟨getC_mem ha h, hp p h⟩
  · rintro ⟨h1, h2⟩
    have := getC_in (l := l) (k := p.1) (by omega)
    rw [h1] at this
    exact this
theorem nodup_ap {l : Cs} (ha : ApC l) : l.Nodup := by
  refine ha.imp (fun {a b} h e => h (by rw [e]))
theorem ext_perm {l l' : Cs} (ha : ApC l) (hp : PosC l) (ha' : ApC l') (hp' : PosC l') (h : ∀ k, getC l k = getC l' k) : l.Perm l' := by
  refine (List.perm_ext_iff_of_nodup (nodup_ap ha) (nodup_ap ha')).2 (fun p => ?_)
  rw [mem_iff_get ha hp, mem_iff_get ha' hp', h]
/-- What is taken of all. -/
def minS (t : Int) : Cs → Int
  | [] => 0
  | p :: r => min p.2 t + minS t r
theorem minS_perm {t : Int} {l l' : Cs} (h : l.Perm l') : minS t l = minS t l' := by
  induction h with
  | nil => rfl
  | cons x _ ih => simp only [minS]; omega
  | swap x y l => simp only [minS]; omega
  | trans _ _ i1 i2 => omega
theorem minS_nonneg {t : Int} {l : Cs} (hp : PosC l) (ht : 0 ≤ t) : 0 ≤ minS t l := by
  induction l with
  | nil => exact Int.le_refl _
  | cons p r ih =>
    have h1 := hp p (List.mem_cons_self ..)
    have h2 := ih (fun x hx => hp x (List.mem_cons_of_mem _ hx))
    simp only [minS]; omega
theorem sum_take (t : Int) (l : Cs) : sumC (takeL t l) = sumC l - minS t l := by
  induction l with
  | nil => rfl
  | cons p r ih =>
    rw [take_cons]
    simp only [minS]
    split <;> simp only [sumC] <;> omega
theorem take_perm {t : Int} {l l' : Cs} (h : l.Perm l') : (takeL t l).Perm (takeL t l') := h.filterMap _
def FallC (l : Cs) : Prop := l.Pairwise fun p q => q.2 ≤ p.2
theorem minS_big : ∀ (n : Nat) (l : Cs) (h : n < l.length), FallC l → PosC l → l[n].2 * ((n : Int) + 1) ≤ minS l[n].2 l
  | _, [], h, _, _ => by simp at h
  | 0, p :: r, h, hf, hp => by
    have h1 := hp p (List.mem_cons_self ..)
    have h2 := minS_nonneg (t := p.2) (l := r) (fun x hx => hp x (List.mem_cons_of_mem _ hx)) (by omega)
    simp only [List.getElem_cons_zero, minS]
    simp only [Int.natCast_zero] at *
    omega
  | n + 1, p :: r, h, hf, hp => by
    unfold FallC at hf
    rw [List.pairwise_cons] at hf
    have hr : n < r.length := by simpa using h
    have h1 := minS_big n r hr hf.2 (fun x hx => hp x (List.mem_cons_of_mem _ hx))
    have h2 := hf.1 r[n] (List.getElem_mem hr)
    simp only [List.getElem_cons_succ, minS]
    have e : r[n].2 * (((n + 1 : Nat) : Int) + 1) = r[n].2 * ((n : Int) + 1) + r[n].2 := by
      rw [show ((n + 1 : Nat) : Int) + 1 = ((n : Int) + 1) + 1 by omega, Int.mul_add, Int.mul_one]
    rw [e]
    omega
theorem take_few : ∀ (n : Nat) (l : Cs) (h : n < l.length), FallC l → (takeL l[n].2 l).length ≤ n
  | _, [], h, _ => by simp at h
  | 0, p :: r, h, hf => by
    unfold FallC at hf
    rw [List.pairwise_cons] at hf
    simp only [List.getElem_cons_zero]
    have : takeL p.2 (p :: r) = [] := by
      refine List.eq_nil_iff_forall_not_mem.2 (fun q hq => ?_)
      have h2 := take_mem.1 hq
      rcases List.mem_cons.1 h2.1 with e | e
      · have := congrArg Prod.snd e
        simp only at this
        omega
      · have := hf.1 _ e
        simp only at this
        omega
    rw [this]
    exact Nat.le_refl _
  | n + 1, p :: r, h, hf => by
    unfold FallC at hf
    rw [List.pairwise_cons] at hf
    have hr : n < r.length := by simpa using h
    have h1 := take_few n r hr hf.2
    simp only [List.getElem_cons_succ]
    rw [take_cons]
    split
    · simp only [List.length_cons]; omega
    · omega
/-- What a Heavy is when another one has been merged into it; ql: its counts, the greatest first. -/
def mrgS (h o : Hv) (ql : Cs) : Hv :=
  if hl : h.n.toNat < ql.length then { n := h.n, less := h.less + o.less + ql[h.n.toNat].2, all := h.all + o.all, l := takeL ql[h.n.toNat].2 (mergeL h.l o.l) }
  else { n := h.n, less := h.less + o.less, all := h.all + o.all, l := mergeL h.l o.l }
theorem mrgS_n (h o : Hv) (ql : Cs) : (mrgS h o ql).n = h.n := by unfold mrgS; split <;> rfl
theorem mrgS_all (h o : Hv) (ql : Cs) : (mrgS h o ql).all = h.all + o.all := by unfold mrgS; split <;> rfl
theorem mrgS_ok {h o : Hv} {ql : Cs} (kh : HvOk h) (ko : HvOk o) (hn : o.n = h.n) (hp : ql.Perm (mergeL h.l o.l)) (hf : FallC ql) (hal : h.all + o.all ≤ 1099511627776) : HvOk (mrgS h o ql) := by
  have a1 := apC_merge o.l h.l kh.ap
  have a2 := posC_merge o.l h.l kh.po ko.po
  have a3 := sum_merge o.l h.l kh.ap kh.po ko.po
  have sh := kh.sm
  have so := ko.sm
  rw [hn] at so
  have e0 : (h.less + o.less) * (h.n + 1) = h.less * (h.n + 1) + o.less * (h.n + 1) := Int.add_mul _ _ _
  have l1 := kh.ls
  have l2 := ko.ls
  unfold mrgS
  split
  · rename_i hl
    have nn := kh.nn
    have hnn : ((h.n.toNat : Nat) : Int) = h.n := by omega
    have p1 : PosC ql := a2.perm hp.symm
    have b1 := minS_big h.n.toNat ql hl hf p1
    have b2 := take_few h.n.toNat ql hl hf
    have t1 := p1 ql[h.n.toNat] (List.getElem_mem hl)
    rw [hnn] at b1
    rw [minS_perm hp] at b1
    generalize ql[h.n.toNat].2 = t at b1 b2 t1 ⊢
    have s1 := sum_take t (mergeL h.l o.l)
    have e1 : (h.less + o.less + t) * (h.n + 1) = (h.less + o.less) * (h.n + 1) + t * (h.n + 1) := Int.add_mul _ _ _
    have b3 := (take_perm (t := t) hp).length_eq
    refine ⟨kh.nn, apC_take a1 _, posC_take _ _, ?_, ?_, ?_, hal⟩
    · simp only; omega
    · simp only; omega
    · simp only; omega
  · rename_i hl
    have nn := kh.nn
    refine ⟨kh.nn, a1, a2, ?_, ?_, ?_, hal⟩
    · simp only
      rw [← hp.length_eq]
      omega
    · simp only; omega
    · simp only; omega
theorem Bnd.merge {h o : Hv} {ql : Cs} (kh : HvOk h) (ko : HvOk o) (hp : ql.Perm (mergeL h.l o.l)) {key m1 m2 : Int} (b1 : Bnd h key m1) (b2 : Bnd o key m2) : Bnd (mrgS h o ql) key (m1 + m2) := by
  have a1 := apC_merge o.l h.l kh.ap
  have a2 := posC_merge o.l h.l kh.po ko.po
  have g := getC_merge o.l h.l ko.ap key
  unfold Bnd at *
  unfold mrgS
  split
  · rename_i hl
    have t1 := (a2.perm hp.symm) ql[h.n.toNat] (List.getElem_mem hl)
    simp only
    generalize ql[h.n.toNat].2 = t at t1 ⊢
    rw [getC_take a1 a2 (by omega), g]
    have n1 := getC_nonneg kh.po key
    have n2 := getC_nonneg ko.po key
    omega
  · simp only
    rw [g]
    omega
end Go.Proofs.YtchailjgikjhlaaDoor
