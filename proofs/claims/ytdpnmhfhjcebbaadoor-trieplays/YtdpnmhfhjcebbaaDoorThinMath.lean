/- A trie that is thinned: plain facts on lists. No condition is asked of a program. -/
import Derived.Test.YtdpnmhfhjcebbaaDoorTrieMath
namespace Go.Proofs.YtdpnmhfhjcebbaaDoor
set_option linter.unusedVariables false

/-! ### a list of pairs, put one behind the other -/
def stV (l : List Pr) : Tv := l.foldl (fun s x => (putV s x.a x.l x.v).1) newV
theorem stV_nil : stV [] = newV := rfl
theorem stV_snoc (l : List Pr) (x : Pr) : stV (l ++ [x]) = (putV (stV l) x.a x.l x.v).1 := by unfold stV; rw [List.foldl_append]; rfl
theorem stV_take {l : List Pr} {k : Nat} (h : k < l.length) : stV (l.take (k + 1)) = (putV (stV (l.take k)) l[k].a l[k].l l[k].v).1 := by
  rw [List.take_succ_eq_append_getElem h, stV_snoc]
def firstE (s : Tv) : List Pr → Int
  | [] => 0
  | x :: r => if (putV s x.a x.l x.v).2.2 = 0 then firstE (putV s x.a x.l x.v).1 r else (putV s x.a x.l x.v).2.2
theorem list_rev {α : Type} {p : List α → Prop} (h0 : p []) (h1 : ∀ l x, p l → p (l ++ [x])) : ∀ l, p l := by
  have : ∀ n (l : List α), l.length = n → p l := by
    intro n
    induction n with
    | zero => intro l hl; rw [List.eq_nil_of_length_eq_zero hl]; exact h0
    | succ n ih =>
      intro l hl
      have hne : l ≠ [] := by intro h; subst h; simp at hl
      rw [← List.dropLast_concat_getLast hne]
      exact h1 _ _ (ih _ (by rw [List.length_dropLast]; omega))
  exact fun l => this _ l rfl
theorem putV_many (s : Tv) (a l v : Int) : (putV s a l v).1.many ≤ s.many + 1 := by
  unfold putV
  split
  · show s.many ≤ _; omega
  · split
    · split
      · show s.many ≤ _; omega
      · show s.many + 1 ≤ _; omega
    · show s.many ≤ _; omega
theorem stV_ok (l : List Pr) : OkV (stV l) ∧ (stV l).many ≤ l.length := by
  refine list_rev (p := fun l => OkV (stV l) ∧ (stV l).many ≤ l.length) ⟨OkV.new, by simp [stV, newV]⟩ (fun l x ih => ?_) l
  rw [stV_snoc]
  refine ⟨ih.1.put _ _ _, ?_⟩
  have := putV_many (stV l) x.a x.l x.v
  rw [List.length_append, List.length_singleton]
  have := ih.2
  omega
theorem firstE_take {s : Tv} : ∀ {l : List Pr} {n : Int}, firstE s l = n → ∀ k (h : k < l.length), (∀ j (hj : j < k), (putV ((l.take j).foldl (fun s x => (putV s x.a x.l x.v).1) s) l[j].a l[j].l l[j].v).2.2 = 0) →
      ¬ (putV ((l.take k).foldl (fun s x => (putV s x.a x.l x.v).1) s) l[k].a l[k].l l[k].v).2.2 = 0 → (putV ((l.take k).foldl (fun s x => (putV s x.a x.l x.v).1) s) l[k].a l[k].l l[k].v).2.2 = n
  | [], n, _, k, h, _, _ => by simp at h
  | x :: r, n, he, 0, h, _, hk => by
    simp only [List.take_zero, List.foldl_nil, List.getElem_cons_zero] at hk ⊢
    unfold firstE at he
    rw [if_neg hk] at he; exact he
  | x :: r, n, he, k + 1, h, hj, hk => by
    have h0 := hj 0 (by omega)
    simp only [List.take_zero, List.foldl_nil, List.getElem_cons_zero] at h0
    unfold firstE at he
    rw [if_pos h0] at he
    simp only [List.take_succ_cons, List.foldl_cons, List.getElem_cons_succ] at hk ⊢
    refine firstE_take he k (by simpa using h) (fun j hjk => ?_) hk
    have := hj (j + 1) (by omega)
    simpa using this
theorem firstE_all {s : Tv} : ∀ {l : List Pr}, firstE s l = 0 ↔ ∀ k (h : k < l.length), (putV ((l.take k).foldl (fun s x => (putV s x.a x.l x.v).1) s) l[k].a l[k].l l[k].v).2.2 = 0
  | [] => by simp [firstE]
  | x :: r => by
    unfold firstE
    by_cases h0 : (putV s x.a x.l x.v).2.2 = 0
    · rw [if_pos h0, firstE_all]
      constructor
      · intro h k hk
        rcases k with _ | k
        · simpa using h0
        · have := h k (by simpa using hk); simpa using this
      · intro h k hk
        have := h (k + 1) (by simpa using hk); simpa using this
    · rw [if_neg h0]
      constructor
      · intro h; exact absurd h h0
      · intro h; have := h 0 (by simp); exact absurd (by simpa using this) h0
def thinE (l : List Pr) : Int := if 200 < l.length then 4 else firstE newV l
theorem thinE_zero {l : List Pr} (h : thinE l = 0) : l.length ≤ 200 ∧ ∀ k (hk : k < l.length), (putV (stV (l.take k)) l[k].a l[k].l l[k].v).2.2 = 0 := by
  unfold thinE at h
  split at h
  · omega
  · exact ⟨by omega, firstE_all.1 h⟩
theorem thinE_of {l : List Pr} (h : l.length ≤ 200) (hk : ∀ k (hk : k < l.length), (putV (stV (l.take k)) l[k].a l[k].l l[k].v).2.2 = 0) : thinE l = 0 := by
  unfold thinE; rw [if_neg (by omega)]; exact firstE_all.2 hk
theorem putV_good {s : Tv} {a l v : Int} (hp : prefE a l = 0) (hm : s.many < 200) : (putV s a l v).2.2 = 0 ∧ (putV s a l v).1.f = setV s.f l.toNat (kq a l.toNat) (some v) := by
  unfold putV
  rw [if_neg (by rw [hp]; simp)]
  split
  · rw [if_neg (by omega)]; exact ⟨rfl, rfl⟩
  · exact ⟨rfl, rfl⟩
theorem putV_pref {s : Tv} {a l v : Int} (h : (putV s a l v).2.2 = 0) : prefE a l = 0 ∧ (putV s a l v).1.f = setV s.f l.toNat (kq a l.toNat) (some v) := by
  by_cases hp : prefE a l = 0
  · refine ⟨hp, ?_⟩
    unfold putV at h ⊢
    rw [if_neg (by rw [hp]; simp)] at h ⊢
    split at h
    · rename_i h1
      rw [if_pos h1]
      split at h
      · cases h
      · rename_i h2; rw [if_neg h2]
    · rename_i h1
      rw [if_neg h1]
  · unfold putV at h
    rw [if_pos hp] at h
    exact absurd h hp
/-- What was put is there. -/
theorem stV_mem {l : List Pr} (h : ∀ k (hk : k < l.length), (putV (stV (l.take k)) l[k].a l[k].l l[k].v).2.2 = 0) : ∀ x ∈ l, (stV l).f x.l.toNat (kq x.a x.l.toNat) ≠ none := by
  have : ∀ k, k ≤ l.length → ∀ x ∈ l.take k, (stV (l.take k)).f x.l.toNat (kq x.a x.l.toNat) ≠ none := by
    intro k
    induction k with
    | zero => intro _ x hx; simp at hx
    | succ k ih =>
      intro hk x hx
      have hk' : k < l.length := by omega
      rw [stV_take hk', (putV_pref (h k hk')).2]
      rw [List.take_succ_eq_append_getElem hk'] at hx
      unfold setV
      split
      · simp
      · rename_i hne
        rcases List.mem_append.1 hx with hx | hx
        · exact ih (by omega) x hx
        · rw [List.mem_singleton.1 hx] at hne
          exact absurd ⟨rfl, rfl⟩ hne
  have h2 := this l.length (Nat.le_refl _)
  rw [List.take_length] at h2
  exact h2
/-- Pairs of places that are apart, put one behind the other: just they are there. -/
theorem stV_apart {t : List Pr} (hg : ∀ x ∈ t, prefE x.a x.l = 0) (hn : t.length ≤ 200) (ha : t.Pairwise befP) : (∀ k (hk : k < t.length), (putV (stV (t.take k)) t[k].a t[k].l t[k].v).2.2 = 0) ∧ ∀ d q v, d ≤ 32 → q < 2 ^ d → ((stV t).f d q = some v ↔ (⟨ka d q, d, v⟩ : Pr) ∈ t) := by
  have hput : ∀ k (hk : k < t.length), (putV (stV (t.take k)) t[k].a t[k].l t[k].v).2.2 = 0 := fun k hk => by
    have h1 := (stV_ok (t.take k)).2
    rw [List.length_take] at h1
    exact (putV_good (hg _ (List.getElem_mem hk)) (by omega)).1
  refine ⟨hput, ?_⟩
  have key : ∀ k, k ≤ t.length → ∀ d q v, d ≤ 32 → q < 2 ^ d → ((stV (t.take k)).f d q = some v ↔ (⟨ka d q, d, v⟩ : Pr) ∈ t.take k) := by
    intro k
    induction k with
    | zero => intro _ d q v _ _; simp [stV, newV]
    | succ k ih =>
      intro hk d q v hd hq
      have hk' : k < t.length := by omega
      have hgk := hg _ (List.getElem_mem hk')
      rw [stV_take hk', (putV_pref (hput k hk')).2, List.take_succ_eq_append_getElem hk', List.mem_append, List.mem_singleton]
      obtain ⟨n, hn, hn2, hp, _⟩ := prefE_nat hgk
      have hsort := ha
      rw [← List.take_append_drop k t, List.pairwise_append] at hsort
      have hlt : ∀ x ∈ t.take k, befP x t[k] := fun x hx => hsort.2.2 x hx _ (by have := List.drop_eq_getElem_cons hk'; rw [this]; exact List.mem_cons_self)
      generalize t[k] = y at *
      obtain ⟨ya, yl, yv⟩ := y
      simp only at hn hgk hp ⊢
      subst hn
      simp only [Int.toNat_natCast]
      by_cases he : d = n ∧ q = kq ya n
      · obtain ⟨rfl, rfl⟩ := he
        rw [setV_same, ka_kq hp]
        constructor
        · intro h; right; simp at h; rw [h]
        · rintro (h | h)
          · have := hlt _ h; unfold befP at this; simp only at this; omega
          · simp only [Pr.mk.injEq] at h; rw [h.2.2]
      · rw [setV_other he, ih (by omega) d q v hd hq]
        constructor
        · exact .inl
        · rintro (h | h)
          · exact h
          · simp only [Pr.mk.injEq] at h
            obtain ⟨h1, h2, _⟩ := h
            have h2' : d = n := by omega
            subst h2'
            exact absurd ⟨rfl, by rw [← h1, kq_ka]⟩ he
  have := key t.length (Nat.le_refl _)
  rw [List.take_length] at this
  exact this

/-! ### thinned -/
/-- Has a pair that is there the value of the longest other one over it? -/
def repB (f : Vf) (x : Pr) : Bool := match (ovL f x.a x.l.toNat).dropLast.getLast? with | some z => z.v == x.v | none => false
def thinF (f : Vf) : Vf := fun d q => match f d q with | some v => if repB f ⟨ka d q, d, v⟩ then none else some v | none => none
def thinL (l : List Pr) : List Pr := (allV (stV l)).filter fun x => !repB (stV l).f x
theorem here_thin (f : Vf) (d q : Nat) : hereL (thinF f) d q = (hereL f d q).filter fun x => !repB f x := by
  unfold hereL thinF
  rcases f d q with _ | v
  · rfl
  · simp only
    rcases hb : repB f ⟨ka d q, d, v⟩ with _ | _ <;> simp [hb]
theorem lstL_thin (f : Vf) : ∀ n d q, lstL (thinF f) n d q = (lstL f n d q).filter fun x => !repB f x
  | 0, d, q => here_thin f d q
  | n + 1, d, q => by
    unfold lstL
    rw [List.filter_append, List.filter_append, here_thin, lstL_thin f n, lstL_thin f n]
theorem kq_ka_up {a : Int} {d e : Nat} (h : e ≤ d) (hd : d ≤ 32) : kq (ka d (kq a d)) e = kq a e := by
  rw [← kq_up (ka d (kq a d)) h hd, kq_ka, kq_up a h hd]
theorem ovL_same {f : Vf} {a b : Int} {n : Nat} (h : ∀ e, e ≤ n → kq a e = kq b e) : ovL f a n = ovL f b n := by
  induction n with
  | zero => rw [ovL_zero, ovL_zero, h 0 (by omega)]
  | succ n ih => rw [ovL_succ, ovL_succ, ih (fun e he => h e (by omega)), h _ (Nat.le_refl _)]
theorem ovL_ka (f : Vf) (a : Int) {n : Nat} (hn : n ≤ 32) : ovL f (ka n (kq a n)) n = ovL f a n := ovL_same (fun e he => kq_ka_up he hn)
def lastV (l : List Pr) : Option Int := l.getLast?.map Pr.v
theorem lastV_snoc (l : List Pr) (x : Pr) : lastV (l ++ [x]) = some x.v := by simp [lastV]
theorem rep_at {f : Vf} {a : Int} {n : Nat} (hn : n + 1 ≤ 32) {v : Int} (hv : f (n + 1) (kq a (n + 1)) = some v) : repB f ⟨ka (n + 1) (kq a (n + 1)), (n + 1 : Nat), v⟩ = decide (lastV (ovL f a n) = some v) := by
  unfold repB
  have e : ovL f (ka (n + 1) (kq a (n + 1))) (((n + 1 : Nat) : Int)).toNat = ovL f a n ++ [⟨ka (n + 1) (kq a (n + 1)), (n + 1 : Nat), v⟩] := by
    rw [Int.toNat_natCast, ovL_ka f a hn, ovL_succ]
    congr 1
    unfold hereL; rw [hv]
  rw [e, List.dropLast_concat]
  unfold lastV
  rcases (ovL f a n).getLast? with _ | z
  · simp
  · simp only [Option.map_some, Option.some.injEq]
    rw [Bool.eq_iff_iff, beq_iff_eq, decide_eq_true_eq]
theorem rep_zero {f : Vf} {a : Int} {v : Int} : repB f ⟨ka 0 (kq a 0), (0 : Nat), v⟩ = false := by
  unfold repB
  have : (ovL f (ka 0 (kq a 0)) (((0 : Nat) : Int)).toNat).dropLast = [] := by
    rw [Int.toNat_natCast, ovL_zero]
    unfold hereL
    rcases f 0 (kq (ka 0 (kq a 0)) 0) with _ | u <;> rfl
  rw [this]; rfl
/-- Thinned, the last on the way to an address has the same value as before, or there is none. -/
theorem last_thin (f : Vf) (a : Int) : ∀ n, n ≤ 32 → lastV (ovL (thinF f) a n) = lastV (ovL f a n)
  | 0, _ => by
    rw [ovL_zero, ovL_zero, here_thin]
    unfold hereL
    rcases f 0 (kq a 0) with _ | v
    · rfl
    · simp only [List.filter_cons, rep_zero, Bool.not_false, if_true, List.filter_nil]
  | n + 1, hn => by
    have ih := last_thin f a n (by omega)
    rw [ovL_succ, ovL_succ, here_thin]
    unfold hereL
    rcases hv : f (n + 1) (kq a (n + 1)) with _ | v
    · simpa using ih
    · have hr := rep_at hn hv
      rcases hb : repB f ⟨ka (n + 1) (kq a (n + 1)), (n + 1 : Nat), v⟩ with _ | _
      · simp only [List.filter_cons, hb, Bool.not_false, if_true, List.filter_nil, lastV_snoc]
      · rw [hb] at hr
        simp only [List.filter_cons, hb, Bool.not_true, Bool.false_eq_true, if_false, List.filter_nil, List.append_nil]
        rw [ih, of_decide_eq_true hr.symm, lastV_snoc]
theorem thin_once (f : Vf) {d : Nat} (hd : d ≤ 32) {q : Nat} (hq : q < 2 ^ d) {v : Int} (h : thinF f d q = some v) : repB (thinF f) ⟨ka d q, d, v⟩ = false := by
  obtain ⟨a, rfl⟩ : ∃ a, q = kq a d := ⟨ka d q, kq_ka.symm⟩
  rcases d with _ | n
  · exact rep_zero
  · rw [rep_at hd h, last_thin f a n (by omega)]
    unfold thinF at h
    rcases hv : f (n + 1) (kq a (n + 1)) with _ | u
    · rw [hv] at h; cases h
    · rw [hv] at h
      simp only at h
      split at h
      · cases h
      · rename_i hr
        simp only [Option.some.injEq] at h
        subst h
        rw [rep_at hd hv] at hr
        simpa using hr
theorem all_len (l : List Pr) : (allV (stV l)).length ≤ l.length := by
  have h := stV_ok l
  have := h.1.many
  omega
/-- What a trie is of that is made of what another one has, thinned. -/
theorem thin_state {l : List Pr} (hE : thinE l = 0) : (thinL l).length ≤ l.length ∧ (∀ k (hk : k < (thinL l).length), (putV (stV ((thinL l).take k)) (thinL l)[k].a (thinL l)[k].l (thinL l)[k].v).2.2 = 0) ∧ (stV (thinL l)).f = thinF (stV l).f := by
  obtain ⟨hn, hput⟩ := thinE_zero hE
  have hok := (stV_ok l).1
  have hlen : (thinL l).length ≤ l.length := by
    unfold thinL; exact Nat.le_trans (List.length_filter_le _ _) (all_len l)
  have hsort : (thinL l).Pairwise befP := (all_sorted _).filter _
  have hgood : ∀ x ∈ thinL l, prefE x.a x.l = 0 := fun x hx => by
    obtain ⟨d, q, v, h1, h2, h3, rfl⟩ := (mem_all hok).1 (List.mem_filter.1 hx).1
    exact ka_good h1 h2
  obtain ⟨h1, h2⟩ := stV_apart hgood (by omega) hsort
  refine ⟨hlen, h1, ?_⟩
  funext d q
  by_cases hdq : d ≤ 32 ∧ q < 2 ^ d
  · refine Option.ext (fun v => ?_)
    rw [h2 d q v hdq.1 hdq.2]
    unfold thinL
    rw [List.mem_filter, mem_all hok]
    unfold thinF
    constructor
    · rintro ⟨⟨d', q', v', k1, k2, k3, k4⟩, hr⟩
      simp only [Pr.mk.injEq] at k4
      obtain ⟨k4, k5, k6⟩ := k4
      have e1 : d = d' := by omega
      subst e1
      have e2 : q = q' := by rw [← kq_ka (d := d) (q := q), k4, kq_ka]
      subst e2 k6
      rw [k3]; simpa using hr
    · intro h
      rcases hf : (stV l).f d q with _ | u
      · rw [hf] at h; cases h
      · rw [hf] at h
        simp only at h
        split at h
        · cases h
        · rename_i hr
          simp only [Option.some.injEq] at h
          subst h
          exact ⟨⟨d, q, u, hdq.1, hdq.2, hf, rfl⟩, by simpa using hr⟩
  · have n1 : (stV l).f d q = none := by
      rcases hf : (stV l).f d q with _ | u
      · rfl
      · exact absurd (hok.rng d q (by rw [hf]; simp)) hdq
    have n2 : (stV (thinL l)).f d q = none := by
      rcases hf : (stV (thinL l)).f d q with _ | u
      · rfl
      · exact absurd ((stV_ok (thinL l)).1.rng d q (by rw [hf]; simp)) hdq
    rw [n2]; unfold thinF; rw [n1]
theorem thin_again {l : List Pr} (hE : thinE l = 0) : thinE (thinL l) = 0 ∧ thinL (thinL l) = thinL l := by
  obtain ⟨h1, h2, h3⟩ := thin_state hE
  have hn := (thinE_zero hE).1
  refine ⟨thinE_of (by omega) h2, ?_⟩
  have ha : allV (stV (thinL l)) = thinL l := by
    unfold allV; rw [h3, lstL_thin]; rfl
  show (allV (stV (thinL l))).filter _ = _
  rw [ha, List.filter_eq_self]
  intro x hx
  rw [← ha] at hx
  obtain ⟨d, q, v, k1, k2, k3, rfl⟩ := (mem_all (stV_ok _).1).1 hx
  rw [h3] at k3 ⊢
  rw [thin_once _ k1 k2 k3]; rfl
theorem ovL_none {f : Vf} {a : Int} {n : Nat} : ovL f a n = [] ↔ lastV (ovL f a n) = none := by
  unfold lastV; rw [Option.map_eq_none_iff, List.getLast?_eq_none_iff]
theorem last_getD {l : List Pr} {v : Int} (h : lastV l = some v) : (l.getLastD zeroR).v = v := by
  unfold lastV at h
  rw [Option.map_eq_some_iff] at h
  obtain ⟨z, h1, h2⟩ := h
  rw [List.getLastD_eq_getLast?, h1]; exact h2
theorem find_thin {l : List Pr} (hE : thinE l = 0) (a : Int) : (findE (stV l) a = 0 ↔ findE (stV (thinL l)) a = 0) ∧ (findV (stV l) a).v = (findV (stV (thinL l)) a).v := by
  have h3 := (thin_state hE).2.2
  have hl := last_thin (stV l).f a 32 (Nat.le_refl _)
  rw [← h3] at hl
  unfold findE findV
  by_cases ha : isAddr a = true
  · rw [if_pos ha, if_pos ha, if_pos ha, if_pos ha]
    rcases hc : lastV (ovL (stV l).f a 32) with _ | v
    · rw [hc] at hl
      have e1 := ovL_none.2 hc
      have e2 := ovL_none.2 hl
      rw [e1, e2]; simp
    · rw [hc] at hl
      have e1 : ¬ ovL (stV l).f a 32 = [] := fun h => by rw [ovL_none.1 h] at hc; cases hc
      have e2 : ¬ ovL (stV (thinL l)).f a 32 = [] := fun h => by rw [ovL_none.1 h] at hl; cases hl
      rw [if_neg e1, if_neg e2, last_getD hc, last_getD hl]; simp
  · rw [if_neg ha, if_neg ha, if_neg ha, if_neg ha]; simp
theorem ovL_order (f : Vf) (a : Int) (n : Nat) : (ovL f a n).Pairwise (fun x y => x.l < y.l) := by
  induction n with
  | zero => rw [ovL_zero]; unfold hereL; rcases f 0 (kq a 0) with _ | v <;> simp
  | succ n ih =>
    rw [ovL_succ, List.pairwise_append]
    refine ⟨ih, ?_, fun x hx y hy => ?_⟩
    · unfold hereL; rcases f (n + 1) (kq a (n + 1)) with _ | v <;> simp
    · obtain ⟨d, v, hd, _, rfl⟩ := mem_ovL.1 hx
      obtain ⟨v', _, rfl⟩ := mem_here.1 hy
      simp only; omega
theorem last_most {l : List Pr} (h : l.Pairwise (fun x y => x.l < y.l)) {x : Pr} (hx : x ∈ l) : x.l ≤ (l.getLastD zeroR).l := by
  have hne : l ≠ [] := fun e => by rw [e] at hx; cases hx
  rw [List.getLastD_eq_getLast?, List.getLast?_eq_some_getLast hne, Option.getD_some]
  rw [← List.dropLast_concat_getLast hne, List.pairwise_append] at h
  rw [← List.dropLast_concat_getLast hne] at hx
  rcases List.mem_append.1 hx with h1 | h1
  · exact Int.le_of_lt (h.2.2 x h1 _ (by simp))
  · rw [List.mem_singleton.1 h1]; exact Int.le_refl _
theorem findE_zero {s : Tv} {a : Int} (h : findE s a = 0) : isAddr a = true ∧ ¬ ovL s.f a 32 = [] := by
  unfold findE at h
  split at h
  · rename_i h1
    split at h
    · omega
    · rename_i h2; exact ⟨h1, h2⟩
  · omega
theorem find_has {s : Tv} (hs : OkV s) {a : Int} (h : findE s a = 0) : ∃ (d : Nat) (v : Int), d ≤ 32 ∧ s.f d (kq a d) = some v ∧ findV s a = ⟨ka d (kq a d), d, v⟩ ∧ hasB (findV s a).a (findV s a).l a = true := by
  obtain ⟨h1, h2⟩ := findE_zero h
  have hA := of_isAddr h1
  have hm : (ovL s.f a 32).getLastD zeroR ∈ ovL s.f a 32 := by
    rw [List.getLastD_eq_getLast?, List.getLast?_eq_some_getLast h2, Option.getD_some]; exact List.getLast_mem h2
  obtain ⟨d, v, hd, hf, he⟩ := mem_ovL.1 hm
  have e : findV s a = ⟨ka d (kq a d), d, v⟩ := by unfold findV; rw [if_pos h1]; exact he
  refine ⟨d, v, hd, hf, e, ?_⟩
  rw [e]
  simp only
  rw [has_kq hd (kq_lt hA.1 hA.2 hd) hA.1 hA.2]; simp
theorem find_most {s : Tv} {a : Int} (h : findE s a = 0) {b l : Int} (hh : hasB b l a = true) (hm : s.f l.toNat (kq b l.toNat) ≠ none) : ¬ (findV s a).l < l := by
  obtain ⟨h1, h2⟩ := findE_zero h
  have hA := of_isAddr h1
  have hp : prefE b l = 0 := by unfold hasB at hh; exact (of_decide_eq_true hh).1
  obtain ⟨n, rfl, hn, hp', hk⟩ := prefE_nat hp
  rw [Int.toNat_natCast] at hm
  have hb := ka_kq hp'
  rw [← hb, has_kq hn hk hA.1 hA.2] at hh
  have hq := of_decide_eq_true hh
  rw [← hq] at hm
  obtain ⟨v, hv⟩ := Option.ne_none_iff_exists'.1 hm
  have hx : (⟨ka n (kq a n), n, v⟩ : Pr) ∈ ovL s.f a 32 := mem_ovL.2 ⟨n, v, hn, hv, rfl⟩
  have := last_most (ovL_order s.f a 32) hx
  unfold findV; rw [if_pos h1]; simp only at this; omega
end Go.Proofs.YtdpnmhfhjcebbaaDoor
