/- The reference's list of pairs, held against a trie's values: plain facts on lists. No condition is asked of a program. -/
import Derived.Test.YtdpnmhfhjcebbaaDoorThinMath
namespace Go.Proofs.YtdpnmhfhjcebbaaDoor
set_option linter.unusedVariables false

theorem at_mem {s : Tv} (h : OkV s) {x : Pr} (hx : x ∈ allV s) : atV s x.a x.l = some x.v ∧ prefE x.a x.l = 0 := by
  obtain ⟨d, q, v, h1, h2, h3, rfl⟩ := (mem_all h).1 hx
  refine ⟨?_, ka_good h1 h2⟩
  unfold atV; simp only [Int.toNat_natCast]; rw [kq_ka]; exact h3
theorem mem_at {s : Tv} (h : OkV s) {a l v : Int} (hp : prefE a l = 0) (hv : atV s a l = some v) : (⟨a, l, v⟩ : Pr) ∈ allV s := by
  obtain ⟨n, rfl, hn, hp', hk⟩ := prefE_nat hp
  unfold atV at hv; rw [Int.toNat_natCast] at hv
  exact (mem_all h).2 ⟨n, kq a n, v, hn, hk, hv, by rw [ka_kq hp']⟩
theorem at_none {s : Tv} (h : OkV s) {a l : Int} (hp : prefE a l = 0) : atV s a l = none ↔ ∀ x ∈ allV s, ¬ (x.a = a ∧ x.l = l) := by
  constructor
  · rintro hn x hx ⟨rfl, rfl⟩
    rw [(at_mem h hx).1] at hn; cases hn
  · intro hx
    rcases hv : atV s a l with _ | v
    · rfl
    · exact (hx _ (mem_at h hp hv) ⟨rfl, rfl⟩).elim
theorem lmem_set {s : Tv} (h : OkV s) {a l : Int} (hp : prefE a l = 0) {o : Option Int} {m : Int} (hk : OkV ⟨setV s.f l.toNat (kq a l.toNat) o, m⟩) {x : Pr} :
    x ∈ allV ⟨setV s.f l.toNat (kq a l.toNat) o, m⟩ ↔ (x.a = a ∧ x.l = l ∧ o = some x.v) ∨ (x ∈ allV s ∧ ¬ (x.a = a ∧ x.l = l)) := by
  rw [mem_all hk, mem_all h]
  obtain ⟨n, rfl, hn, hp', hq⟩ := prefE_nat hp
  rw [Int.toNat_natCast]
  constructor
  · rintro ⟨d, q, v, h1, h2, h3, rfl⟩
    by_cases he : d = n ∧ q = kq a n
    · obtain ⟨rfl, rfl⟩ := he
      simp only at h3
      rw [setV_same] at h3
      exact .inl ⟨ka_kq hp', rfl, h3⟩
    · simp only at h3
      rw [setV_other he] at h3
      refine .inr ⟨⟨d, q, v, h1, h2, h3, rfl⟩, ?_⟩
      rintro ⟨e1, e2⟩
      simp only at e1 e2
      obtain rfl : d = n := by omega
      exact he ⟨rfl, by rw [← e1, kq_ka]⟩
  · rintro (⟨e1, e2, e3⟩ | ⟨⟨d, q, v, h1, h2, h3, rfl⟩, hne⟩)
    · refine ⟨n, kq a n, x.v, hn, hq, ?_, ?_⟩
      · simp only; rw [setV_same]; exact e3
      · rw [ka_kq hp']; obtain ⟨xa, xl, xv⟩ := x; simp only at e1 e2; subst e1 e2; rfl
    · refine ⟨d, q, v, h1, h2, ?_, rfl⟩
      simp only
      rw [setV_other]; · exact h3
      rintro ⟨rfl, rfl⟩
      exact hne ⟨ka_kq hp', rfl⟩
theorem befP_key {x y z : Pr} (h : befP x y) (ha : z.a = y.a) (hl : z.l = y.l) : befP x z := by unfold befP at *; omega
theorem befP_key' {x y z : Pr} (h : befP y x) (ha : z.a = y.a) (hl : z.l = y.l) : befP z x := by unfold befP at *; omega
/-- In a row that rises, a key stands once. -/
theorem key_once {A B : List Pr} {x : Pr} (h : (A ++ x :: B).Pairwise befP) {y : Pr} (hy : y ∈ A ++ B) : ¬ (y.a = x.a ∧ y.l = x.l) := by
  rw [List.pairwise_append, List.pairwise_cons] at h
  rintro ⟨e1, e2⟩
  rcases List.mem_append.1 hy with h1 | h1
  · have := h.2.2 y h1 x (by simp); unfold befP at this; omega
  · have := h.2.1.1 y h1; unfold befP at this; omega
theorem sorted_swap {A B : List Pr} {x y : Pr} (h : (A ++ x :: B).Pairwise befP) (ha : y.a = x.a) (hl : y.l = x.l) : (A ++ y :: B).Pairwise befP := by
  rw [List.pairwise_append, List.pairwise_cons] at h ⊢
  refine ⟨h.1, ⟨fun z hz => befP_key' (h.2.1.1 z hz) ha hl, h.2.1.2⟩, fun z hz u hu => ?_⟩
  rcases List.mem_cons.1 hu with rfl | hu
  · exact befP_key (h.2.2 z hz x (by simp)) ha hl
  · exact h.2.2 z hz u (List.mem_cons_of_mem _ hu)
theorem sorted_less {A B : List Pr} {x : Pr} (h : (A ++ x :: B).Pairwise befP) : (A ++ B).Pairwise befP := by
  rw [List.pairwise_append, List.pairwise_cons] at h
  rw [List.pairwise_append]
  exact ⟨h.1, h.2.1.2, fun z hz u hu => h.2.2 z hz u (List.mem_cons_of_mem _ hu)⟩
theorem lput_old {s : Tv} (h : OkV s) {A B : List Pr} {x : Pr} (v : Int) (hL : allV s = A ++ x :: B) :
    allV (putV s x.a x.l v).1 = A ++ ⟨x.a, x.l, v⟩ :: B ∧ (putV s x.a x.l v).2 = (false, 0) := by
  have hx : x ∈ allV s := by rw [hL]; simp
  obtain ⟨h1, hp⟩ := at_mem h hx
  have hs := all_sorted s
  rw [hL] at hs
  have hk := h.put x.a x.l v
  have e : putV s x.a x.l v = (⟨setV s.f x.l.toNat (kq x.a x.l.toNat) (some v), s.many⟩, false, 0) := by
    unfold putV
    rw [if_neg (by rw [hp]; simp), if_neg (by rw [h1]; simp)]
  rw [e] at hk ⊢
  refine ⟨sorted_uniq (all_sorted _) (sorted_swap hs rfl rfl) (fun y => ?_), rfl⟩
  rw [lmem_set h hp hk, hL]
  simp only [List.mem_append, List.mem_cons, Option.some.injEq]
  constructor
  · rintro (⟨e1, e2, e3⟩ | ⟨h2 | rfl | h2, h3⟩)
    · right; left; obtain ⟨ya, yl, yv⟩ := y; simp only at e1 e2 e3; subst e1 e2 e3; rfl
    · exact .inl h2
    · exact (h3 ⟨rfl, rfl⟩).elim
    · exact .inr (.inr h2)
  · rintro (h2 | rfl | h2)
    · exact .inr ⟨.inl h2, key_once hs (by simp [h2])⟩
    · exact .inl ⟨rfl, rfl, rfl⟩
    · exact .inr ⟨.inr (.inr h2), key_once hs (by simp [h2])⟩
theorem lput_new {s : Tv} (h : OkV s) {A B : List Pr} {a l v : Int} (hp : prefE a l = 0) (hL : allV s = A ++ B) (hn : ∀ x ∈ allV s, ¬ (x.a = a ∧ x.l = l)) (hm : (allV s).length < 200)
    (hA : ∀ x ∈ A, befP x ⟨a, l, v⟩) (hB : ∀ x, B.head? = some x → ¬ befP x ⟨a, l, v⟩) :
    allV (putV s a l v).1 = A ++ ⟨a, l, v⟩ :: B ∧ (putV s a l v).2 = (true, 0) := by
  have h1 := (at_none h hp).2 hn
  have hs := all_sorted s
  rw [hL] at hs
  have hk := h.put a l v
  have e : putV s a l v = (⟨setV s.f l.toNat (kq a l.toNat) (some v), s.many + 1⟩, true, 0) := by
    unfold putV
    rw [if_neg (by rw [hp]; simp), if_pos h1, if_neg (by rw [h.many]; omega)]
  rw [e] at hk ⊢
  have hs2 : (A ++ ⟨a, l, v⟩ :: B).Pairwise befP := by
    rw [List.pairwise_append] at hs ⊢
    refine ⟨hs.1, ?_, fun z hz u hu => ?_⟩
    · rw [List.pairwise_cons]
      refine ⟨fun u hu => ?_, hs.2.1⟩
      rcases B with _ | ⟨b, B⟩
      · cases hu
      · have hb := hB b rfl
        have hb2 := hn b (by rw [hL]; simp)
        have hab : befP ⟨a, l, v⟩ b := by unfold befP at hb ⊢; simp only at hb ⊢; omega
        rcases List.mem_cons.1 hu with rfl | hu
        · exact hab
        · exact hab.trans ((List.pairwise_cons.1 hs.2.1).1 u hu)
    · rcases List.mem_cons.1 hu with rfl | hu
      · exact hA z hz
      · exact hs.2.2 z hz u hu
  refine ⟨sorted_uniq (all_sorted _) hs2 (fun y => ?_), rfl⟩
  rw [lmem_set h hp hk]
  simp only [List.mem_append, List.mem_cons, Option.some.injEq]
  constructor
  · rintro (⟨e1, e2, e3⟩ | ⟨h2, h3⟩)
    · right; left; obtain ⟨ya, yl, yv⟩ := y; simp only at e1 e2 e3; subst e1 e2 e3; rfl
    · rw [hL, List.mem_append] at h2
      rcases h2 with h2 | h2
      · exact .inl h2
      · exact .inr (.inr h2)
  · rintro (h2 | rfl | h2)
    · have : y ∈ allV s := by rw [hL]; simp [h2]
      exact .inr ⟨this, hn y this⟩
    · exact .inl ⟨rfl, rfl, rfl⟩
    · have : y ∈ allV s := by rw [hL]; simp [h2]
      exact .inr ⟨this, hn y this⟩
theorem lput_full {s : Tv} (h : OkV s) {a l v : Int} (hp : prefE a l = 0) (hn : ∀ x ∈ allV s, ¬ (x.a = a ∧ x.l = l)) (hm : ¬ (allV s).length < 200) : putV s a l v = (s, false, 4) := by
  unfold putV
  rw [if_neg (by rw [hp]; simp), if_pos ((at_none h hp).2 hn), if_pos (by rw [h.many]; omega)]
theorem lput_bad {s : Tv} {a l v : Int} (hp : ¬ prefE a l = 0) : putV s a l v = (s, false, prefE a l) := by unfold putV; rw [if_pos hp]
theorem ldrop_old {s : Tv} (h : OkV s) {A B : List Pr} {x : Pr} (hL : allV s = A ++ x :: B) :
    allV (dropV s x.a x.l).1 = A ++ B ∧ (dropV s x.a x.l).2 = (true, 0) := by
  have hx : x ∈ allV s := by rw [hL]; simp
  obtain ⟨h1, hp⟩ := at_mem h hx
  have hs := all_sorted s
  rw [hL] at hs
  have hk := h.drop x.a x.l
  have e : dropV s x.a x.l = (⟨setV s.f x.l.toNat (kq x.a x.l.toNat) none, s.many - 1⟩, true, 0) := by
    unfold dropV
    rw [if_neg (by rw [hp]; simp), if_neg (by rw [h1]; simp)]
  rw [e] at hk ⊢
  refine ⟨sorted_uniq (all_sorted _) (sorted_less hs) (fun y => ?_), rfl⟩
  rw [lmem_set h hp hk, hL]
  simp only [List.mem_append, List.mem_cons]
  constructor
  · rintro (⟨_, _, e3⟩ | ⟨h2 | rfl | h2, h3⟩)
    · cases e3
    · exact .inl h2
    · exact (h3 ⟨rfl, rfl⟩).elim
    · exact .inr h2
  · rintro (h2 | h2)
    · exact .inr ⟨.inl h2, key_once hs (by simp [h2])⟩
    · exact .inr ⟨.inr (.inr h2), key_once hs (by simp [h2])⟩
theorem ldrop_none {s : Tv} (h : OkV s) {a l : Int} (hp : prefE a l = 0) (hn : ∀ x ∈ allV s, ¬ (x.a = a ∧ x.l = l)) : dropV s a l = (s, false, 0) := by
  unfold dropV
  rw [if_neg (by rw [hp]; simp), if_pos ((at_none h hp).2 hn)]

/-! ### over and under -/
/-- Is a prefix inside another one? -/
def insB (a l b m : Int) : Bool := hasB b m a && decide (prefE a l = 0) && decide (m ≤ l)
theorem ins_here {s : Tv} (h : OkV s) {a : Int} {l n : Nat} (hp : prefE a l = 0) (hn : n ≤ l) : (allV s).filter (fun x => insB a l x.a x.l && decide (x.l = (n : Int))) = hereL s.f n (kq a n) := by
  obtain ⟨hA, hL, _⟩ := prefE_zero hp
  refine sorted_uniq ((all_sorted s).filter _) ?_ (fun x => ?_)
  · unfold hereL; rcases s.f n (kq a n) with _ | v <;> simp
  · rw [List.mem_filter, mem_all h, mem_here]
    constructor
    · rintro ⟨⟨d, q, v, h1, h2, h3, rfl⟩, hb⟩
      simp only [Bool.and_eq_true, decide_eq_true_eq, insB] at hb
      obtain ⟨⟨⟨hb1, _⟩, _⟩, hb2⟩ := hb
      obtain rfl : d = n := by omega
      rw [has_kq h1 h2 hA.1 hA.2] at hb1
      have := of_decide_eq_true hb1
      subst this
      exact ⟨v, h3, rfl⟩
    · rintro ⟨v, h1, rfl⟩
      obtain ⟨k1, k2⟩ := h.rng n _ (by rw [h1]; simp)
      refine ⟨⟨n, _, v, k1, k2, h1, rfl⟩, ?_⟩
      simp only [Bool.and_eq_true, decide_eq_true_eq, insB]
      refine ⟨⟨⟨?_, hp⟩, by omega⟩, trivial⟩
      rw [has_kq k1 k2 hA.1 hA.2]; simp
theorem ins_far {s : Tv} {a : Int} {l n : Nat} (hn : l < n) : (allV s).filter (fun x => insB a l x.a x.l && decide (x.l = (n : Int))) = [] := by
  rw [List.filter_eq_nil_iff]
  intro x _ hb
  simp only [Bool.and_eq_true, decide_eq_true_eq, insB] at hb
  omega
/-- What the reference's Over has when it comes to length n. -/
def ovR (L : List Pr) (a l : Int) (n : Nat) : List Pr := (List.range n).flatMap fun (k : Nat) => L.filter (fun x => insB a l x.a x.l && decide (x.l = (k : Int)))
theorem ovR_zero (L : List Pr) (a l : Int) : ovR L a l 0 = [] := rfl
theorem ovR_succ (L : List Pr) (a l : Int) (n : Nat) : ovR L a l (n + 1) = ovR L a l n ++ L.filter (fun x => insB a l x.a x.l && decide (x.l = (n : Int))) := by
  unfold ovR; rw [List.range_succ, List.flatMap_append]; simp
theorem ovR_is {s : Tv} (h : OkV s) {a : Int} {l : Nat} (hp : prefE a l = 0) (hl : l ≤ 32) : ovR (allV s) a l 33 = ovL s.f a l := by
  have k1 : ∀ n, n ≤ l + 1 → ovR (allV s) a l n = (List.range n).flatMap fun d => hereL s.f d (kq a d) := by
    intro n
    induction n with
    | zero => intro _; rfl
    | succ n ih =>
      intro hn
      rw [ovR_succ, ih (by omega), ins_here h hp (by omega), List.range_succ, List.flatMap_append]; simp
  have k2 : ∀ n, ovR (allV s) a l (l + 1 + n) = ovL s.f a l := by
    intro n
    induction n with
    | zero => rw [Nat.add_zero, k1 _ (Nat.le_refl _)]; rfl
    | succ n ih => rw [← Nat.add_assoc, ovR_succ, ih, ins_far (by omega), List.append_nil]
  have := k2 (32 - l)
  rw [show l + 1 + (32 - l) = 33 by omega] at this
  exact this
theorem undR_is {s : Tv} (h : OkV s) {a : Int} {l : Nat} (hp : prefE a l = 0) (hl : l ≤ 32) : (allV s).filter (fun x => insB x.a x.l a l) = undV s a l := by
  obtain ⟨hA, hL, _⟩ := prefE_zero hp
  have hka := ka_kq hp
  have hq := kq_lt hA.1 hA.2 hl
  refine sorted_uniq ((all_sorted s).filter _) ?_ (fun x => ?_)
  · unfold undV; exact lstL_sorted s.f (by rw [Int.toNat_natCast]; omega)
  · unfold undV
    rw [List.mem_filter, mem_all h, mem_lstL, Int.toNat_natCast]
    constructor
    · rintro ⟨⟨d, q, v, h1, h2, h3, rfl⟩, hb⟩
      simp only [Bool.and_eq_true, decide_eq_true_eq, insB] at hb
      obtain ⟨⟨hb1, _⟩, hb2⟩ := hb
      obtain ⟨g0, g1⟩ := ka_bounds h1 h2
      rw [← hka, has_kq hl hq g0 g1] at hb1
      have hb1 := of_decide_eq_true hb1
      refine ⟨d, q, v, by omega, by omega, ?_, h3, rfl⟩
      rw [← kq_up (ka d q) (show l ≤ d by omega) h1, kq_ka] at hb1
      rw [hb1]
    · rintro ⟨e, p, v, h1, h2, h3, h4, rfl⟩
      obtain ⟨k1, k2⟩ := h.rng e p (by rw [h4]; simp)
      refine ⟨⟨e, p, v, k1, k2, h4, rfl⟩, ?_⟩
      obtain ⟨g0, g1⟩ := ka_bounds k1 k2
      simp only [Bool.and_eq_true, decide_eq_true_eq, insB]
      refine ⟨⟨?_, ka_good k1 k2⟩, by omega⟩
      have e1 : hasB (ka l (kq a l)) l (ka e p) = true := by
        rw [has_kq hl hq g0 g1, ← kq_up (ka e p) h1 k1, kq_ka, h3]; simp
      rw [hka] at e1; exact e1
end Go.Proofs.YtdpnmhfhjcebbaaDoor
