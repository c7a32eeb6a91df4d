/- The reference's Thin, a length at a time, held against thinL: plain facts on lists. No condition is asked of a program. -/
import Derived.Test.YtdpnmhfhjcebbaaDoorPlayMath
namespace Go.Proofs.YtdpnmhfhjcebbaaDoor
set_option linter.unusedVariables false

/-- Is a pair kept when lengths from n on are done? -/
def kpB (f : Vf) (n : Int) (x : Pr) : Bool := !(decide (n ≤ x.l) && repB f x)
theorem kpB_up {f : Vf} {n : Int} {x : Pr} (h : kpB f (n + 1) x = false) : kpB f n x = false := by
  simp only [kpB, Bool.not_eq_false', Bool.and_eq_true, decide_eq_true_eq] at h ⊢
  exact ⟨by omega, h.2⟩
theorem kpB_less {f : Vf} {n : Int} {x : Pr} (h : x.l < n) : kpB f n x = true := by
  simp only [kpB, Bool.not_eq_true', Bool.and_eq_false_iff, decide_eq_false_iff_not]
  exact .inl (by omega)
theorem kpB_at {f : Vf} {n : Int} {x : Pr} (h : kpB f (n + 1) x = true) : kpB f n x = !(decide (x.l = n) && repB f x) := by
  simp only [kpB] at h ⊢
  generalize repB f x = b at h ⊢
  rcases b with _ | _
  · simp
  · have h' : ¬ n + 1 ≤ x.l := by simpa using h
    rw [Bool.and_true, Bool.and_true]
    congr 1
    rw [decide_eq_decide]; omega
/-- Where Thin stands: lengths above n are done, and of n the pairs P. -/
structure ThinS (s : Tv) (n : Int) (P Q : List Pr) (s' : Tv) : Prop where
  ok : OkV s'
  all : allV s = P ++ Q
  now : allV s' = P.filter (kpB s.f n) ++ Q.filter (kpB s.f (n + 1))
theorem ThinS.start {s : Tv} (h : OkV s) : ThinS s 32 [] (allV s) s := by
  refine ⟨h, rfl, ?_⟩
  rw [List.filter_nil, List.nil_append, eq_comm, List.filter_eq_self]
  intro x hx
  obtain ⟨d, q, v, h1, h2, h3, rfl⟩ := (mem_all h).1 hx
  exact kpB_less (by show (d : Int) < 33; omega)
theorem ThinS.down {s s' : Tv} {n : Int} {P Q : List Pr} (h : ThinS s n P Q s') (hi : (P.filter (kpB s.f n)).length = (allV s').length) : ThinS s (n - 1) [] (allV s) s' := by
  refine ⟨h.ok, rfl, ?_⟩
  have hn := h.now
  have hq : Q.filter (kpB s.f (n + 1)) = [] := by
    have := congrArg List.length hn
    rw [List.length_append] at this
    exact List.eq_nil_of_length_eq_zero (by omega)
  rw [hq, List.append_nil] at hn
  rw [hn, List.filter_nil, List.nil_append, h.all, List.filter_append, show n - 1 + 1 = n by omega]
  rw [eq_comm]
  have : Q.filter (kpB s.f n) = [] := by
    rw [List.filter_eq_nil_iff] at hq ⊢
    intro x hx hk
    have := kpB_up (Bool.eq_false_iff.2 (hq x hx))
    rw [this] at hk; cases hk
  rw [this, List.append_nil]
theorem ThinS.done {l : List Pr} {s' : Tv} (h : ThinS (stV l) (-1) [] (allV (stV l)) s') : allV s' = thinL l := by
  rw [h.now]
  unfold thinL
  rw [List.filter_nil, List.nil_append]
  refine List.filter_congr (fun x hx => ?_)
  obtain ⟨d, q, v, h1, h2, h3, rfl⟩ := (mem_all (stV_ok l).1).1 hx
  simp only [kpB]
  rw [decide_eq_true (by omega), Bool.true_and]
theorem filter_cons_split {α : Type} {p : α → Bool} : ∀ {Q : List α} {x : α} {R : List α}, Q.filter p = x :: R → ∃ Q1 Q2, Q = Q1 ++ x :: Q2 ∧ (∀ y ∈ Q1, p y = false) ∧ p x = true ∧ Q2.filter p = R
  | [], x, R, h => by simp at h
  | y :: Q, x, R, h => by
    rcases hy : p y with _ | _
    · rw [List.filter_cons_of_neg (by rw [hy]; simp)] at h
      obtain ⟨Q1, Q2, rfl, h1, h2, h3⟩ := filter_cons_split h
      exact ⟨y :: Q1, Q2, rfl, fun z hz => Or.elim (List.mem_cons.1 hz) (fun e => e ▸ hy) (fun k => h1 z k), h2, h3⟩
    · rw [List.filter_cons_of_pos hy] at h
      simp only [List.cons.injEq] at h
      obtain ⟨rfl, h⟩ := h
      exact ⟨[], Q, rfl, fun z hz => (List.not_mem_nil hz).elim, hy, h⟩
theorem ThinS.low {s s' : Tv} {n : Int} {P Q : List Pr} (hs : OkV s) (h : ThinS s n P Q s') {d q : Nat} (hd : (d : Int) < n) : s'.f d q = s.f d q := by
  have key : ∀ x : Pr, x.l < n → (x ∈ allV s' ↔ x ∈ allV s) := fun x hx => by
    rw [h.now, h.all, List.mem_append, List.mem_append, List.mem_filter, List.mem_filter, kpB_less hx, kpB_less (show x.l < n + 1 by omega)]; simp
  rcases e1 : s'.f d q with _ | v
  · rcases e2 : s.f d q with _ | v
    · rfl
    · obtain ⟨k1, k2⟩ := hs.rng d q (by rw [e2]; simp)
      have := (key ⟨ka d q, d, v⟩ hd).2 ((mem_all hs).2 ⟨d, q, v, k1, k2, e2, rfl⟩)
      have := (at_mem h.ok this).1
      unfold atV at this
      simp only [Int.toNat_natCast] at this
      rw [kq_ka, e1] at this; cases this
  · obtain ⟨k1, k2⟩ := h.ok.rng d q (by rw [e1]; simp)
    have := (key ⟨ka d q, d, v⟩ hd).1 ((mem_all h.ok).2 ⟨d, q, v, k1, k2, e1, rfl⟩)
    have := (at_mem hs this).1
    unfold atV at this
    simp only [Int.toNat_natCast] at this
    rw [kq_ka] at this; exact this.symm
theorem ThinS.rep {s s' : Tv} {n : Int} {P Q : List Pr} (hs : OkV s) (h : ThinS s n P Q s') {x : Pr} (hx : x ∈ allV s') (hl : x.l = n) : repB s'.f x = repB s.f x := by
  have hx2 : x ∈ allV s := by
    rw [h.now] at hx; rw [h.all]
    rcases List.mem_append.1 hx with h1 | h1
    · exact List.mem_append_left _ (List.mem_filter.1 h1).1
    · exact List.mem_append_right _ (List.mem_filter.1 h1).1
  have a1 := (at_mem h.ok hx).1
  have a2 := (at_mem hs hx2).1
  obtain ⟨d, q, v, h1, h2, h3, rfl⟩ := (mem_all hs).1 hx2
  simp only at hl
  unfold atV at a1 a2
  simp only [Int.toNat_natCast] at a1 a2
  have e : ovL s'.f (ka d q) d = ovL s.f (ka d q) d := by
    rcases d with _ | d
    · rw [ovL_zero, ovL_zero]; unfold hereL; rw [a1, a2]
    · rw [ovL_succ, ovL_succ]
      congr 1
      · unfold ovL
        have : ∀ k ∈ List.range (d + 1), hereL s'.f k (kq (ka (d + 1) q) k) = hereL s.f k (kq (ka (d + 1) q) k) := fun k hk => by
          rw [List.mem_range] at hk
          unfold hereL; rw [h.low hs (by omega)]
        rw [List.flatMap_def, List.flatMap_def, List.map_congr_left this]
      · unfold hereL; rw [a1, a2]
  unfold repB
  simp only [Int.toNat_natCast]
  rw [e]
theorem ThinS.next {s s' : Tv} {n : Int} {P Q : List Pr} (hs : OkV s) (h : ThinS s n P Q s') {i : Nat} (hi : i = (P.filter (kpB s.f n)).length) (hlt : i < (allV s').length) :
    ∃ P' Q', (if (allV s')[i].l = n ∧ repB s'.f (allV s')[i] = true then ThinS s n P' Q' (dropV s' (allV s')[i].a (allV s')[i].l).1 ∧ (P'.filter (kpB s.f n)).length = i else ThinS s n P' Q' s' ∧ (P'.filter (kpB s.f n)).length = i + 1) := by
  have hn := h.now
  obtain ⟨x, R, hR⟩ : ∃ x R, Q.filter (kpB s.f (n + 1)) = x :: R := by
    rcases hq : Q.filter (kpB s.f (n + 1)) with _ | ⟨x, R⟩
    · rw [hn, hq, List.append_nil] at hlt; omega
    · exact ⟨x, R, rfl⟩
  have hget : (allV s')[i] = x := by
    have : (allV s')[i]? = some x := by rw [hn, hR, hi]; simp
    rw [List.getElem?_eq_getElem hlt] at this
    exact Option.some.inj this
  have hmem : x ∈ allV s' := by rw [← hget]; exact List.getElem_mem hlt
  obtain ⟨Q1, Q2, rfl, h1, h2, rfl⟩ := filter_cons_split hR
  have hq1 : Q1.filter (kpB s.f n) = [] := by
    rw [List.filter_eq_nil_iff]
    intro y hy hk
    rw [kpB_up (h1 y hy)] at hk; cases hk
  have hP : ∀ b, kpB s.f n x = b → (P ++ Q1 ++ [x]).filter (kpB s.f n) = P.filter (kpB s.f n) ++ (if b = true then [x] else []) := by
    intro b hb
    rw [List.filter_append, List.filter_append, hq1, List.append_nil]
    congr 1
    rcases b with _ | _
    · rw [List.filter_cons_of_neg (by rw [hb]; simp)]; rfl
    · rw [List.filter_cons_of_pos hb]; rfl
  have hall : allV s = (P ++ Q1 ++ [x]) ++ Q2 := by rw [h.all]; simp
  rw [hR] at hn
  refine ⟨P ++ Q1 ++ [x], Q2, ?_⟩
  rw [hget]
  split
  · rename_i hc
    have hr := hc.2
    rw [h.rep hs hmem hc.1] at hr
    have hk : kpB s.f n x = false := by rw [kpB_at h2, decide_eq_true hc.1, hr]; rfl
    have hp := hP _ hk
    simp only [Bool.false_eq_true, if_false, List.append_nil] at hp
    refine ⟨⟨h.ok.drop _ _, hall, ?_⟩, by rw [hp, hi]⟩
    rw [(ldrop_old h.ok hn).1, hp]
  · rename_i hc
    have hk : kpB s.f n x = true := by
      rw [kpB_at h2]
      by_cases hl : x.l = n
      · have : repB s.f x = false := by
          rw [← h.rep hs hmem hl]
          rcases hb : repB s'.f x with _ | _
          · rfl
          · exact (hc ⟨hl, hb⟩).elim
        rw [this]; simp
      · rw [decide_eq_false hl]; rfl
    have hp := hP _ hk
    simp only [if_true] at hp
    refine ⟨⟨h.ok, hall, ?_⟩, by rw [hp, List.length_append, hi]; rfl⟩
    rw [hn, hp]; simp
theorem rep_len {f : Vf} {x : Pr} {o : List Pr} (h : ovL f x.a x.l.toNat = o) : repB f x = true ↔ ∃ hk : 1 < o.length, o[o.length - 2].v = x.v := by
  unfold repB
  rw [h]
  rcases hd : o.dropLast.getLast? with _ | z
  · simp only [Bool.false_eq_true, false_iff]
    rintro ⟨hk, _⟩
    rw [List.getLast?_eq_none_iff] at hd
    have := congrArg List.length hd
    rw [List.length_dropLast] at this
    simp at this; omega
  · have hne : o.dropLast ≠ [] := fun e => by rw [e] at hd; cases hd
    have hk : 1 < o.length := by
      rcases Nat.lt_or_ge 1 o.length with h1 | h1
      · exact h1
      · exact (hne (List.eq_nil_of_length_eq_zero (by rw [List.length_dropLast]; omega))).elim
    have hz : z = o[o.length - 2] := by
      rw [List.getLast?_eq_getElem?, List.length_dropLast] at hd
      rw [List.getElem?_eq_getElem (by rw [List.length_dropLast]; omega), Option.some.injEq, List.getElem_dropLast] at hd
      rw [← hd]; congr 1
    simp only [beq_iff_eq]
    constructor
    · intro hv; exact ⟨hk, by rw [← hz]; exact hv⟩
    · rintro ⟨_, hv⟩; rw [hz]; exact hv
end Go.Proofs.YtdpnmhfhjcebbaaDoor
