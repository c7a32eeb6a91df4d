/- ElectOne, in numbers: who has the lease, and who had it: never two. -/
import Derived.Test.YtempphlbgeogiaaElMath
namespace Go.Proofs.Ytempphlbgeogiaa
set_option linter.unusedVariables false

/-- What holds of the arbiter, the voters, and what was not granted yet, at a time of the arbiter's. -/
structure OneI (lease drift off oth now : Int) (a : Ar) (x y : Vt) (l0 l1 : Int) : Prop where
  oa : ArOk a
  ox : VtOk x
  oy : VtOk y
  le : a.lease = lease
  dx : x.drift = drift
  dy : y.drift = drift
  an : a.now ≤ now
  xn : x.now ≤ now + off
  yn : y.now ≤ now + oth
  ow : a.own = 0 ∨ a.own = 1
  au : a.unt ≤ now + a.lease
  b0 : 0 ≤ l0 ∧ l0 ≤ 2000000
  b1 : 0 ≤ l1 ∧ l1 ≤ 2000000
  k0 : a.own = 0 → l0 ≤ a.unt ∧ x.unt ≤ a.unt ∧ l1 ≤ now ∧ y.unt ≤ now
  k1 : a.own = 1 → l1 ≤ a.unt ∧ y.unt ≤ a.unt ∧ l0 ≤ now ∧ x.unt ≤ now
/-- Clocks that are off by no more than a drift. -/
structure OffI (drift off oth : Int) : Prop where
  d : 0 ≤ drift ∧ drift ≤ 1000
  f : -drift ≤ off ∧ off ≤ drift
  g : -drift ≤ oth ∧ oth ≤ drift
section
variable {lease drift off oth now : Int} {a : Ar} {x y : Vt} {l0 l1 : Int}
theorem OneI.later (h : OneI lease drift off oth now a x y l0 l1) {n : Int} (hn : now ≤ n) : OneI lease drift off oth n a x y l0 l1 := by
  have h1 := h.an
  have h2 := h.xn
  have h3 := h.yn
  have h4 := h.au
  refine ⟨h.oa, h.ox, h.oy, h.le, h.dx, h.dy, by omega, by omega, by omega, h.ow, by omega, h.b0, h.b1, fun e => ?_, fun e => ?_⟩
  · obtain ⟨p, q, r, s⟩ := h.k0 e; exact ⟨p, q, by omega, by omega⟩
  · obtain ⟨p, q, r, s⟩ := h.k1 e; exact ⟨p, q, by omega, by omega⟩
/-- Never two. -/
theorem OneI.never (h : OneI lease drift off oth now a x y l0 l1) (o : OffI drift off oth) : masB x (now + off) = false ∨ masB y (now + oth) = false := by
  have o1 := o.d
  have o2 := o.f
  have o3 := o.g
  have h1 := h.dx
  have h2 := h.dy
  rcases h.ow with e | e
  · obtain ⟨p, q, r, s⟩ := h.k0 e
    refine .inr (decide_eq_false ?_)
    omega
  · obtain ⟨p, q, r, s⟩ := h.k1 e
    refine .inl (decide_eq_false ?_)
    omega
theorem OneI.role (h : OneI lease drift off oth now a x y l0 l1) (h2 : 0 ≤ now + off) (h3 : now + off ≤ 1000000) (h4 : 0 ≤ now + oth) (h5 : now + oth ≤ 1000000) :
    tmE x.now (now + off) = 0 ∧ tmE y.now (now + oth) = 0 ∧ OneI lease drift off oth now a { x with now := now + off } { y with now := now + oth } l0 l1 := by
  refine ⟨tmE_of h2 h3 h.xn, tmE_of h4 h5 h.yn, h.oa, ?_, ?_, h.le, h.dx, h.dy, h.an, Int.le_refl _, Int.le_refl _, h.ow, h.au, h.b0, h.b1, h.k0, h.k1⟩
  · have ok := h.ox; exact ⟨ok.u1, ok.u2, ok.d1, ok.d2, ok.p1, ok.p2, ok.o1, ok.o2⟩
  · have ok := h.oy; exact ⟨ok.u1, ok.u2, ok.d1, ok.d2, ok.p1, ok.p2, ok.o1, ok.o2⟩
theorem OneI.ask0 (h : OneI lease drift off oth now a x y l0 l1) (h0 : 0 ≤ now) (h1 : now ≤ 1000000) :
    OneI lease drift off oth now (askA a 0 now) x y (if askE a 0 now = 0 then askI a 0 now else l0) l1 := by
  have ok := h.oa.ask 0 now
  by_cases he : askE a 0 now = 0
  · have hz : arE a 0 now = 0 := arE_of (by decide) h0 h1 h.an
    have hc : ¬ ((0 : Int) ≠ a.own ∧ now < a.unt) := by
      intro hc
      unfold askE at he
      rw [if_pos hz, if_pos hc] at he
      cases he
    have eA : askA a 0 now = { a with now := now, own := 0, unt := now + a.lease } := by unfold askA; rw [if_pos he]
    have eI : askI a 0 now = now + a.lease := by unfold askI; rw [if_pos he]
    rw [if_pos he, eI]
    rw [eA] at ok ⊢
    have g1 := h.oa.l1
    have g2 := h.oa.l2
    have g3 := h.b0
    have g4 := h.b1
    have g5 := h.au
    refine ⟨ok, h.ox, h.oy, h.le, h.dx, h.dy, Int.le_refl _, h.xn, h.yn, .inl rfl, Int.le_refl _, ⟨by omega, by omega⟩, h.b1, fun _ => ?_, fun e => by cases e⟩
    show now + a.lease ≤ now + a.lease ∧ x.unt ≤ now + a.lease ∧ l1 ≤ now ∧ y.unt ≤ now
    rcases h.ow with e | e
    · obtain ⟨p, q, r, s⟩ := h.k0 e
      omega
    · obtain ⟨p, q, r, s⟩ := h.k1 e
      omega
  · have eA : askA a 0 now = a := by unfold askA; rw [if_neg he]
    rw [if_neg he, eA]
    exact h
theorem OneI.ask1 (h : OneI lease drift off oth now a x y l0 l1) (h0 : 0 ≤ now) (h1 : now ≤ 1000000) :
    OneI lease drift off oth now (askA a 1 now) x y l0 (if askE a 1 now = 0 then askI a 1 now else l1) := by
  have ok := h.oa.ask 1 now
  by_cases he : askE a 1 now = 0
  · have hz : arE a 1 now = 0 := arE_of (by decide) h0 h1 h.an
    have hc : ¬ ((1 : Int) ≠ a.own ∧ now < a.unt) := by
      intro hc
      unfold askE at he
      rw [if_pos hz, if_pos hc] at he
      cases he
    have eA : askA a 1 now = { a with now := now, own := 1, unt := now + a.lease } := by unfold askA; rw [if_pos he]
    have eI : askI a 1 now = now + a.lease := by unfold askI; rw [if_pos he]
    rw [if_pos he, eI]
    rw [eA] at ok ⊢
    have g1 := h.oa.l1
    have g2 := h.oa.l2
    have g3 := h.b0
    have g4 := h.b1
    have g5 := h.au
    refine ⟨ok, h.ox, h.oy, h.le, h.dx, h.dy, Int.le_refl _, h.xn, h.yn, .inr rfl, Int.le_refl _, h.b0, ⟨by omega, by omega⟩, (fun e => by cases e), fun _ => ?_⟩
    show now + a.lease ≤ now + a.lease ∧ y.unt ≤ now + a.lease ∧ l0 ≤ now ∧ x.unt ≤ now
    rcases h.ow with e | e
    · obtain ⟨p, q, r, s⟩ := h.k0 e
      omega
    · obtain ⟨p, q, r, s⟩ := h.k1 e
      omega
  · have eA : askA a 1 now = a := by unfold askA; rw [if_neg he]
    rw [if_neg he, eA]
    exact h
theorem OneI.gran0 (h : OneI lease drift off oth now a x y l0 l1) (h0 : 0 ≤ now + off) (h1 : now + off ≤ 1000000) :
    granE x l0 (now + off) = 0 ∧ OneI lease drift off oth now a (granV x l0 (now + off)) y l0 l1 := by
  have hz : tmE x.now (now + off) = 0 := tmE_of h0 h1 h.xn
  have hg : grB l0 = true := decide_eq_true h.b0
  have he : granE x l0 (now + off) = 0 := by unfold granE; rw [if_pos hz, if_pos hg]
  have ok := h.ox.gran l0 (now + off)
  have eV : granV x l0 (now + off) = { x with now := now + off, unt := l0 } := by unfold granV; rw [if_pos he]
  refine ⟨he, ?_⟩
  rw [eV] at ok ⊢
  refine ⟨h.oa, ok, h.oy, h.le, h.dx, h.dy, h.an, Int.le_refl _, h.yn, h.ow, h.au, h.b0, h.b1, fun e => ?_, fun e => ?_⟩
  · obtain ⟨p, q, r, s⟩ := h.k0 e; exact ⟨p, p, r, s⟩
  · obtain ⟨p, q, r, s⟩ := h.k1 e; exact ⟨p, q, r, r⟩
theorem OneI.gran1 (h : OneI lease drift off oth now a x y l0 l1) (h0 : 0 ≤ now + oth) (h1 : now + oth ≤ 1000000) :
    granE y l1 (now + oth) = 0 ∧ OneI lease drift off oth now a x (granV y l1 (now + oth)) l0 l1 := by
  have hz : tmE y.now (now + oth) = 0 := tmE_of h0 h1 h.yn
  have hg : grB l1 = true := decide_eq_true h.b1
  have he : granE y l1 (now + oth) = 0 := by unfold granE; rw [if_pos hz, if_pos hg]
  have ok := h.oy.gran l1 (now + oth)
  have eV : granV y l1 (now + oth) = { y with now := now + oth, unt := l1 } := by unfold granV; rw [if_pos he]
  refine ⟨he, ?_⟩
  rw [eV] at ok ⊢
  refine ⟨h.oa, h.ox, ok, h.le, h.dx, h.dy, h.an, h.xn, Int.le_refl _, h.ow, h.au, h.b0, h.b1, fun e => ?_, fun e => ?_⟩
  · obtain ⟨p, q, r, s⟩ := h.k0 e; exact ⟨p, q, r, r⟩
  · obtain ⟨p, q, r, s⟩ := h.k1 e; exact ⟨p, p, r, s⟩
theorem OneI.free0 (h : OneI lease drift off oth now a x y l0 l1) (hd : 0 ≤ drift) (h0 : 0 ≤ now) (h1 : now ≤ 1000000) (h2 : 0 ≤ now + off) (h3 : now + off ≤ 1000000) :
    granE x 0 (now + off) = 0 ∧ tmE (granV x 0 (now + off)).now (now + off) = 0 ∧ masB (granV x 0 (now + off)) (now + off) = false ∧ arE a 0 now = 0 ∧ OneI lease drift off oth now (freeA a 0 now) (movV (granV x 0 (now + off)) (now + off)) y 0 l1 := by
  have hz : tmE x.now (now + off) = 0 := tmE_of h2 h3 h.xn
  have he : granE x 0 (now + off) = 0 := by unfold granE; rw [if_pos hz, if_pos (by decide)]
  have ok := h.ox.gran 0 (now + off)
  have eV : granV x 0 (now + off) = { x with now := now + off, unt := 0 } := by unfold granV; rw [if_pos he]
  have hz2 : tmE (now + off) (now + off) = 0 := tmE_of h2 h3 (Int.le_refl _)
  have ha : arE a 0 now = 0 := arE_of (by decide) h0 h1 h.an
  have oka := h.oa.free 0 now
  have eA : freeA a 0 now = { a with now := now, unt := if (0 : Int) = a.own then now else a.unt } := by unfold freeA; rw [if_pos ha]
  rw [eV] at ok ⊢
  have eM : movV { x with now := now + off, unt := 0 } (now + off) = { x with now := now + off, unt := 0 } := by unfold movV; split <;> rfl
  have hdv := h.dx
  have g5 := h.au
  have g6 := h.oa.l1
  refine ⟨he, hz2, decide_eq_false (by show ¬ 2 * x.drift < 0 - (now + off); omega), ha, ?_⟩
  rw [eM]
  rw [eA] at oka ⊢
  refine ⟨oka, ⟨ok.u1, ok.u2, ok.d1, ok.d2, ok.p1, ok.p2, ok.o1, ok.o2⟩, h.oy, h.le, h.dx, h.dy, Int.le_refl _, Int.le_refl _, h.yn, h.ow, ?_, ⟨by omega, by omega⟩, h.b1, fun e => ?_, fun e => ?_⟩
  · show (if (0 : Int) = a.own then now else a.unt) ≤ now + a.lease
    split <;> omega
  · have e : a.own = 0 := e
    obtain ⟨p, q, r, s⟩ := h.k0 e
    show (0 : Int) ≤ (if (0 : Int) = a.own then now else a.unt) ∧ (0 : Int) ≤ (if (0 : Int) = a.own then now else a.unt) ∧ l1 ≤ now ∧ y.unt ≤ now
    rw [if_pos e.symm]
    omega
  · have e : a.own = 1 := e
    obtain ⟨p, q, r, s⟩ := h.k1 e
    show l1 ≤ (if (0 : Int) = a.own then now else a.unt) ∧ y.unt ≤ (if (0 : Int) = a.own then now else a.unt) ∧ (0 : Int) ≤ now ∧ (0 : Int) ≤ now
    rw [if_neg (by omega)]
    omega
theorem OneI.free1 (h : OneI lease drift off oth now a x y l0 l1) (hd : 0 ≤ drift) (h0 : 0 ≤ now) (h1 : now ≤ 1000000) (h2 : 0 ≤ now + oth) (h3 : now + oth ≤ 1000000) :
    granE y 0 (now + oth) = 0 ∧ tmE (granV y 0 (now + oth)).now (now + oth) = 0 ∧ masB (granV y 0 (now + oth)) (now + oth) = false ∧ arE a 1 now = 0 ∧ OneI lease drift off oth now (freeA a 1 now) x (movV (granV y 0 (now + oth)) (now + oth)) l0 0 := by
  have hz : tmE y.now (now + oth) = 0 := tmE_of h2 h3 h.yn
  have he : granE y 0 (now + oth) = 0 := by unfold granE; rw [if_pos hz, if_pos (by decide)]
  have ok := h.oy.gran 0 (now + oth)
  have eV : granV y 0 (now + oth) = { y with now := now + oth, unt := 0 } := by unfold granV; rw [if_pos he]
  have hz2 : tmE (now + oth) (now + oth) = 0 := tmE_of h2 h3 (Int.le_refl _)
  have ha : arE a 1 now = 0 := arE_of (by decide) h0 h1 h.an
  have oka := h.oa.free 1 now
  have eA : freeA a 1 now = { a with now := now, unt := if (1 : Int) = a.own then now else a.unt } := by unfold freeA; rw [if_pos ha]
  rw [eV] at ok ⊢
  have eM : movV { y with now := now + oth, unt := 0 } (now + oth) = { y with now := now + oth, unt := 0 } := by unfold movV; split <;> rfl
  have hdv := h.dy
  have g5 := h.au
  have g6 := h.oa.l1
  refine ⟨he, hz2, decide_eq_false (by show ¬ 2 * y.drift < 0 - (now + oth); omega), ha, ?_⟩
  rw [eM]
  rw [eA] at oka ⊢
  refine ⟨oka, h.ox, ⟨ok.u1, ok.u2, ok.d1, ok.d2, ok.p1, ok.p2, ok.o1, ok.o2⟩, h.le, h.dx, h.dy, Int.le_refl _, h.xn, Int.le_refl _, h.ow, ?_, h.b0, ⟨by omega, by omega⟩, fun e => ?_, fun e => ?_⟩
  · show (if (1 : Int) = a.own then now else a.unt) ≤ now + a.lease
    split <;> omega
  · have e : a.own = 0 := e
    obtain ⟨p, q, r, s⟩ := h.k0 e
    show l0 ≤ (if (1 : Int) = a.own then now else a.unt) ∧ x.unt ≤ (if (1 : Int) = a.own then now else a.unt) ∧ (0 : Int) ≤ now ∧ (0 : Int) ≤ now
    rw [if_neg (by omega)]
    omega
  · have e : a.own = 1 := e
    obtain ⟨p, q, r, s⟩ := h.k1 e
    show (0 : Int) ≤ (if (1 : Int) = a.own then now else a.unt) ∧ (0 : Int) ≤ (if (1 : Int) = a.own then now else a.unt) ∧ l0 ≤ now ∧ x.unt ≤ now
    rw [if_pos e.symm]
    omega
theorem OneI.new (drift off oth : Int) (hl : 1 ≤ lease) (hl2 : lease ≤ 1000000) (o : OffI drift off oth) : OneI lease drift off oth 2000 { now := 0, lease := lease, own := 0, unt := 0 } { now := 0, node := 0, prio := 9, drift := drift, unt := 0, oth := 0, cnt := 0 } { now := 0, node := 1, prio := 9, drift := drift, unt := 0, oth := 0, cnt := 0 } 0 0 := by
  have o1 := o.d
  have o2 := o.f
  have o3 := o.g
  refine ⟨⟨hl, hl2, by simp, by simp⟩, ⟨by simp, by simp, o1.1, o1.2, by simp, by simp, by simp, by simp⟩, ⟨by simp, by simp, o1.1, o1.2, by simp, by simp, by simp, by simp⟩, rfl, rfl, rfl, ?_, ?_, ?_, .inl rfl, ?_, by decide, by decide, fun _ => by simp, fun e => by cases e⟩
  · show (0 : Int) ≤ 2000; omega
  · show (0 : Int) ≤ 2000 + off; omega
  · show (0 : Int) ≤ 2000 + oth; omega
  · show (0 : Int) ≤ 2000 + lease; omega
end
end Go.Proofs.Ytempphlbgeogiaa
