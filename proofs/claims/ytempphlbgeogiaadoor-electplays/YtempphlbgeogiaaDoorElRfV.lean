/- The reference's voter: Master, Wants. -/
import Derived.Test.YtempphlbgeogiaaDoorElRef
namespace Go.Proofs.YtempphlbgeogiaaDoor
open Go.RowKit
set_option linter.unusedVariables false

structure RvOk (r : Rv) : Prop where
  u1 : 0 ≤ r.unt
  u2 : r.unt ≤ 2000000
  d1 : 0 ≤ r.drift
  d2 : r.drift ≤ 1000
  a1 : -1000000 ≤ r.att
  a2 : r.att ≤ 1000000
def rMasB (r : Rv) (now : Int) : Bool := decide (2 * r.drift < r.unt - now)
def rWanB (r : Rv) (now : Int) : Bool := rMasB r now || !r.heard || decide (30 ≤ now - r.att) || decide (r.oth < r.prio ∨ (r.oth = r.prio ∧ r.node = 0))
set_option maxHeartbeats 4000000 in
theorem rMas_any (b : Nat) (r : Rv) (now : Int) (w : World) (h : RvAt w b r) (ok : RvOk r) (h0 : 0 ≤ now) (h1 : now ≤ 1000000) :
    Calls Tryd.prog 17 #[.pointer (some ⟨b, 0, none⟩), .int .i64 now] w fun e w' => e = .returned (.bool (rMasB r now)) ∧ Below w.heap.size w w' := by
  obtain ⟨⟨c0, c1, c2, c3, c4, c5, c6, c7⟩, _⟩ := rv_cells h
  have u1 := ok.u1
  have u2 := ok.u2
  have d1 := ok.d1
  have d2 := ok.d2
  have e : rMasB r now = decide (r.drift + r.drift < r.unt - now) := by unfold rMasB; rw [Int.two_mul]
  rw [e]
  generalize r.unt = un at c4 u1 u2 ⊢
  generalize r.drift = dr at c2 d1 d2 ⊢
  clear h ok e
  go_enter Tryd.func17, Tryd.ntmps17
  go_upto_region 1 with fail
  go_quiet (fail)
  go_wp2_with fail
  go_ret
  exact ⟨rfl, by first | exact Below.refl _ _ | exact (Below.refl _ _).drew | exact below_drewN (Below.refl _ _) _⟩
theorem RvAt.below {w w' : World} {b : Nat} {a : Rv} (h : RvAt w b a) (hb : Below w.heap.size w w') : RvAt w' b a := (hb.block _ h.lt).trans h
set_option maxHeartbeats 8000000 in
theorem rWan_any (b : Nat) (r : Rv) (now : Int) (w : World) (h : RvAt w b r) (ok : RvOk r) (h0 : 0 ≤ now) (h1 : now ≤ 1000000) :
    Calls Tryd.prog 16 #[.pointer (some ⟨b, 0, none⟩), .int .i64 now] w fun e w' => e = .returned (.bool (rWanB r now)) ∧ Below w.heap.size w w' := by
  have hM := rMas_any b r now w h ok h0 h1
  have HC : Hid (∀ W, Below w.heap.size w W → RvAt W b r) := fun W hW => h.below hW
  have a1 := ok.a1
  have a2 := ok.a2
  unfold rWanB
  cases hm : rMasB r now
  · rw [hm] at hM
    simp only [Bool.false_or]
    obtain ⟨R, HR⟩ : ∃ R, Hid ((!r.heard || decide (30 ≤ now - r.att) || decide (r.oth < r.prio ∨ (r.oth = r.prio ∧ r.node = 0))) = R) := ⟨_, rfl⟩
    rw [HR.out]
    clear h ok hm
    go_enter Tryd.func16, Tryd.ntmps16
    go_upto_region 3 with (go_at_call 17; go_must (refine hM.mono ?_; rintro e W2 ⟨rfl, b2⟩))
    obtain ⟨⟨c0, c1, c2, c3, c4, c5, c6, c7⟩, _⟩ := rv_cells (HC.out W2 b2)
    have HB := hR1 b2
    clear hM HC b2 c2 c3 c4
    generalize r.node = nd at c0 HR
    generalize r.prio = pr at c1 HR
    generalize r.oth = ot at c6 HR
    generalize r.att = at_ at c7 a1 a2 HR
    cases hh : r.heard
    · rw [hh] at c5 HR
      have HV : Hid (true = R) := HR.out
      clear hh HR
      go_wp2_with fail
      go_ret
      exact ⟨by rw [← HV.out]; rfl, HB.out⟩
    · rw [hh] at c5 HR
      clear hh
      by_cases h30 : 30 ≤ now - at_
      · rw [decide_eq_true h30] at HR
        have HV : Hid (true = R) := HR.out
        clear HR
        go_wp2_with fail
        go_ret
        exact ⟨by rw [← HV.out]; rfl, HB.out⟩
      · rw [decide_eq_false h30] at HR
        go_upto_region 5 with fail
        rcases (by by_cases g1 : ot < pr; exact .inl g1; by_cases g2 : ot = pr; by_cases g3 : nd = 0; exact .inr (.inr (.inr ⟨g1, g2, g3⟩)); exact .inr (.inr (.inl ⟨g1, g2, g3⟩)); exact .inr (.inl ⟨g1, g2⟩) : ot < pr ∨ (¬ ot < pr ∧ ¬ ot = pr) ∨ (¬ ot < pr ∧ ot = pr ∧ ¬ nd = 0) ∨ (¬ ot < pr ∧ ot = pr ∧ nd = 0)) with g1 | ⟨g1, g2⟩ | ⟨g1, g2, g3⟩ | ⟨g1, g2, g3⟩
        · rw [decide_eq_true (.inl g1 : ot < pr ∨ (ot = pr ∧ nd = 0))] at HR
          have HV : Hid (true = R) := HR.out
          clear HR
          have k1 : decide (ot < pr) = true := decide_eq_true g1
          clear g1 h30
          go_quiet (fail)
          go_wp2_with fail
          go_ret
          exact ⟨by rw [← HV.out]; rfl, by first | exact below_drewN HB.out _ | exact HB.out.drew | exact HB.out⟩
        · rw [decide_eq_false (by omega : ¬ (ot < pr ∨ (ot = pr ∧ nd = 0)))] at HR
          have HV : Hid (false = R) := HR.out
          clear HR
          have k1 : decide (ot < pr) = false := decide_eq_false g1
          have k2 : (ot == pr) = false := by simpa using g2
          clear g1 g2 h30
          go_quiet (fail)
          go_wp2_with fail
          go_ret
          exact ⟨by rw [← HV.out]; rfl, by first | exact below_drewN HB.out _ | exact HB.out.drew | exact HB.out⟩
        · rw [decide_eq_false (by omega : ¬ (ot < pr ∨ (ot = pr ∧ nd = 0)))] at HR
          have HV : Hid (false = R) := HR.out
          clear HR
          have k1 : decide (ot < pr) = false := decide_eq_false g1
          have k2 : (ot == pr) = true := by simpa using g2
          have k3 : (nd == 0) = false := by simpa using g3
          clear g1 g2 g3 h30
          go_quiet (fail)
          go_wp2_with fail
          go_ret
          exact ⟨by rw [← HV.out]; rfl, by first | exact below_drewN HB.out _ | exact HB.out.drew | exact HB.out⟩
        · rw [decide_eq_true (.inr ⟨g2, g3⟩ : ot < pr ∨ (ot = pr ∧ nd = 0))] at HR
          have HV : Hid (true = R) := HR.out
          clear HR
          have k1 : decide (ot < pr) = false := decide_eq_false g1
          have k2 : (ot == pr) = true := by simpa using g2
          have k3 : (nd == 0) = true := by simpa using g3
          clear g1 g2 g3 h30
          go_quiet (fail)
          go_wp2_with fail
          go_ret
          exact ⟨by rw [← HV.out]; rfl, by first | exact below_drewN HB.out _ | exact HB.out.drew | exact HB.out⟩
  · rw [hm] at hM
    simp only [Bool.true_or]
    clear h ok hm HC
    go_enter Tryd.func16, Tryd.ntmps16
    go_wp2_with (go_at_call 17; go_must (refine hM.mono ?_; rintro e W2 ⟨rfl, b2⟩))
    go_ret
    exact ⟨rfl, b2⟩
end Go.Proofs.YtempphlbgeogiaaDoor
