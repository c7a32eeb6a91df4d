/- ElectLease: the law's walk. -/
import Derived.Test.YtempphlbgeogiaaDoorElArb
import Derived.Test.YtempphlbgeogiaaDoorElVot
import Derived.Test.YtempphlbgeogiaaDoorTold
import Derived.Deep.CutBlock
namespace Go.Proofs.YtempphlbgeogiaaDoor
open Go.RowKit
set_option linter.unusedVariables false

theorem hidL {p : Prop} (h : p) : Hid p := h
theorem elV_val (z : Int) : ErrVal (elV z) z := by
  unfold elV ErrVal
  split
  · rename_i e; exact .inl ⟨rfl, e⟩
  · exact .inr rfl
theorem el_same {a b : Int} (h : a = b) (w : World) (hg : ErrLaid w) : Calls Tryd.prog 6 #[elV a, .int .i64 b] w fun e w' => e = .returned (.bool true) ∧ Below w.heap.size w w' := by
  subst h
  refine (error_val (elV_val a) a w hg).mono ?_
  rintro e w' ⟨h1, h2⟩
  exact ⟨by rw [h1]; simp, h2⟩
theorem free_same {a : Ar} {node : Int} (h : node ≠ a.own) : { a with now := a.now, unt := if node = a.own then a.now else a.unt } = a := by
  rw [if_neg h]
set_option maxRecDepth 100000 in
set_option maxHeartbeats 32000000 in
theorem lease_any (lease now by_ : Int) (free : Bool) (w : World) (hE : ErrLaid w) :
    Calls Tryd.prog 4 #[.int .i64 lease, .int .i64 now, .int .i64 by_, .bool free] w fun e w' => e = .returned (.bool true) ∧ Below w.heap.size w w' := by
  by_cases hL : 1 ≤ lease ∧ lease ≤ 1000000
  · have n1 := newA_fit lease w (by omega) (by omega)
    go_enter Tryd.func4, Tryd.ntmps4
    go_upto_region 4 with (go_at_call 5; go_must (refine n1.mono ?_; rintro e W1 ⟨rfl, k1, b1, s1⟩))
    have HB1 := hidL b1
    clear n1 s1
    by_cases hN : (0 ≤ now ∧ now ≤ 100000) ∧ (0 ≤ by_ ∧ by_ ≤ 100000) ∧ lease ≤ 100000
    · obtain ⟨⟨h1, h2⟩, ⟨h3, h4⟩, h5⟩ := hN
      have h6 := hL.1
      have j1 : ¬ now < 0 := by omega
      have j2 : ¬ 100000 < now := by omega
      have j3 : ¬ by_ < 0 := by omega
      have j4 : ¬ 100000 < by_ := by omega
      have j5 : ¬ 100000 < lease := by omega
      have oka : ArOk { now := 0, lease := lease, own := 0, unt := 0 } := ⟨hL.1, hL.2, by simp, by simp⟩
      have q1 := ask_ok w.heap.size _ 1 now W1 k1 oka (arE_of (.inr rfl) h1 (by omega) h1) (by rintro ⟨_, h⟩; have h : now < 0 := h; omega)
      simp only at q1
      clear k1 hL
      go_upto_region 7 with (go_at_call 10; go_must ((with_reducible refine q1.mono ?_); rintro e W2 ⟨rfl, k2, t2⟩))
      have HB2 := hidL (t2.below HB1.out HB1.out.size (fun i hi => by subst hi; exact Nat.le_refl _))
      clear t2 q1 HB1 b1
      have ok2 : ArOk { now := now, lease := lease, own := 1, unt := now + lease } := ⟨by simp; omega, by simp; omega, by simp; omega, by simp; omega⟩
      have hz2 : arE { now := now, lease := lease, own := 1, unt := now + lease } 0 now = 0 := arE_of (.inl rfl) h1 (by omega) (Int.le_refl _)
      have hc2 : (0 : Int) ≠ 1 := by decide
      have q2 := ask_clash w.heap.size _ 0 now W2 k2 hz2 hc2 (by show now < now + lease; omega)
      go_upto_region 8 with (go_at_call 10; go_must ((with_reducible refine q2.mono ?_); rintro e W3 ⟨rfl, b3⟩))
      have HK3 := hidL (k2.below b3)
      have HB3 := hidL (HB2.out.trans (b3.mono HB2.out.size))
      clear q2 k2 b3 HB2
      have q3 := el_same (a := 7) (b := 7) rfl W3 (hE.below HB3.out)
      rw [show elV 7 = .iface 55 (.int .i64 7) from rfl] at q3
      go_upto_region 9 with (go_at_call 6; go_must ((with_reducible refine q3.mono ?_); rintro e W4 ⟨rfl, b4⟩))
      have HK4 := hidL (HK3.out.below b4)
      have HB4 := hidL (HB3.out.trans (b4.mono HB3.out.size))
      clear q3 b4 HB3 HK3
      go_upto_region 11 with fail
      cases free
      · by_cases hbl : lease ≤ by_
        · have hbl' : ¬ by_ < lease := by omega
          have q5 := ask_ok w.heap.size _ 0 (now + by_) W4 HK4.out ok2 (arE_of (.inl rfl) (by omega) (by omega) (by show now ≤ now + by_; omega)) (by rintro ⟨_, h⟩; have h : now + by_ < now + lease := h; omega)
          simp only at q5
          clear hz2 ok2
          go_upto_region 18 with (go_at_call 10; go_must ((with_reducible refine q5.mono ?_); rintro e W5 ⟨rfl, k5, t5⟩))
          have HB5 := hidL (t5.below HB4.out HB4.out.size (fun i hi => by subst hi; exact Nat.le_refl _))
          clear q5 k5 t5 HB4 HK4
          go_wp2_with fail
          go_ret
          exact ⟨rfl, HB5.out⟩
        · have hbl' : by_ < lease := by omega
          have q5 := ask_clash w.heap.size _ 0 (now + by_) W4 HK4.out (arE_of (.inl rfl) (by omega) (by omega) (by show now ≤ now + by_; omega)) hc2 (by show now + by_ < now + lease; omega)
          clear hz2
          go_upto_region 18 with (go_at_call 10; go_must ((with_reducible refine q5.mono ?_); rintro e W5 ⟨rfl, b5⟩))
          have HB5 := hidL (HB4.out.trans (b5.mono HB4.out.size))
          have q6 := ask_ok w.heap.size _ 1 (now + by_) W5 (HK4.out.below b5) ok2 (arE_of (.inr rfl) (by omega) (by omega) (by show now ≤ now + by_; omega)) (by rintro ⟨h, _⟩; exact h rfl)
          simp only at q6
          clear q5 b5 HB4 HK4 ok2
          go_upto_region 23 with (go_at_call 10; go_must ((with_reducible refine q6.mono ?_); rintro e W6 ⟨rfl, k6, t6⟩))
          have HB6 := hidL (t6.below HB5.out HB5.out.size (fun i hi => by subst hi; exact Nat.le_refl _))
          clear q6 k6 t6 HB5
          go_wp2_with fail
          go_ret
          exact ⟨rfl, HB6.out⟩
      · have q5 := free_any w.heap.size _ 0 now W4 HK4.out
        rw [hz2, show elV 0 = .nilIface from rfl, show freeA { now := now, lease := lease, own := 1, unt := now + lease } 0 now = { now := now, lease := lease, own := 1, unt := now + lease } by unfold freeA; rw [if_pos hz2]; rfl] at q5
        go_upto_region 13 with (go_at_call 11; go_must ((with_reducible refine q5.mono ?_); rintro e W5 ⟨rfl, k5, t5⟩))
        have HB5 := hidL (t5.below HB4.out HB4.out.size (fun i hi => by subst hi; exact Nat.le_refl _))
        have q6 := ask_clash w.heap.size _ 0 now W5 k5 hz2 hc2 (by show now < now + lease; omega)
        clear q5 t5 HK4 HB4
        go_upto_region 14 with (go_at_call 10; go_must ((with_reducible refine q6.mono ?_); rintro e W6 ⟨rfl, b6⟩))
        have k6 := k5.below b6
        have HB6 := hidL (HB5.out.trans (b6.mono HB5.out.size))
        have hz3 : arE { now := now, lease := lease, own := 1, unt := now + lease } 1 now = 0 := arE_of (.inr rfl) h1 (by omega) (Int.le_refl _)
        have q7 := free_any w.heap.size _ 1 now W6 k6
        rw [hz3, show elV 0 = .nilIface from rfl, show freeA { now := now, lease := lease, own := 1, unt := now + lease } 1 now = { now := now, lease := lease, own := 1, unt := now } by unfold freeA; rw [if_pos hz3]; rfl] at q7
        clear q6 k5 b6 HB5 k6
        go_upto_region 15 with (go_at_call 11; go_must ((with_reducible refine q7.mono ?_); rintro e W7 ⟨rfl, k7, t7⟩))
        have HB7 := hidL (t7.below HB6.out HB6.out.size (fun i hi => by subst hi; exact Nat.le_refl _))
        have ok7 : ArOk { now := now, lease := lease, own := 1, unt := now } := ⟨by simp; omega, by simp; omega, by simp; omega, by simp; omega⟩
        have q8 := ask_ok w.heap.size _ 0 now W7 k7 ok7 (arE_of (.inl rfl) h1 (by omega) (Int.le_refl _)) (by rintro ⟨_, h⟩; exact Int.lt_irrefl _ h)
        simp only at q8
        clear q7 k7 t7 HB6
        go_upto_region 16 with (go_at_call 10; go_must ((with_reducible refine q8.mono ?_); rintro e W8 ⟨rfl, k8, t8⟩))
        have HB8 := hidL (t8.below HB7.out HB7.out.size (fun i hi => by subst hi; exact Nat.le_refl _))
        clear q8 k8 t8 HB7
        go_wp2_with fail
        go_ret
        exact ⟨rfl, HB8.out⟩
    · rcases (by omega : now < 0 ∨ (¬ now < 0 ∧ 100000 < now) ∨ (¬ now < 0 ∧ ¬ 100000 < now ∧ by_ < 0) ∨ (¬ now < 0 ∧ ¬ 100000 < now ∧ ¬ by_ < 0 ∧ 100000 < by_) ∨ (¬ now < 0 ∧ ¬ 100000 < now ∧ ¬ by_ < 0 ∧ ¬ 100000 < by_ ∧ 100000 < lease)) with h1 | ⟨h1, h2⟩ | ⟨h1, h2, h3⟩ | ⟨h1, h2, h3, h4⟩ | ⟨h1, h2, h3, h4, h5⟩
      all_goals
        clear hN hL b1 k1
        go_wp2_with fail
        go_ret
        exact ⟨rfl, HB1.out⟩
  · have n1 := newA_not lease w (by omega)
    rcases (by omega : lease < 1 ∨ (¬ lease < 1 ∧ 1000000 < lease)) with h1 | ⟨h1, h2⟩
    all_goals
      clear hL
      go_enter Tryd.func4, Tryd.ntmps4
      go_wp2_with (go_at_call 5; go_must (refine n1.mono ?_; rintro e W5 ⟨rfl, b5⟩))
      go_ret
      exact ⟨rfl, b5⟩
theorem lease_walk (lease now by_ : Int) (free : Bool) (w : World) {p q r : Prop} (_ : p) (_ : q) (_ : r) (hE : ErrLaid w) :
    Calls Tryd.prog 4 #[.int .i64 lease, .int .i64 now, .int .i64 by_, .bool free] w fun e w' => e = .returned (.bool true) ∧ Below w.heap.size w w' := lease_any lease now by_ free w hE
end Go.Proofs.YtempphlbgeogiaaDoor
