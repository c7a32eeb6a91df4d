/- What 'sides', 'check' and Check answer (package rule): 'ruE', 'rusE'. -/
import Derived.Test.YtdellfmkmbabhaaRuleSid
import Derived.Deep.DeepCutAuto
namespace Go.Proofs.Ytdellfmkmbabhaa
open Go.RowKit
set_option linter.unusedVariables false

theorem belowD (w : World) {w' : World} (h : Below w.drew.heap.size w.drew w') : Below w.heap.size w w' := ⟨h.os, h.tape, h.output, h.size, h.block⟩
theorem erV_ne {n : Int} (h : ¬ n = 0) : erV n = .iface 62 (.int .i64 n) := by unfold erV; rw [if_neg h]
theorem sides1 (b : Nat) (e1 e2 : Int) (w : World)
    (hA : ∀ s W, Below w.heap.size w W → Calls Try.prog 29 #[sideV s b 5 9] W fun e w' => e = .returned (erV e1) ∧ Below W.heap.size W w')
    (hB : e1 = 0 → ∀ s W, Below w.heap.size w W → Calls Try.prog 29 #[sideV s b 7 10] W fun e w' => e = .returned (erV e2) ∧ Below W.heap.size W w') :
    Calls Try.prog 37 #[.pointer (some ⟨b, 0, none⟩), .func (.func 29) #[] #[]] w fun e w' => e = .returned (erV (twoE e1 e2)) ∧ Below w.heap.size w w' := by
  have hA1 := fun s => hA s w.drew ((Below.refl _ _).drew)
  unfold sideV at hA1 hB
  by_cases h1 : e1 = 0
  · have hB1 := hidE (hB h1)
    have e3 : twoE e1 e2 = e2 := by unfold twoE; rw [if_pos h1]
    rw [e3]
    rw [h1, show erV 0 = .nilIface from rfl] at hA1
    generalize erV e2 = er at hB1 ⊢
    clear hA hB h1 e3
    go_enter Try.func37, Try.ntmps37
    go_upto_region 1 with fail
    go_region_with (go_at_call 29; go_must (refine (hA1 _).mono ?_; rintro e w1 ⟨rfl, b1⟩))
    have b1' := belowD w b1
    have hB2 := fun s => hB1.out s w1.drew (b1'.drew)
    have HB := hidE b1'
    clear hA1 hB1 b1 b1'
    go_upto_region 4 with fail
    go_region_with (go_at_call 29; go_must (refine (hB2 _).mono ?_; rintro e w2 ⟨rfl, b2⟩))
    have HB2 := hidE (belowD w1 b2)
    clear hB2 b2
    go_wp2_with fail
    go_ret
    exact ⟨rfl, HB.out.trans (HB2.out.mono HB.out.size)⟩
  · have e3 : twoE e1 e2 = e1 := by unfold twoE; rw [if_neg h1]
    rw [e3]
    rw [erV_ne h1] at hA1 ⊢
    clear hA hB h1 e3
    go_enter Try.func37, Try.ntmps37
    go_upto_region 1 with fail
    go_region_with (go_at_call 29; go_must (refine (hA1 _).mono ?_; rintro e w1 ⟨rfl, b1⟩))
    have HB := hidE (belowD w b1)
    clear hA1 b1
    go_wp2_with fail
    go_ret
    exact ⟨rfl, HB.out⟩
theorem sides2 (b : Nat) (e1 e2 : Int) (w : World)
    (hA : ∀ s W, Below w.heap.size w W → Calls Try.prog 31 #[sideV s b 5 9] W fun e w' => e = .returned (erV e1) ∧ Below W.heap.size W w')
    (hB : e1 = 0 → ∀ s W, Below w.heap.size w W → Calls Try.prog 31 #[sideV s b 7 10] W fun e w' => e = .returned (erV e2) ∧ Below W.heap.size W w') :
    Calls Try.prog 37 #[.pointer (some ⟨b, 0, none⟩), .func (.func 31) #[] #[]] w fun e w' => e = .returned (erV (twoE e1 e2)) ∧ Below w.heap.size w w' := by
  have hA1 := fun s => hA s w.drew ((Below.refl _ _).drew)
  unfold sideV at hA1 hB
  by_cases h1 : e1 = 0
  · have hB1 := hidE (hB h1)
    have e3 : twoE e1 e2 = e2 := by unfold twoE; rw [if_pos h1]
    rw [e3]
    rw [h1, show erV 0 = .nilIface from rfl] at hA1
    generalize erV e2 = er at hB1 ⊢
    clear hA hB h1 e3
    go_enter Try.func37, Try.ntmps37
    go_upto_region 1 with fail
    go_region_with (go_at_call 31; go_must (refine (hA1 _).mono ?_; rintro e w1 ⟨rfl, b1⟩))
    have b1' := belowD w b1
    have hB2 := fun s => hB1.out s w1.drew (b1'.drew)
    have HB := hidE b1'
    clear hA1 hB1 b1 b1'
    go_upto_region 4 with fail
    go_region_with (go_at_call 31; go_must (refine (hB2 _).mono ?_; rintro e w2 ⟨rfl, b2⟩))
    have HB2 := hidE (belowD w1 b2)
    clear hB2 b2
    go_wp2_with fail
    go_ret
    exact ⟨rfl, HB.out.trans (HB2.out.mono HB.out.size)⟩
  · have e3 : twoE e1 e2 = e1 := by unfold twoE; rw [if_neg h1]
    rw [e3]
    rw [erV_ne h1] at hA1 ⊢
    clear hA hB h1 e3
    go_enter Try.func37, Try.ntmps37
    go_upto_region 1 with fail
    go_region_with (go_at_call 31; go_must (refine (hA1 _).mono ?_; rintro e w1 ⟨rfl, b1⟩))
    have HB := hidE (belowD w b1)
    clear hA1 b1
    go_wp2_with fail
    go_ret
    exact ⟨rfl, HB.out⟩
theorem sides3 (b : Nat) (e1 e2 : Int) (w : World)
    (hA : ∀ s W, Below w.heap.size w W → Calls Try.prog 33 #[sideV s b 5 9] W fun e w' => e = .returned (erV e1) ∧ Below W.heap.size W w')
    (hB : e1 = 0 → ∀ s W, Below w.heap.size w W → Calls Try.prog 33 #[sideV s b 7 10] W fun e w' => e = .returned (erV e2) ∧ Below W.heap.size W w') :
    Calls Try.prog 37 #[.pointer (some ⟨b, 0, none⟩), .func (.func 33) #[] #[]] w fun e w' => e = .returned (erV (twoE e1 e2)) ∧ Below w.heap.size w w' := by
  have hA1 := fun s => hA s w.drew ((Below.refl _ _).drew)
  unfold sideV at hA1 hB
  by_cases h1 : e1 = 0
  · have hB1 := hidE (hB h1)
    have e3 : twoE e1 e2 = e2 := by unfold twoE; rw [if_pos h1]
    rw [e3]
    rw [h1, show erV 0 = .nilIface from rfl] at hA1
    generalize erV e2 = er at hB1 ⊢
    clear hA hB h1 e3
    go_enter Try.func37, Try.ntmps37
    go_upto_region 1 with fail
    go_region_with (go_at_call 33; go_must (refine (hA1 _).mono ?_; rintro e w1 ⟨rfl, b1⟩))
    have b1' := belowD w b1
    have hB2 := fun s => hB1.out s w1.drew (b1'.drew)
    have HB := hidE b1'
    clear hA1 hB1 b1 b1'
    go_upto_region 4 with fail
    go_region_with (go_at_call 33; go_must (refine (hB2 _).mono ?_; rintro e w2 ⟨rfl, b2⟩))
    have HB2 := hidE (belowD w1 b2)
    clear hB2 b2
    go_wp2_with fail
    go_ret
    exact ⟨rfl, HB.out.trans (HB2.out.mono HB.out.size)⟩
  · have e3 : twoE e1 e2 = e1 := by unfold twoE; rw [if_neg h1]
    rw [e3]
    rw [erV_ne h1] at hA1 ⊢
    clear hA hB h1 e3
    go_enter Try.func37, Try.ntmps37
    go_upto_region 1 with fail
    go_region_with (go_at_call 33; go_must (refine (hA1 _).mono ?_; rintro e w1 ⟨rfl, b1⟩))
    have HB := hidE (belowD w b1)
    clear hA1 b1
    go_wp2_with fail
    go_ret
    exact ⟨rfl, HB.out⟩
theorem sides4 (b : Nat) (hp : Nat) (e1 e2 : Int) (w : World)
    (hA : ∀ s W, Below w.heap.size w W → Calls Try.prog 35 #[sideV s b 5 9, .pointer (some ⟨hp, 0, none⟩)] W fun e w' => e = .returned (erV e1) ∧ Below W.heap.size W w')
    (hB : e1 = 0 → ∀ s W, Below w.heap.size w W → Calls Try.prog 35 #[sideV s b 7 10, .pointer (some ⟨hp, 0, none⟩)] W fun e w' => e = .returned (erV e2) ∧ Below W.heap.size W w') :
    Calls Try.prog 37 #[.pointer (some ⟨b, 0, none⟩), .func (.func 35) #[] #[.pointer (some ⟨hp, 0, none⟩)]] w fun e w' => e = .returned (erV (twoE e1 e2)) ∧ Below w.heap.size w w' := by
  have hA1 := fun s => hA s w.drew ((Below.refl _ _).drew)
  unfold sideV at hA1 hB
  by_cases h1 : e1 = 0
  · have hB1 := hidE (hB h1)
    have e3 : twoE e1 e2 = e2 := by unfold twoE; rw [if_pos h1]
    rw [e3]
    rw [h1, show erV 0 = .nilIface from rfl] at hA1
    generalize erV e2 = er at hB1 ⊢
    clear hA hB h1 e3
    go_enter Try.func37, Try.ntmps37
    go_upto_region 1 with fail
    go_region_with (go_at_call 35; go_must (refine (hA1 _).mono ?_; rintro e w1 ⟨rfl, b1⟩))
    have b1' := belowD w b1
    have hB2 := fun s => hB1.out s w1.drew (b1'.drew)
    have HB := hidE b1'
    clear hA1 hB1 b1 b1'
    go_upto_region 4 with fail
    go_region_with (go_at_call 35; go_must (refine (hB2 _).mono ?_; rintro e w2 ⟨rfl, b2⟩))
    have HB2 := hidE (belowD w1 b2)
    clear hB2 b2
    go_wp2_with fail
    go_ret
    exact ⟨rfl, HB.out.trans (HB2.out.mono HB.out.size)⟩
  · have e3 : twoE e1 e2 = e1 := by unfold twoE; rw [if_neg h1]
    rw [e3]
    rw [erV_ne h1] at hA1 ⊢
    clear hA hB h1 e3
    go_enter Try.func37, Try.ntmps37
    go_upto_region 1 with fail
    go_region_with (go_at_call 35; go_must (refine (hA1 _).mono ?_; rintro e w1 ⟨rfl, b1⟩))
    have HB := hidE (belowD w b1)
    clear hA1 b1
    go_wp2_with fail
    go_ret
    exact ⟨rfl, HB.out⟩
end Go.Proofs.Ytdellfmkmbabhaa
