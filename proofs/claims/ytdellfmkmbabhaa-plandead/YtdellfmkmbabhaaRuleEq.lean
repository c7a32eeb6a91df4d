/- slices.Equal of two rows of spans; 'normed' and 'when' of package rule; the reference's tidy. -/
import Derived.Test.YtdellfmkmbabhaaRuleMath
import Derived.Test.YtdellfmkmbabhaaSpnTop
import Derived.Test.YtdellfmkmbabhaaEqSp
import Derived.Deep.DeepMust
namespace Go.Proofs.Ytdellfmkmbabhaa
open Go.RowKit
set_option linter.unusedVariables false

theorem hidE {p : Prop} (h : p) : Hid p := h
theorem sp_ne {p q : Sp} : (!(p.1 == q.1 && p.2 == q.2)) = !decide (p = q) := by
  obtain ⟨a, b⟩ := p
  obtain ⟨c, d⟩ := q
  by_cases h1 : a = c <;> by_cases h2 : b = d <;> simp [h1, h2]
set_option maxHeartbeats 4000000 in
theorem eqSp_any (v1 v2 : Value) (p q : List Sp) (w : World) (h1 : Spns w v1 p) (h2 : Spns w v2 q) :
    Calls Try.prog 56 #[v1, v2] w fun e w' => e = .returned (.bool (decide (p = q))) ∧ Below w.heap.size w w' := by
  obtain ⟨a1, c1, rfl⟩ := h1.len
  obtain ⟨a2, c2, rfl⟩ := h2.len
  by_cases hl : p.length = q.length
  · obtain ⟨N, hN⟩ : ∃ N, p.length = N := ⟨_, rfl⟩
    have hq : q.length = N := by omega
    obtain ⟨R, hR⟩ : ∃ R, decide (p = q) = R := ⟨_, rfl⟩
    have HT : Hid ((∀ i (hi : i < p.length) (hj : i < q.length), p[i] = q[i]) → R = true) := fun h => by rw [← hR, decide_eq_true_eq]; exact List.ext_getElem hl h
    have HFa : Hid (∀ i (hi : i < p.length) (hj : i < q.length), ¬ p[i] = q[i] → R = false) := fun i hi hj h => by
      rw [← hR, decide_eq_false_iff_not]; intro e; subst e; exact h rfl
    rw [hR]
    rw [hN] at h1 ⊢
    rw [hq] at h2 ⊢
    have HN : Hid (p.length = N ∧ q.length = N) := ⟨hN, hq⟩
    have H1 : Hid (Spns w (.slice a1 N c1) p) := h1
    have H2 : Hid (Spns w (.slice a2 N c2) q) := h2
    have hg := Try.spGuard
    have hne := Try.spNeq
    have hnn : ((N : Int) != (N : Int)) = false := by simp
    clear h1 h2 hN hq hl hR
    go_enter Try.func56, Try.ntmps56
    go_upto_region 4 with fail
    go_loopw [5, 13] (fun _ i wr => ∃ k : Nat, k ≤ N ∧ i = .int .i64 (k : Int) ∧ Below w.heap.size w wr ∧ Hid (∀ j (hi : j < p.length) (hj : j < q.length), j < k → p[j] = q[j])) (fun _ i _ => ((N : Int) - intOf i).toNat)
    case atStart => exact ⟨0, by omega, rfl, Below.refl _ _, fun j _ _ hj => by omega⟩
    case round =>
      obtain ⟨k, hk, rfl, hb, HK⟩ := hrel
      by_cases hkn : k < N
      · have i1 : (k : Int) < (N : Int) := by omega
        have i2 : (0 : Int) ≤ (k : Int) := by omega
        have hkp : k < p.length := by have := HN.out.1; omega
        have hkq : k < q.length := by have := HN.out.2; omega
        obtain ⟨b1, o1, e1, hb1, hl1, hx1, hc1⟩ := H1.out.shape (by omega)
        obtain ⟨b2, o2, e2, hb2, hl2, hx2, hc2⟩ := H2.out.shape (by omega)
        subst e1 e2
        obtain ⟨x0, x1⟩ := (hc1 k hkp).keep (hb.block b1 hb1)
        obtain ⟨y0, y1⟩ := (hc2 k hkq).keep (hb.block b2 hb2)
        have HST := hidE (fun (h : p[k] = q[k]) (j : Nat) (hi : j < p.length) (hj : j < q.length) (hjk : j < k + 1) => (show p[j] = q[j] from by
          by_cases e : j = k
          · subst e; exact h
          · exact HK.out j hi hj (by omega)))
        have HNE := hidE (fun h => HFa.out k hkp hkq h)
        have hsn := @sp_ne p[k] q[k]
        generalize p[k] = s at x0 x1 HST HNE hsn
        generalize q[k] = t at y0 y1 HST HNE hsn
        have hx1' : c1 ≤ 9223372036854775807 := by unfold maxLen at hx1; omega
        have hx2' : c2 ≤ 9223372036854775807 := by unfold maxLen at hx2; omega
        have HB : Hid (Below w.heap.size w wr) := hb
        have hne' := fun W => hne s.1 s.2 t.1 t.2 W
        by_cases hst : s = t
        · rw [decide_eq_true hst] at hsn
          have HS2 := hidE (HST.out hst)
          simp only [hsn, Bool.not_true] at hne'
          clear hc1 hc2 hx1 hx2 hb hkp hkq HK HST HNE hsn hst hne
          go_upto_region 6 with fail
          go_region
          all_goals
            go_wp2_with fail
            go_roundw
            case rel => exact ⟨k + 1, by omega, by go_num, HB.out.drew, HS2.out⟩
            case measure => simp [intOf]; omega
        · rw [decide_eq_false hst] at hsn
          have hRf := HNE.out hst
          simp only [hsn, Bool.not_false] at hne'
          subst hRf
          clear hc1 hc2 hx1 hx2 hb hkp hkq HK HST HNE hsn hst hne HT HFa
          go_upto_region 6 with fail
          go_region
          all_goals
            go_wp2_with fail
            go_ret
            exact ⟨rfl, HB.out.drew⟩
      · have i1 : ¬ (k : Int) < (N : Int) := by omega
        have hRt := HT.out (fun i hi hj => HK.out i hi hj (by have := HN.out.1; omega))
        subst hRt
        go_wp2_with fail
        go_ret
        exact ⟨rfl, hb⟩
  · have hne : ((p.length : Int) != (q.length : Int)) = true := by rw [bne_iff_ne]; omega
    have hd : decide (p = q) = false := by rw [decide_eq_false_iff_not]; intro e; exact hl (by rw [e])
    rw [hd]
    generalize p.length = P at hne ⊢
    generalize q.length = Q at hne ⊢
    clear hl hd h1 h2
    go_enter Try.func56, Try.ntmps56
    go_wp2_with fail
    go_ret
    exact ⟨rfl, Below.refl _ _⟩
theorem when_any (b : Bool) (n : Int) (w : World) : Calls Try.prog 32 #[.bool b, .int .i64 n] w fun e w' => e = .returned (if b then .iface 62 (.int .i64 n) else .nilIface) ∧ w' = w := by
  cases b
  · go_enter Try.func32, Try.ntmps32
    go_wp2_with fail
    go_ret
    exact ⟨rfl, rfl⟩
  · go_enter Try.func32, Try.ntmps32
    go_wp2_with fail
    go_ret
    exact ⟨rfl, rfl⟩
/-- 'normed' of spans that Check does not refuse. -/
theorem normed_any (v : Value) (l : List Sp) (w : World) (hv : Spns w v l) (h0 : spE l = 0) :
    Calls Try.prog 36 #[v] w fun e w' => e = .returned (.bool (tidyB l)) ∧ Below w.heap.size w w' := by
  obtain ⟨hl, hk⟩ := of_spE h0
  have hn := norm_any v l w hv (by omega)
  rw [h0, resL_0, show erV 0 = .nilIface from rfl] at hn
  have hd : decide (setP (inB l) = l) = tidyB l := by
    rcases ht : tidyB l with _ | _
    · rw [decide_eq_false_iff_not]
      intro e
      have h1 : Nrm l := by rw [← e]; exact (setP_is _).1
      rw [(tidy_nrm hk).2 h1] at ht; cases ht
    · rw [decide_eq_true_eq]; exact setP_self ((tidy_nrm hk).1 ht)
  have HEQ := hidE (fun (u : Value) (W : World) (hu : Spns W u (setP (inB l))) (hb : Below w.heap.size w W) => eqSp_any u v (setP (inB l)) l W hu (hv.below hb))
  rw [hd] at HEQ
  generalize setP (inB l) = R at hn HEQ
  generalize tidyB l = T at HEQ ⊢
  clear hd hl hk h0
  go_enter Try.func36, Try.ntmps36
  go_upto_region 2 with (go_at_call 55; go_must (refine hn.mono ?_; rintro e w1 ⟨v1, rfl, own1, b1⟩))
  have he := HEQ.out v1 w1 own1.spns b1
  have HB1 := hidE b1
  clear hn own1 b1
  go_wp2_with (go_at_call 56; go_must (refine he.mono ?_; rintro e w2 ⟨rfl, b2⟩))
  go_ret
  exact ⟨rfl, HB1.out.trans (b2.mono HB1.out.size)⟩
end Go.Proofs.Ytdellfmkmbabhaa
