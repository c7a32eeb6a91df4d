/- What tidy and Rule of the reference return (package portref1): 'tidyB', 'ruE'. -/
import Derived.Test.YtfhchbpgpaljhaaDoorRuleChk2
import Derived.Test.YtfhchbpgpaljhaaDoorRefNum
import Derived.Test.YtfhchbpgpaljhaaDoorRefSpn
namespace Go.Proofs.YtfhchbpgpaljhaaDoor
open Go.RowKit
set_option linter.unusedVariables false

set_option maxHeartbeats 4000000 in
theorem refTidy_any (v : Value) (l : List Sp) (w : World) (hv : Spns w v l) (hk : OkS l) :
    Calls Tryd.prog 26 #[v] w fun e w' => e = .returned (.bool (tidyB l)) ∧ Below w.heap.size w w' := by
  obtain ⟨ao, co, rfl⟩ := hv.len
  obtain ⟨T, hT⟩ : ∃ T, tidyB l = T := ⟨_, rfl⟩
  have HT : Hid ((∀ i (h : i + 1 < l.length), l[i].2 + 1 < l[i + 1].1) → T = true) := fun h => by rw [← hT]; exact tidyB_at.2 h
  have HNo : Hid (∀ i (h : i + 1 < l.length), ¬ l[i].2 + 1 < l[i + 1].1 → T = false) := fun i h hn => by
    cases T
    · rfl
    · exact absurd (tidyB_at.1 hT i h) hn
  obtain ⟨N, hN⟩ : ∃ N, l.length = N := ⟨_, rfl⟩
  rw [hN] at hv ⊢
  have HN := hidE hN
  have HV := hidE hv
  have HK := hidE hk
  obtain ⟨Q, hQ⟩ : ∃ Q : Ending → World → Prop, Q = fun e w' => e = .returned (.bool T) ∧ Below w.heap.size w w' := ⟨_, rfl⟩
  have HQ : Hid (∀ e w', (e = .returned (.bool T) ∧ Below w.heap.size w w') → Q e w') := by rw [hQ]; exact fun _ _ h => h
  rw [hT, ← hQ]
  clear hv hN hk hT hQ
  go_enter Tryd.func26, Tryd.ntmps26
  go_upto_region 2 with fail
  go_loopw [3] (fun i wr => ∃ k : Nat, i = .int .i64 ((k : Int) + 1) ∧ (k ≤ N) ∧ Below w.heap.size w wr ∧ Hid (∀ j (h : j + 1 < l.length), j < k → l[j].2 + 1 < l[j + 1].1)) (fun i _ => ((N : Int) - intOf i).toNat)
  case atStart => exact ⟨0, rfl, by omega, Below.refl _ _, fun j _ hj => by omega⟩
  case round =>
    obtain ⟨k, rfl, hkN, hb, HS⟩ := hrel
    have hb' := hidE hb
    by_cases hkn : k + 1 < N
    · have i1 : (k : Int) + 1 < (N : Int) := by omega
      have i2 : (0 : Int) ≤ (k : Int) + 1 := by omega
      have hkp : k + 1 < l.length := by have := HN.out; omega
      obtain ⟨b, o, e1, hb1, hl1, hx1, hc1⟩ := HV.out.shape (by omega)
      subst e1
      have hx1' : co ≤ 9223372036854775807 := by unfold maxLen at hx1; omega
      obtain ⟨x0, x1⟩ := (hc1 k (by omega)).keep (hb.block b hb1)
      obtain ⟨y0, y1⟩ := (hc1 (k + 1) hkp).keep (hb.block b hb1)
      have o1 := HK.out l[k] (List.getElem_mem _)
      have o2 := HK.out l[k + 1] (List.getElem_mem _)
      have HYES := hidE (fun (h : l[k].2 + 1 < l[k + 1].1) (j : Nat) (hj : j + 1 < l.length) (hjk : j < k + 1) => (show l[j].2 + 1 < l[j + 1].1 from by
        by_cases e : j = k
        · subst e; exact h
        · exact HS.out j hj (by omega)))
      have HNOT := hidE (fun h => HNo.out k hkp h)
      generalize l[k] = s at x0 x1 o1 HYES HNOT
      generalize l[k + 1] = t at y0 y1 o2 HYES HNOT
      obtain ⟨s1, s2⟩ := s
      obtain ⟨t1, t2⟩ := t
      simp only at x0 x1 y0 y1 o1 o2 HYES HNOT
      have m0 : (k : Int) + 1 - 1 = (k : Int) := by omega
      have i3 : (0 : Int) ≤ (k : Int) := by omega
      have i4 : (k : Int) < (N : Int) := by omega
      have y0' : wr.cell? ⟨b, o + (k * 2 + 2), none⟩ = some (.int .i64 t1) := by have := y0; rw [show o + (k + 1) * 2 = o + (k * 2 + 2) by omega] at this; exact this
      have tn : ((k : Int) + 1).toNat = k + 1 := by omega
      clear hc1 hx1 hb HS
      by_cases hlt : s2 + 1 < t1
      · have hge : ¬ s2 + 1 ≥ t1 := by omega
        have HY := hidE (HYES.out hlt)
        clear HYES HNOT HT HNo HQ
        go_upto_region 4 with fail
        go_region
        all_goals
          go_wp2_with fail
          go_roundw
          case rel => exact ⟨k + 1, by go_num, by omega, hb'.out.drew, HY.out⟩
          case measure => simp [intOf]; omega
      · have hge : s2 + 1 ≥ t1 := by omega
        have hTf := HNOT.out (by omega)
        subst hTf
        clear HYES HNOT HT HNo
        go_upto_region 4 with fail
        go_region
        all_goals
          go_wp2_with fail
          exact HQ.out _ _ ⟨rfl, hb'.out.drew⟩
    · have i1 : ¬ (k : Int) + 1 < (N : Int) := by omega
      have hTt := HT.out (fun i hi => HS.out i hi (by have := HN.out; omega))
      subst hTt
      clear HT HNo HS
      go_wp2_with fail
      exact HQ.out _ _ ⟨rfl, hb'.out⟩
end Go.Proofs.YtfhchbpgpaljhaaDoor
