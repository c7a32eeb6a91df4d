/- What paired and spread return (package rule): 'pairB', 'sprO'. -/
import Derived.Test.YtjhofmmmlemfcaaDoorExP4
namespace Go.Proofs.YtjhofmmmlemfcaaDoor
open Go.RowKit
set_option linter.unusedVariables false
set_option maxRecDepth 10000

theorem mkB_get (l : List UInt8) (k : Nat) (hk : k < (mkB l).size) : (mkB l)[k] = l.getD k 0 := by
  have hkl : k < l.length := by rw [mkB_size] at hk; exact hk
  have : (mkB l)[k] = (mkB l).data.toList[k]'(by simpa using hk) := rfl
  refine this.trans ?_
  simp [mkB, List.getD, hkl]
theorem pairB_next {o : Bool} {l : List UInt8} {k : Nat} (hk : k < l.length) (h1 : l[k] ≠ 123) (h2 : l[k] ≠ 125) : pairB o (l.drop k) = pairB o (l.drop (k + 1)) := by
  rw [List.drop_eq_getElem_cons hk, pairB, if_neg h1, if_neg h2]
theorem pairB_opn {o : Bool} {l : List UInt8} {k : Nat} (hk : k < l.length) (h1 : l[k] = 123) : pairB o (l.drop k) = (!o && pairB true (l.drop (k + 1))) := by
  rw [List.drop_eq_getElem_cons hk, pairB, if_pos h1]
theorem pairB_cls {o : Bool} {l : List UInt8} {k : Nat} (hk : k < l.length) (h2 : l[k] = 125) : pairB o (l.drop k) = (o && pairB false (l.drop (k + 1))) := by
  rw [List.drop_eq_getElem_cons hk, pairB, if_neg (by rw [h2]; decide), if_pos h2]
set_option maxHeartbeats 4000000 in
theorem paired_any (l : List UInt8) (w : World) (hs : l.length ≤ 1048576) :
    Calls Tryd.prog 38 #[.string (mkB l)] w fun e w' => e = .returned (.bool (pairB false l)) ∧ w' = w := by
  have hsz := mkB_size l
  have HG : Hid (∀ k (hk : k < (mkB l).size), (mkB l)[k] = l.getD k 0) := mkB_get l
  obtain ⟨s, hse⟩ : ∃ s, mkB l = s := ⟨_, rfl⟩
  rw [hse] at hsz HG ⊢
  have HSZ := hidR hsz
  have hs' : s.size ≤ 1048576 := by omega
  clear hse hsz
  obtain ⟨Q, hQ⟩ : ∃ Q : Ending → World → Prop, Q = fun e w' => e = .returned (.bool (pairB false l)) ∧ w' = w := ⟨_, rfl⟩
  have HQ : Hid (∀ b, b = pairB false l → Q (.returned (.bool b)) w) := by rw [hQ]; exact fun b h => ⟨by rw [h], rfl⟩
  rw [← hQ]
  clear hQ
  go_enter Tryd.func38, Tryd.ntmps38
  go_wp2
  go_loop [3, 4, 7] (fun o j i => ∃ (k : Nat) (b : Bool), k ≤ s.size ∧ i = .int .i64 (k : Int) ∧ o = .bool b ∧ Hid (pairB b (l.drop k) = pairB false l)) (fun _ _ i => s.size - (intOf i).toNat)
  case atStart => exact ⟨0, false, by omega, rfl, rfl, rfl⟩
  case round =>
    obtain ⟨k, b, hk, rfl, rfl, HP⟩ := hrel
    by_cases hlt : k < s.size
    · have hlt' : (k : Int) < (s.size : Int) := by omega
      have hkl : k < l.length := by rw [← HSZ.out]; exact hlt
      have hg := HG.out k hlt
      rw [show l.getD k 0 = l[k] by simp [List.getD, hkl]] at hg
      by_cases h1 : l[k] = 123
      · have e0 : s[k] = 123 := by rw [hg]; exact h1
        have e1 : ((s[k].toNat : Int) != 123) = false := by rw [e0]; rfl
        have e2 : ((s[k].toNat : Int) == 123) = true := by rw [e0]; rfl
        have hn := pairB_opn (o := b) hkl h1
        have hp := HP.out
        rw [hn] at hp
        clear hn hg h1 e0 HP
        rcases b with _ | _
        · have HP2 : Hid (pairB true (l.drop (k + 1)) = pairB false l) := by rw [← hp]; rfl
          clear hp
          go_wp2
          go_round
          case rel => exact ⟨k + 1, true, by omega, by go_num, rfl, HP2⟩
          case measure => simp [intOf]; omega
        · have HP2 : Hid (false = pairB false l) := by rw [← hp]; rfl
          clear hp
          go_wp2
          exact HQ.out _ HP2.out
      · by_cases h2 : l[k] = 125
        · have e0 : s[k] = 125 := by rw [hg]; exact h2
          have e1 : ((s[k].toNat : Int) != 123) = true := by rw [e0]; rfl
          have e3 : ((s[k].toNat : Int) != 125) = false := by rw [e0]; rfl
          have e2 : ((s[k].toNat : Int) == 123) = false := by rw [e0]; rfl
          have hn := pairB_cls (o := b) hkl h2
          have hp := HP.out
          rw [hn] at hp
          clear hn hg h1 h2 e0 HP
          rcases b with _ | _
          · have HP2 : Hid (false = pairB false l) := by rw [← hp]; rfl
            clear hp
            go_wp2
            exact HQ.out _ HP2.out
          · have HP2 : Hid (pairB false (l.drop (k + 1)) = pairB false l) := by rw [← hp]; rfl
            clear hp
            go_wp2
            go_round
            case rel => exact ⟨k + 1, false, by omega, by go_num, rfl, HP2⟩
            case measure => simp [intOf]; omega
        · have ne : ∀ {b c : UInt8}, b ≠ c → ((b.toNat : Int) != (c.toNat : Int)) = true := fun {b c} hb => by
            rw [bne_iff_ne]
            intro e
            exact hb (UInt8.toNat_inj.1 (by omega))
          have e1 : ((s[k].toNat : Int) != 123) = true := by rw [hg]; exact ne (c := 123) h1
          have e3 : ((s[k].toNat : Int) != 125) = true := by rw [hg]; exact ne (c := 125) h2
          have HP2 : Hid (pairB b (l.drop (k + 1)) = pairB false l) := by rw [← pairB_next hkl h1 h2]; exact HP.out
          clear hg h1 h2 ne HP
          go_wp2
          go_round
          case rel => exact ⟨k + 1, b, by omega, by go_num, rfl, HP2⟩
          case measure => simp [intOf]; omega
    · have hlt' : ¬ (k : Int) < (s.size : Int) := by omega
      have hd : l.drop k = [] := List.drop_of_length_le (by rw [← HSZ.out]; omega)
      have hp := HP.out
      rw [hd] at hp
      have HP2 : Hid ((!b) = pairB false l) := hp
      clear hp hd HP
      go_wp2
      exact HQ.out _ HP2.out
theorem sp1_any (x : List UInt8) (w : World) (hx : x.length ≤ 1048576) :
    Calls Tryd.prog 37 #[.string (mkB x)] w fun e w' => e = .returned (.bool (!pairB false x)) ∧ w' = w := by
  have hp := paired_any x w hx
  generalize pairB false x = b at hp
  go_enter Tryd.func37, Tryd.ntmps37
  go_wp2_with (go_at_call 38; go_must (refine hp.mono ?_; rintro e w1 ⟨rfl, hw1⟩; rw [hw1]; clear hw1))
  go_ret
  exact ⟨rfl, rfl⟩
set_option maxHeartbeats 4000000 in
theorem idxF_any (g : Nat) (ls : List (List UInt8)) (w : World) (hc : ∀ j (hj : j < ls.length), w.cell? ⟨g, j, none⟩ = some (.string (mkB ls[j]))) (hl : ∀ x ∈ ls, x.length ≤ 1048576) (hN : ls.length ≤ 1048577) :
    Calls Tryd.prog 53 #[.slice (some ⟨g, 0, none⟩) ls.length ls.length, .func (.func 37) #[] #[]] w fun e w' => (∃ r : Int, e = .returned (.int .i64 r) ∧ decide (0 ≤ r) = !(ls.all (pairB false))) ∧ w' = w := by
  obtain ⟨N, hNe⟩ : ∃ N, ls.length = N := ⟨_, rfl⟩
  rw [hNe] at hN ⊢
  have HC := hidR hc
  have HL := hidR hl
  have HE := hidR hNe
  clear hc hl hNe
  obtain ⟨Q, hQ⟩ : ∃ Q : Ending → World → Prop, Q = fun e w' => (∃ r : Int, e = .returned (.int .i64 r) ∧ decide (0 ≤ r) = !(ls.all (pairB false))) ∧ w' = w := ⟨_, rfl⟩
  have HQ : Hid (∀ r, decide (0 ≤ r) = !(ls.all (pairB false)) → Q (.returned (.int .i64 r)) w) := by rw [hQ]; exact fun r h => ⟨⟨r, rfl, h⟩, rfl⟩
  rw [← hQ]
  clear hQ
  go_enter Tryd.func53, Tryd.ntmps53
  go_wp2
  go_loopw [5, 8] (fun j i wr => ∃ k : Nat, k ≤ N ∧ i = .int .i64 (k : Int) ∧ wr = w ∧ Hid ((ls.take k).all (pairB false) = true)) (fun _ i _ => ((N : Int) - intOf i).toNat)
  case atStart => exact ⟨0, by omega, rfl, rfl, rfl⟩
  case round =>
    obtain ⟨k, hk, rfl, hwr, HA⟩ := hrel
    subst hwr
    by_cases hlt : k < N
    · have hlt' : (k : Int) < (N : Int) := by omega
      have hk0 : (0 : Int) ≤ (k : Int) := by omega
      have hkl : k < ls.length := by rw [HE.out]; exact hlt
      have c0 := HC.out k hkl
      have hp := sp1_any ls[k] wr (HL.out _ (List.getElem_mem hkl))
      have hta : (ls.take (k + 1)).all (pairB false) = pairB false ls[k] := by
        rw [List.take_succ_eq_append_getElem hkl, List.all_append, HA.out]; simp
      have hsub : pairB false ls[k] = false → ls.all (pairB false) = false := fun e => by
        rw [List.all_eq_false]
        exact ⟨_, List.getElem_mem hkl, by rw [e]; simp⟩
      generalize ls[k] = x at c0 hp hta hsub
      rcases hb : pairB false x with _ | _
      · rw [hb] at hp
        have HR := hidR (HQ.out (k : Int) (by rw [hsub hb, decide_eq_true hk0]; rfl))
        clear HC HL HE hta hsub hb HA
        go_wp2_with (go_at_call 37; go_must (refine hp.mono ?_; rintro e w1 ⟨rfl, hw1⟩; rw [hw1]; clear hw1))
        exact HR.out
      · rw [hb] at hp hta
        have HA2 := hidR hta
        clear HC HL HE hta hsub hb HA
        go_wp2_with (go_at_call 37; go_must (refine hp.mono ?_; rintro e w1 ⟨rfl, hw1⟩; rw [hw1]; clear hw1))
        go_roundw
        case rel => exact ⟨k + 1, by omega, by go_num, by first | rfl | trivial, HA2⟩
        case measure => simp [intOf]; omega
    · have hlt' : ¬ (k : Int) < (N : Int) := by omega
      have ha := HA.out
      rw [List.take_of_length_le (by rw [HE.out]; omega)] at ha
      have HR := hidR (HQ.out (-1) (by rw [ha]; rfl))
      clear ha HA
      go_wp2
      exact HR.out
theorem conF_any (g : Nat) (ls : List (List UInt8)) (w : World) (hc : ∀ j (hj : j < ls.length), w.cell? ⟨g, j, none⟩ = some (.string (mkB ls[j]))) (hl : ∀ x ∈ ls, x.length ≤ 1048576) (hN : ls.length ≤ 1048577) :
    Calls Tryd.prog 36 #[.slice (some ⟨g, 0, none⟩) ls.length ls.length, .func (.func 37) #[] #[]] w fun e w' => e = .returned (.bool (!(ls.all (pairB false)))) ∧ w' = w := by
  have hi := idxF_any g ls w hc hl hN
  generalize ls.length = N at hi ⊢
  generalize ls.all (pairB false) = b at hi ⊢
  clear hc hl hN
  obtain ⟨Q, hQ⟩ : ∃ Q : Ending → World → Prop, Q = fun e w' => e = .returned (.bool (!b)) ∧ w' = w := ⟨_, rfl⟩
  have HQ : Hid (∀ r : Int, decide (0 ≤ r) = !b → Q (.returned (.bool (decide (r ≥ 0)))) w) := by rw [hQ]; exact fun r h => ⟨by rw [← h], rfl⟩
  rw [← hQ]
  clear hQ
  go_enter Tryd.func36, Tryd.ntmps36
  go_wp2_with (go_at_call 53; go_must (refine hi.mono ?_; rintro e w1 ⟨⟨r, rfl, hr⟩, hw1⟩; rw [hw1]; have HR := hidR hr; clear hw1 hr))
  exact HQ.out _ HR.out
end Go.Proofs.YtjhofmmmlemfcaaDoor
