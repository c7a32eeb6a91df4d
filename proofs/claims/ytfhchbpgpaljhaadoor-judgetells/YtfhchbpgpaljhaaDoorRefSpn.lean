/- What the reference's Word, Spans, In and Norm return (package portref1). -/
import Derived.Test.YtfhchbpgpaljhaaDoorSpnChk
import Derived.Test.YtfhchbpgpaljhaaDoorSpnHas
import Derived.Test.YtfhchbpgpaljhaaDoorSpanRef
import Derived.Test.YtfhchbpgpaljhaaDoorNum
import Derived.Deep.DeepMust
namespace Go.Proofs.YtfhchbpgpaljhaaDoor
open Go.RowKit
set_option linter.unusedVariables false
set_option maxRecDepth 4000

theorem app_below {W W1 : World} {base : Nat} {v : Value} {l : List Sp} {o : Obj} (hown : OwnSp W base v l) (hg : (W.alloc o).grownBy W1 v.ownBlock) (hB : base ≤ W.heap.size) : Below base W W1 :=
  ((Below.refl base W).alloc hB o).trans (grown_below hg (by simp; omega) (fun k hk => (hown.block k hk).1))
def wordB (x : Int) : Bool := decide (0 ≤ x) && decide (x ≤ 65535)
theorem refWordS_any (x : Int) (w : World) : Calls Tryd.prog 15 #[.int .i64 x] w fun e w' => e = .returned (.bool (wordB x)) ∧ w' = w := by
  by_cases h1 : 0 ≤ x
  · by_cases h2 : x ≤ 65535
    · have e : wordB x = true := by simp [wordB, h1, h2]
      rw [e]; clear e
      go_enter Tryd.func15, Tryd.ntmps15
      go_wp2; go_ret; exact ⟨rfl, rfl⟩
    · have e : wordB x = false := by simp [wordB, h2]
      rw [e]; clear e
      go_enter Tryd.func15, Tryd.ntmps15
      go_wp2; go_ret; exact ⟨rfl, rfl⟩
  · have e : wordB x = false := by simp [wordB, h1]
    rw [e]; clear e
    go_enter Tryd.func15, Tryd.ntmps15
    go_wp2; go_ret; exact ⟨rfl, rfl⟩
theorem okB_word {p q : Int} : okB (p, q) = (wordB p && wordB q && decide (p ≤ q)) := by
  apply bool_ext
  rw [okB_iff]
  simp [wordB]
  omega
set_option maxHeartbeats 8000000 in
theorem refSpans_any (v : Value) (l : List Sp) (w : World) (hv : Spns w v l) (hN : l.length ≤ 140737488355328) :
    Calls Tryd.prog 23 #[v] w fun e w' => e = .returned (.int .i64 (spE l)) ∧ Below w.heap.size w w' := by
  obtain ⟨ao, co, rfl⟩ := hv.len
  obtain ⟨N, hNe⟩ : ∃ N, l.length = N := ⟨_, rfl⟩
  rw [hNe] at hv hN ⊢
  have HN : Hid (l.length = N) := hNe
  have HV : Hid (Spns w (.slice ao N co) l) := hv
  by_cases hf : 200 < N
  · have h4 : spE l = 4 := spE_full (by omega)
    rw [h4]
    have hf' : (200 : Int) < (N : Int) := by omega
    clear hv hNe h4 HV
    go_enter Tryd.func23, Tryd.ntmps23
    go_wp2
    go_ret
    exact ⟨rfl, Below.refl _ _⟩
  have hf' : ¬ (200 : Int) < (N : Int) := by omega
  obtain ⟨er, hE⟩ : ∃ er, spE l = er := ⟨_, rfl⟩
  rw [hE]
  have HE : Hid (spE l = er) := hE
  have hwd := refWordS_any
  clear hv hNe hE
  go_enter Tryd.func23, Tryd.ntmps23
  go_wp2
  go_loopw [3] (fun i wr => ∃ k : Nat, k ≤ N ∧ i = .int .i64 (k : Int) ∧ Below w.heap.size w wr ∧ Hid (∀ j (h : j < l.length), j < k → okB l[j] = true)) (fun i _ => ((N : Int) - intOf i).toNat)
  case atStart => exact ⟨0, by omega, rfl, Below.refl _ _, fun j _ hj => by omega⟩
  case round =>
    obtain ⟨k, hk, rfl, hb, hO⟩ := hrel
    by_cases hlt : k < N
    · have hlt' : (k : Int) < (N : Int) := by omega
      have hk0 : (0 : Int) ≤ (k : Int) := by omega
      have hkl : k < l.length := by rw [HN.out]; exact hlt
      obtain ⟨b, off, rfl, hbl, hcc, hcm, hc⟩ := HV.out.shape (by omega)
      obtain ⟨c0, c1⟩ := (hc k hkl).keep (hb.block b hbl)
      unfold maxLen at hcm
      obtain ⟨s, hs⟩ : ∃ s, l[k] = s := ⟨_, rfl⟩
      rw [hs] at c0 c1
      have HS : Hid (l[k] = s) := hs
      obtain ⟨p, q⟩ := s
      simp only at c0 c1
      have HB : Hid (Below w.heap.size w wr) := hb
      have hok := okB_word (p := p) (q := q)
      have hw1 := hwd p
      have hw2 := hwd q
      generalize wordB p = x at hok hw1
      generalize wordB q = y at hok hw2
      clear hs hc hb hwd
      go_upto_region 7 with (go_at_call 15; go_must (refine (hw1 _).mono ?_; rintro e wr ⟨rfl, rfl⟩))
      go_upto_region 8 with (go_at_call 15; go_must (refine (hw2 _).mono ?_; rintro e wr ⟨rfl, rfl⟩))
      clear hw1 hw2
      have hbad : okB (p, q) = false → er = 1 := fun h => by rw [← HE.out, spE_bad (by rw [HN.out]; omega) hkl (by rw [HS.out]; exact h)]
      cases x with
      | false =>
        have h1 := hbad (by rw [hok]; rfl)
        subst h1
        clear hok hbad
        go_big_quiet (fail)
        go_wp2_with fail
        go_ret
        exact ⟨rfl, below_drewN HB.out _⟩
      | true =>
        cases y with
        | false =>
          have h1 := hbad (by rw [hok]; rfl)
          subst h1
          clear hok hbad
          go_big_quiet (fail)
          go_wp2_with fail
          go_ret
          exact ⟨rfl, below_drewN HB.out _⟩
        | true =>
          by_cases hpq : q < p
          · have h1 := hbad (by rw [hok]; simp; omega)
            subst h1
            have hd : decide (q < p) = true := decide_eq_true hpq
            clear hok hbad
            go_big_quiet (fail)
            go_wp2_with fail
            go_ret
            exact ⟨rfl, below_drewN HB.out _⟩
          · have hd : decide (q < p) = false := decide_eq_false hpq
            have HOK : Hid (okB (p, q) = true) := by rw [Hid, hok]; simp; omega
            clear hok hbad
            go_big_quiet (fail)
            go_wp2_with fail
            go_roundw
            case rel =>
              refine ⟨k + 1, by omega, by go_num, below_drewN HB.out _, fun j h hj => ?_⟩
              by_cases hjk : j < k
              · exact hO.out j h hjk
              · obtain rfl : j = k := by omega
                rw [HS.out]; exact HOK.out
            case measure => simp [intOf]; omega
    · have hlt' : ¬ (k : Int) < (N : Int) := by omega
      have h0 : er = 0 := by
        rw [← HE.out]
        rw [spE_ok (by rw [HN.out]; omega) (fun s hs => ?_)]
        obtain ⟨j, hj, rfl⟩ := List.getElem_of_mem hs
        exact okB_iff.1 (hO.out j hj (by have := HN.out; omega))
      subst h0
      go_wp2
      go_ret
      exact ⟨rfl, hb⟩
set_option maxHeartbeats 8000000 in
theorem refIn_any (v : Value) (l : List Sp) (n : Int) (w : World) (hv : Spns w v l) (hN : l.length ≤ 140737488355328) :
    Calls Tryd.prog 24 #[v, .int .i64 n] w fun e w' => e = .returned (.bool (inB l n)) ∧ Below w.heap.size w w' := by
  obtain ⟨ao, co, rfl⟩ := hv.len
  obtain ⟨N, hNe⟩ : ∃ N, l.length = N := ⟨_, rfl⟩
  rw [hNe] at hv hN ⊢
  have HN : Hid (l.length = N) := hNe
  have HV : Hid (Spns w (.slice ao N co) l) := hv
  obtain ⟨r, hr⟩ : ∃ r, inB l n = r := ⟨_, rfl⟩
  rw [hr]
  have HR : Hid (inB l n = r) := hr
  clear hv hNe hr
  go_enter Tryd.func24, Tryd.ntmps24
  go_wp2
  go_loopw [5] (fun i wr => ∃ k : Nat, k ≤ N ∧ i = .int .i64 (k : Int) ∧ Below w.heap.size w wr ∧ Hid (inB (l.take k) n = false)) (fun i _ => ((N : Int) - intOf i).toNat)
  case atStart => exact ⟨0, by omega, rfl, Below.refl _ _, rfl⟩
  case round =>
    obtain ⟨k, hk, rfl, hb, hO⟩ := hrel
    by_cases hlt : k < N
    · have hlt' : (k : Int) < (N : Int) := by omega
      have hkl : k < l.length := by rw [HN.out]; exact hlt
      obtain ⟨b, off, rfl, hbl, hcc, hcm, hcs⟩ := HV.out.shape (by omega)
      obtain ⟨c0, c1⟩ := (hcs k hkl).keep (hb.block b hbl)
      unfold maxLen at hcm
      have HT : Hid (inB (l.take (k + 1)) n = (inB (l.take k) n || insB l[k] n)) := insB_take hkl
      obtain ⟨s, hs⟩ : ∃ s, l[k] = s := ⟨_, rfl⟩
      have HS : Hid (l[k] ∈ l) := List.getElem_mem _
      rw [hs] at c0 c1 HT HS
      obtain ⟨p, q⟩ := s
      simp only at c0 c1
      clear hs hcs
      by_cases h1 : p ≤ n
      · by_cases h2 : n ≤ q
        · have h0 : r = true := by rw [← HR.out]; exact inB_iff.2 ⟨(p, q), HS.out, h1, h2⟩
          subst h0
          go_wp2
          go_ret
          exact ⟨rfl, hb⟩
        · have h3 : insB (p, q) n = false := insB_not.2 (by simp only; omega)
          have h4 : Hid (inB (l.take (k + 1)) n = false) := by rw [Hid, HT.out, hO.out, h3]; rfl
          clear h3
          go_wp2
          go_roundw
          case rel => exact ⟨k + 1, by omega, by go_num, hb, h4⟩
          case measure => simp [intOf]; omega
      · have h3 : insB (p, q) n = false := insB_not.2 (by simp only; omega)
        have h4 : Hid (inB (l.take (k + 1)) n = false) := by rw [Hid, HT.out, hO.out, h3]; rfl
        clear h3
        go_wp2
        go_roundw
        case rel => exact ⟨k + 1, by omega, by go_num, hb, h4⟩
        case measure => simp [intOf]; omega
    · have hlt' : ¬ (k : Int) < (N : Int) := by omega
      have h0 : r = false := by
        rw [← HR.out]
        have := hO.out
        rw [List.take_of_length_le (by rw [HN.out]; omega)] at this
        exact this
      subst h0
      go_wp2
      go_ret
      exact ⟨rfl, hb⟩
end Go.Proofs.YtfhchbpgpaljhaaDoor
