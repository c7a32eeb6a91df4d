/- What the reference's functions on numbers and prefixes return (package portref1: pow, Addr, Prefix, Ends, Has), for every input that the callers hand them. -/
import Derived.Test.YthnkjfgiclolaaaGreatDoorMgA
import Derived.Test.YthnkjfgiclolaaaGreatDoorMgB
import Derived.Test.YthnkjfgiclolaaaGreatDoorSpanRef
import Derived.Deep.DeepMust
namespace Go.Proofs.YthnkjfgiclolaaaGreatDoor
open Go.RowKit
set_option linter.unusedVariables false

theorem pow_any (n : Int) (w : World) (h0 : 0 ≤ n) (h1 : n ≤ 62) :
    Calls Tryz.prog 78 #[.int .i64 n] w fun e w' => e = .returned (.int .i64 (pw n)) ∧ w' = w := by
  go_enter Tryz.func78, Tryz.ntmps78
  go_wp2
  go_loop [3, 4] (fun x i => ∃ k : Nat, (k : Int) ≤ n ∧ i = .int .i64 k ∧ x = .int .i64 (pw k)) (fun _ i => (n - intOf i).toNat)
  case atStart => exact ⟨0, by omega, rfl, rfl⟩
  case round =>
    obtain ⟨k, hk, rfl, rfl⟩ := hrel
    by_cases hlt : (k : Int) < n
    · have hp := pw_pos k
      have hq : pw k ≤ 2305843009213693952 := by
        have h := pw_mono (a := k + 1) (b := 62) (by omega)
        rw [pw_62] at h
        have e := pw_succ k
        have e2 : ((k + 1 : Nat) : Int) = (k : Int) + 1 := by omega
        rw [e2, e] at h; omega
      have HS : Hid (pw ((k + 1 : Nat) : Int) = pw k * 2) := pw_succ k
      go_wp2
      go_round
      case rel => exact ⟨k + 1, by omega, by go_num, by rw [HS.out]⟩
      case measure => simp [intOf]; omega
    · have hkn : (k : Int) = n := by omega
      have HK : Hid (pw k = pw n) := by show pw k = pw n; rw [hkn]
      clear hkn
      go_wp2
      go_ret
      exact ⟨congrArg (fun z => Ending.returned (.int .i64 z)) HK.out, rfl⟩
theorem refAddr_any (n : Int) (w : World) :
    Calls Tryz.prog 77 #[.int .i64 n] w fun e w' => e = .returned (.bool (isAddr n)) ∧ w' = w := by
  by_cases h0 : 0 ≤ n
  · by_cases h1 : n ≤ 4294967295
    · rw [isAddr_yes h0 h1]
      go_enter Tryz.func77, Tryz.ntmps77
      go_wp2
      go_ret
      exact ⟨rfl, rfl⟩
    · rw [isAddr_no (by omega)]
      go_enter Tryz.func77, Tryz.ntmps77
      go_wp2
      go_ret
      exact ⟨rfl, rfl⟩
  · rw [isAddr_no (by omega)]
    go_enter Tryz.func77, Tryz.ntmps77
    go_wp2
    go_ret
    exact ⟨rfl, rfl⟩
theorem refPrefix_any (a l : Int) (w : World) :
    Calls Tryz.prog 31 #[.agg #[.int .i64 a, .int .i64 l]] w fun e w' => e = .returned (.int .i64 (prefE a l)) ∧ Below w.heap.size w w' := by
  have hb : Below w.heap.size w (w.alloc (.cells #[.int .i64 a, .int .i64 l] 30)) := (Below.refl _ _).alloc (Nat.le_refl _) _
  rcases ha : isAddr a with _ | _
  · have e : prefE a l = 1 := by unfold prefE; rw [if_neg (by simp [ha])]
    rw [e]
    go_enter Tryz.func31, Tryz.ntmps31
    go_wp2_with (go_at_call 77; refine (refAddr_any _ _).mono ?_; rintro e w' ⟨rfl, rfl⟩)
    go_ret
    exact ⟨rfl, hb⟩
  · have hA := of_isAddr ha
    by_cases h0 : l < 0
    · have e : prefE a l = 1 := by unfold prefE; rw [if_neg (by omega)]
      rw [e]
      go_enter Tryz.func31, Tryz.ntmps31
      go_wp2_with (go_at_call 77; refine (refAddr_any _ _).mono ?_; rintro e w' ⟨rfl, rfl⟩)
      go_ret
      exact ⟨rfl, hb⟩
    by_cases h1 : 32 < l
    · have e : prefE a l = 1 := by unfold prefE; rw [if_neg (by omega)]
      rw [e]
      go_enter Tryz.func31, Tryz.ntmps31
      go_wp2_with (go_at_call 77; refine (refAddr_any _ _).mono ?_; rintro e w' ⟨rfl, rfl⟩)
      go_ret
      exact ⟨rfl, hb⟩
    have hp := pw_pos (32 - l)
    have hz : (pw (32 - l) == 0) = false := by simp; omega
    rcases hm : (a % pw (32 - l) == 0) with _ | _
    · have e : prefE a l = 3 := by unfold prefE; rw [if_pos ⟨ha, by omega, by omega⟩, if_neg (by simpa using hm)]
      have hn : (a % pw (32 - l) != 0) = true := by simp [bne, hm]
      rw [e]
      go_enter Tryz.func31, Tryz.ntmps31
      go_wp2_with (go_at_call 77; refine (refAddr_any _ _).mono ?_; rintro e w' ⟨rfl, rfl⟩)
      go_quiet ((go_at_call 78; refine (pow_any _ _ (by omega) (by omega)).mono ?_; rintro e w' ⟨rfl, rfl⟩; exact ⟨rfl, _, rfl⟩))
      go_wp2
      go_ret
      exact ⟨rfl, below_drewN hb _⟩
    · have e : prefE a l = 0 := by unfold prefE; rw [if_pos ⟨ha, by omega, by omega⟩, if_pos (by simpa using hm)]
      have hn : (a % pw (32 - l) != 0) = false := by simp [bne, hm]
      rw [e]
      go_enter Tryz.func31, Tryz.ntmps31
      go_wp2_with (go_at_call 77; refine (refAddr_any _ _).mono ?_; rintro e w' ⟨rfl, rfl⟩)
      go_quiet ((go_at_call 78; refine (pow_any _ _ (by omega) (by omega)).mono ?_; rintro e w' ⟨rfl, rfl⟩; exact ⟨rfl, _, rfl⟩))
      go_wp2
      go_ret
      exact ⟨rfl, below_drewN hb _⟩
end Go.Proofs.YthnkjfgiclolaaaGreatDoor

namespace Go.Proofs.YthnkjfgiclolaaaGreatDoor
open Go.RowKit
set_option linter.unusedVariables false
set_option maxRecDepth 4000

theorem app_below {W W1 : World} {base : Nat} {v : Value} {l : List Sp} {o : Obj} (hown : OwnSp W base v l) (hg : (W.alloc o).grownBy W1 v.ownBlock) (hB : base ≤ W.heap.size) : Below base W W1 :=
  ((Below.refl base W).alloc hB o).trans (grown_below hg (by simp; omega) (fun k hk => (hown.block k hk).1))
def wordB (x : Int) : Bool := decide (0 ≤ x) && decide (x ≤ 65535)
theorem refWordS_any (x : Int) (w : World) : Calls Tryz.prog 79 #[.int .i64 x] w fun e w' => e = .returned (.bool (wordB x)) ∧ w' = w := by
  by_cases h1 : 0 ≤ x
  · by_cases h2 : x ≤ 65535
    · have e : wordB x = true := by simp [wordB, h1, h2]
      rw [e]; clear e
      go_enter Tryz.func79, Tryz.ntmps79
      go_wp2; go_ret; exact ⟨rfl, rfl⟩
    · have e : wordB x = false := by simp [wordB, h2]
      rw [e]; clear e
      go_enter Tryz.func79, Tryz.ntmps79
      go_wp2; go_ret; exact ⟨rfl, rfl⟩
  · have e : wordB x = false := by simp [wordB, h1]
    rw [e]; clear e
    go_enter Tryz.func79, Tryz.ntmps79
    go_wp2; go_ret; exact ⟨rfl, rfl⟩
theorem okB_word {p q : Int} : okB (p, q) = (wordB p && wordB q && decide (p ≤ q)) := by
  apply bool_ext
  rw [okB_iff]
  simp [wordB]
  omega
set_option maxHeartbeats 8000000 in
theorem refSpans_any (v : Value) (l : List Sp) (w : World) (hv : Spns w v l) (hN : l.length ≤ 140737488355328) :
    Calls Tryz.prog 32 #[v] w fun e w' => e = .returned (.int .i64 (spE l)) ∧ Below w.heap.size w w' := by
  obtain ⟨ao, co, rfl⟩ := hv.len
  obtain ⟨N, hNe⟩ : ∃ N, l.length = N := ⟨_, rfl⟩
  rw [hNe] at hv hN ⊢
  have HN : Hid (l.length = N) := hNe
  have HV : Hid (Spns w (.slice ao N co) l) := hv
  by_cases hf : 200 < N
  · have h4 : spE l = 4 := spE_full (by omega)
    rw [h4]
    have hf' : (200 : Int) < (N : Int) := by omega
    clear hv hNe h4 HV
    go_enter Tryz.func32, Tryz.ntmps32
    go_wp2
    go_ret
    exact ⟨rfl, Below.refl _ _⟩
  have hf' : ¬ (200 : Int) < (N : Int) := by omega
  obtain ⟨er, hE⟩ : ∃ er, spE l = er := ⟨_, rfl⟩
  rw [hE]
  have HE : Hid (spE l = er) := hE
  have hwd := refWordS_any
  clear hv hNe hE
  go_enter Tryz.func32, Tryz.ntmps32
  go_wp2
  go_loopw [3] (fun i wr => ∃ k : Nat, k ≤ N ∧ i = .int .i64 (k : Int) ∧ Below w.heap.size w wr ∧ Hid (∀ j (h : j < l.length), j < k → okB l[j] = true)) (fun i _ => ((N : Int) - intOf i).toNat)
  case atStart => exact ⟨0, by omega, rfl, Below.refl _ _, fun j _ hj => by omega⟩
  case round =>
    obtain ⟨k, hk, rfl, hb, hO⟩ := hrel
    by_cases hlt : k < N
    · have hlt' : (k : Int) < (N : Int) := by omega
      have hk0 : (0 : Int) ≤ (k : Int) := by omega
      have hkl : k < l.length := by rw [HN.out]; exact hlt
      obtain ⟨b, off, rfl, hbl, hcc, hcm, hc⟩ := HV.out.shape (by omega)
      obtain ⟨c0, c1⟩ := (hc k hkl).keep (hb.block b hbl)
      unfold maxLen at hcm
      obtain ⟨s, hs⟩ : ∃ s, l[k] = s := ⟨_, rfl⟩
      rw [hs] at c0 c1
      have HS : Hid (l[k] = s) := hs
      obtain ⟨p, q⟩ := s
      simp only at c0 c1
      have HB : Hid (Below w.heap.size w wr) := hb
      have hok := okB_word (p := p) (q := q)
      have hw1 := hwd p
      have hw2 := hwd q
      generalize wordB p = x at hok hw1
      generalize wordB q = y at hok hw2
      clear hs hc hb hwd
      go_upto_region 7 with (go_at_call 79; go_must (refine (hw1 _).mono ?_; rintro e wr ⟨rfl, rfl⟩))
      go_upto_region 8 with (go_at_call 79; go_must (refine (hw2 _).mono ?_; rintro e wr ⟨rfl, rfl⟩))
      clear hw1 hw2
      have hbad : okB (p, q) = false → er = 1 := fun h => by rw [← HE.out, spE_bad (by rw [HN.out]; omega) hkl (by rw [HS.out]; exact h)]
      cases x with
      | false =>
        have h1 := hbad (by rw [hok]; rfl)
        subst h1
        clear hok hbad
        go_big_quiet (fail)
        go_wp2_with fail
        go_ret
        exact ⟨rfl, below_drewN HB.out _⟩
      | true =>
        cases y with
        | false =>
          have h1 := hbad (by rw [hok]; rfl)
          subst h1
          clear hok hbad
          go_big_quiet (fail)
          go_wp2_with fail
          go_ret
          exact ⟨rfl, below_drewN HB.out _⟩
        | true =>
          by_cases hpq : q < p
          · have h1 := hbad (by rw [hok]; simp; omega)
            subst h1
            have hd : decide (q < p) = true := decide_eq_true hpq
            clear hok hbad
            go_big_quiet (fail)
            go_wp2_with fail
            go_ret
            exact ⟨rfl, below_drewN HB.out _⟩
          · have hd : decide (q < p) = false := decide_eq_false hpq
            have HOK : Hid (okB (p, q) = true) := by rw [Hid, hok]; simp; omega
            clear hok hbad
            go_big_quiet (fail)
            go_wp2_with fail
            go_roundw
            case rel =>
              refine ⟨k + 1, by omega, by go_num, below_drewN HB.out _, fun j h hj => ?_⟩
              by_cases hjk : j < k
              · exact hO.out j h hjk
              · obtain rfl : j = k := by omega
                rw [HS.out]; exact HOK.out
            case measure => simp [intOf]; omega
    · have hlt' : ¬ (k : Int) < (N : Int) := by omega
      have h0 : er = 0 := by
        rw [← HE.out]
        rw [spE_ok (by rw [HN.out]; omega) (fun s hs => ?_)]
        obtain ⟨j, hj, rfl⟩ := List.getElem_of_mem hs
        exact okB_iff.1 (hO.out j hj (by have := HN.out; omega))
      subst h0
      go_wp2
      go_ret
      exact ⟨rfl, hb⟩
end Go.Proofs.YthnkjfgiclolaaaGreatDoor
