/- What the program's 'has' and 'extend' return (package span). -/
import Derived.Test.YtdellfmkmbabhaaSpnChk
namespace Go.Proofs.Ytdellfmkmbabhaa
open Go.RowKit
set_option linter.unusedVariables false

theorem pred_any (s : Sp) (n : Int) (B : Nat) (W : World) (hB : B < W.heap.size) (hc : W.cell? ⟨B, 0, none⟩ = some (.int .i64 n)) :
    Calls Try.prog 87 #[.agg #[.int .i64 s.1, .int .i64 s.2], .pointer (some ⟨B, 0, none⟩)] W fun e w' => e = .returned (.bool (insB s n)) ∧ Below W.heap.size W w' := by
  have hne : B ≠ W.heap.size := by omega
  have hb := (Below.refl W.heap.size W).alloc (Nat.le_refl _) (.cells #[.int .i64 s.1, .int .i64 s.2] 52)
  obtain ⟨r, hr⟩ : ∃ r, insB s n = r := ⟨_, rfl⟩
  rw [hr]
  obtain ⟨p, q⟩ := s
  simp only at hb ⊢
  have HR : Hid (insB (p, q) n = r) := hr
  clear hr
  by_cases h1 : p ≤ n
  · by_cases h2 : n ≤ q
    · have h3 : r = true := by rw [← HR.out]; simp [insB, h1, h2]
      subst h3
      go_enter Try.func87, Try.ntmps87
      go_wp2
      go_ret
      exact ⟨rfl, hb⟩
    · have h3 : r = false := by rw [← HR.out]; simp [insB, h2]
      subst h3
      go_enter Try.func87, Try.ntmps87
      go_wp2
      go_ret
      exact ⟨rfl, hb⟩
  · have h3 : r = false := by rw [← HR.out]; simp [insB, h1]
    subst h3
    go_enter Try.func87, Try.ntmps87
    go_wp2
    go_ret
    exact ⟨rfl, hb⟩
theorem insB_take {l : List Sp} {n : Int} {k : Nat} (hk : k < l.length) : inB (l.take (k + 1)) n = (inB (l.take k) n || insB l[k] n) := by
  rw [List.take_succ_eq_append_getElem hk, inB_append, inB_one]
set_option maxHeartbeats 4000000 in
theorem indexFunc_any (v : Value) (l : List Sp) (n : Int) (B : Nat) (w : World) (hv : Spns w v l) (hN : l.length ≤ 140737488355328) (hB : B < w.heap.size) (hc : w.cell? ⟨B, 0, none⟩ = some (.int .i64 n)) :
    Calls Try.prog 71 #[v, .func (.func 87) #[] #[.pointer (some ⟨B, 0, none⟩)]] w fun e w' => ∃ z : Int, e = .returned (.int .i64 z) ∧ decide (0 ≤ z) = inB l n ∧ Below w.heap.size w w' := by
  obtain ⟨ao, co, rfl⟩ := hv.len
  obtain ⟨N, hNe⟩ : ∃ N, l.length = N := ⟨_, rfl⟩
  rw [hNe] at hv hN ⊢
  have HN : Hid (l.length = N) := hNe
  have HV : Hid (Spns w (.slice ao N co) l) := hv
  have HC : Hid (∀ W, Below w.heap.size w W → B < W.heap.size ∧ W.cell? ⟨B, 0, none⟩ = some (.int .i64 n)) := fun W hb => ⟨Nat.lt_of_lt_of_le hB hb.size, (hb.cell (p := ⟨B, 0, none⟩) hB).trans hc⟩
  obtain ⟨r, hr⟩ : ∃ r, inB l n = r := ⟨_, rfl⟩
  rw [hr]
  have HR : Hid (inB l n = r) := hr
  clear hv hNe hc hr
  go_enter Try.func71, Try.ntmps71
  go_wp2
  go_loopw [8] (fun i wr => ∃ k : Nat, k ≤ N ∧ i = .int .i64 (k : Int) ∧ Below w.heap.size w wr ∧ Hid (inB (l.take k) n = false)) (fun i _ => ((N : Int) - intOf i).toNat)
  case atStart => exact ⟨0, by omega, rfl, Below.refl _ _, rfl⟩
  case round =>
    obtain ⟨k, hk, rfl, hb, hO⟩ := hrel
    by_cases hlt : k < N
    · have hlt' : (k : Int) < (N : Int) := by omega
      have hkl : k < l.length := by rw [HN.out]; exact hlt
      obtain ⟨b, off, rfl, hbl, hcc, hcm, hcs⟩ := HV.out.shape (by omega)
      obtain ⟨c0, c1⟩ := (hcs k hkl).keep (hb.block b hbl)
      unfold maxLen at hcm
      obtain ⟨hBW, hcW⟩ := HC.out wr hb
      have hp := pred_any l[k] n B wr hBW hcW
      have HT : Hid (inB (l.take (k + 1)) n = (inB (l.take k) n || insB l[k] n)) := insB_take hkl
      obtain ⟨s, hs⟩ : ∃ s, l[k] = s := ⟨_, rfl⟩
      have HS : Hid (l[k] ∈ l) := List.getElem_mem _
      rw [hs] at c0 c1 hp HT HS
      obtain ⟨t, ht⟩ : ∃ t, insB s n = t := ⟨_, rfl⟩
      rw [ht] at hp HT
      have HI : Hid (insB s n = t) := ht
      clear hs hcs ht hcW
      cases t with
      | true =>
        have h0 : r = true := by rw [← HR.out]; exact inB_iff.2 ⟨s, HS.out, insB_iff.1 HI.out⟩
        subst h0
        go_wp2_with (go_at_call 87; refine hp.mono ?_; rintro e w1 ⟨rfl, b1⟩)
        go_ret
        exact ⟨k, rfl, by simp, hb.trans (b1.mono hb.size)⟩
      | false =>
        go_wp2_with (go_at_call 87; refine hp.mono ?_; rintro e w1 ⟨rfl, b1⟩)
        go_roundw
        case rel => exact ⟨k + 1, by omega, by go_num, hb.trans (b1.mono hb.size), by rw [Hid, HT.out, hO.out]; rfl⟩
        case measure => simp [intOf]; omega
    · have hlt' : ¬ (k : Int) < (N : Int) := by omega
      have h0 : r = false := by
        rw [← HR.out]
        have := hO.out
        rw [List.take_of_length_le (by rw [HN.out]; omega)] at this
        exact this
      subst h0
      go_wp2
      go_ret
      exact ⟨-1, rfl, by decide, hb⟩
theorem containsFunc_any (v : Value) (l : List Sp) (n : Int) (B : Nat) (w : World) (hv : Spns w v l) (hN : l.length ≤ 140737488355328) (hB : B < w.heap.size) (hc : w.cell? ⟨B, 0, none⟩ = some (.int .i64 n)) :
    Calls Try.prog 64 #[v, .func (.func 87) #[] #[.pointer (some ⟨B, 0, none⟩)]] w fun e w' => e = .returned (.bool (inB l n)) ∧ Below w.heap.size w w' := by
  have hi := indexFunc_any v l n B w hv hN hB hc
  generalize inB l n = r at hi ⊢
  clear hv hc
  go_enter Try.func64, Try.ntmps64
  go_wp2_with (go_at_call 71; refine hi.mono ?_; rintro e w1 ⟨z, rfl, hz, b1⟩; subst hz)
  go_ret
  exact ⟨rfl, b1⟩
theorem lowHas_any (v : Value) (l : List Sp) (n : Int) (w : World) (hv : Spns w v l) (hN : l.length ≤ 140737488355328) :
    Calls Try.prog 73 #[v, .int .i64 n] w fun e w' => e = .returned (.bool (inB l n)) ∧ Below w.heap.size w w' := by
  have b0 := (Below.refl w.heap.size w).alloc (Nat.le_refl _) (.cells #[.int .i64 n] 3)
  have hi := containsFunc_any v l n w.heap.size (w.alloc (.cells #[.int .i64 n] 3)) (hv.below b0) hN (by simp) (by simp)
  have HB : Hid (∀ w1, Below (w.alloc (.cells #[.int .i64 n] 3)).heap.size (w.alloc (.cells #[.int .i64 n] 3)) w1 → Below w.heap.size w w1) := fun w1 b1 => b0.trans (b1.mono (by simp))
  generalize inB l n = r at hi ⊢
  clear hv
  go_enter Try.func73, Try.ntmps73
  go_wp2_with (go_at_call 64; refine hi.mono ?_; rintro e w1 ⟨rfl, b1⟩)
  go_ret
  exact ⟨rfl, HB.out w1 b1⟩
set_option maxHeartbeats 4000000 in
theorem extend_any (base : Nat) (v : Value) (l : List Sp) (low high : Int) (w : World) (hv : OwnSp w base v l) (hN : l.length ≤ 900000) (hbase : base ≤ w.heap.size) (h0 : 0 ≤ low) (h1 : low ≤ 70000) (hk : ∀ s ∈ l, 0 ≤ s.2 ∧ s.2 ≤ 70000) :
    Calls Try.prog 74 #[v, .int .i64 low, .int .i64 high] w fun e w' => ∃ v', e = .returned v' ∧ OwnSp w' base v' (extendL l low high) ∧ Below base w w' := by
  rcases List.eq_nil_or_concat l with rfl | ⟨i, s, rfl⟩
  · rw [extendL_nil]
    obtain ⟨ao, co, rfl⟩ := hv.len
    go_enter Try.func74, Try.ntmps74
    go_wp2_with (at_builtin; refine wpList_append_sp rfl (.tmp 29) (.tmp 33) rfl base _ [] rfl hv low high rfl (by simp) hbase ?_; intro g5 c5 w5 own5 grow5 lie5)
    go_ret
    refine ⟨_, rfl, own5, ?_⟩
    refine ((Below.refl base w).alloc hbase _).trans (grown_below grow5 (by simp; omega) (fun k hk => (hv.block k hk).1))
  · rw [List.concat_eq_append] at hv hN hk ⊢
    rw [extendL_snoc]
    obtain ⟨g, cap, rfl, hbg, hgl, hcl, hcm⟩ := hv.shape (by simp)
    have hc := hv.cells i.length (by simp)
    have hfr := World.ownsRow.frozenAt hv (i.length * 2 + 1)
    have hs := hk s (by simp)
    rw [List.getElem_append_right (Nat.le_refl _)] at hc
    simp only [Nat.sub_self, List.getElem_cons_zero] at hc
    obtain ⟨_, c1⟩ := hc
    have hlen : (i ++ [s]).length = i.length + 1 := by simp
    have HO : Hid (OwnSp w base (.slice (some ⟨g, 0, none⟩) (i ++ [s]).length cap) (i ++ [s])) := hv
    obtain ⟨m, hm⟩ : ∃ m, i.length = m := ⟨_, rfl⟩
    rw [hlen] at hcl hN HO ⊢
    rw [hm] at c1 hcl hN hfr HO ⊢
    have HM : Hid (i.length = m) := hm
    obtain ⟨p, q⟩ := s
    simp only at c1 hs
    unfold maxLen at hcm
    have hw : wrap64 (low - 1) = low - 1 := by unfold wrap64; omega
    clear hv hk hlen hm
    by_cases he : q = low - 1
    · rw [if_pos (show (p, q).2 = low - 1 from he)]
      have hq : (q == low - 1) = true := by simpa using he
      have own2 := (show OwnSp w base (.slice (some ⟨g, 0, none⟩) (m + 1) cap) (i ++ [(p, q)]) from HO.out).set (by simp [HM.out]) high
      rw [HM.out] at own2
      clear he
      go_enter Try.func74, Try.ntmps74
      go_wp2
      go_ret
      exact ⟨_, rfl, own2, (Below.refl base w).setCell hbg _⟩
    · rw [if_neg (show ¬ (p, q).2 = low - 1 from he)]
      have hq : (q == low - 1) = false := by simpa using he
      have hv2 : OwnSp w base (.slice (some ⟨g, 0, none⟩) (m + 1) cap) (i ++ [(p, q)]) := HO.out
      have hl2 : (i ++ [(p, q)]).length ≤ 1000000 := by have := HM.out; simp; omega
      clear he HO HM
      generalize i ++ [(p, q)] = L at hv2 hl2 ⊢
      go_enter Try.func74, Try.ntmps74
      go_wp2_with (at_builtin; refine wpList_append_sp rfl (.tmp 29) (.tmp 33) rfl base (.slice (some ⟨g, 0, none⟩) (m + 1) cap) L rfl hv2 low high rfl hl2 hbase ?_; intro g5 c5 w5 own5 grow5 lie5)
      go_ret
      refine ⟨_, rfl, own5, ?_⟩
      refine ((Below.refl base w).alloc hbase _).trans (grown_below grow5 (by simp; omega) (fun k hk => ?_))
      have : g = k := by simpa [Value.ownBlock] using hk
      omega
theorem erV_0h : erV 0 = .nilIface := rfl
theorem erV_nh {n : Int} (h : ¬ n = 0) : erV n = .iface 62 (.int .i64 n) := by unfold erV; rw [if_neg h]
theorem Has_any (v : Value) (l : List Sp) (n : Int) (w : World) (hv : Spns w v l) (hn : l.length ≤ 140737488355328) :
    Calls Try.prog 68 #[v, .int .i64 n] w fun e w' => e = .returned (.bool (decide (spE l = 0) && inB l n)) ∧ Below w.heap.size w w' := by
  have hc := spCheck_any v l w hv hn
  have hh := fun W (h : Below w.heap.size w W) => lowHas_any v l n W (hv.below h) hn
  by_cases h0 : spE l = 0
  · rw [h0, erV_0h] at hc
    have e : (decide (spE l = 0) && inB l n) = inB l n := by rw [decide_eq_true h0, Bool.true_and]
    rw [e]
    generalize inB l n = r at hh ⊢
    clear e h0 hv
    go_enter Try.func68, Try.ntmps68
    go_wp2_with (first
      | (go_at_call 34; refine hc.mono ?_; rintro e w1 ⟨rfl, b1⟩)
      | (go_at_call 73; refine (hh _ b1).mono ?_; rintro e w2 ⟨rfl, b2⟩))
    go_ret
    exact ⟨rfl, b1.trans (b2.mono b1.size)⟩
  · rw [erV_nh h0] at hc
    have e : (decide (spE l = 0) && inB l n) = false := by rw [decide_eq_false h0, Bool.false_and]
    rw [e]
    generalize spE l = z at hc
    clear e h0 hv hh
    go_enter Try.func68, Try.ntmps68
    go_wp2_with (go_at_call 34; refine hc.mono ?_; rintro e w1 ⟨rfl, b1⟩)
    go_ret
    exact ⟨rfl, b1⟩
end Go.Proofs.Ytdellfmkmbabhaa
