/- SpanFew: the law's walk. -/
import Derived.Test.YtplpdaojoilnaaaSpnTop
import Derived.Test.YtplpdaojoilnaaaEqSp
import Derived.Deep.DeepMust
namespace Go.Proofs.Ytplpdaojoilnaaa
open Go.RowKit
set_option linter.unusedVariables false
set_option maxRecDepth 4000

theorem norm_ok (v : Value) (l : List Sp) (w : World) (hv : Spns w v l) (h0 : spE l = 0) (hn : l.length ≤ 200) :
    Calls Try.prog 4 #[v] w fun e w' => ∃ a c, e = .returned (.tuple #[.slice a (setP (inB l)).length c, .nilIface]) ∧ Spns w' (.slice a (setP (inB l)).length c) (setP (inB l)) ∧ Below w.heap.size w w' := by
  have hc := norm_any v l w hv (by omega)
  rw [h0, erV_0, resL_0] at hc
  refine hc.mono ?_
  rintro e w' ⟨v1, rfl, own1, b1⟩
  obtain ⟨a, c, rfl⟩ := own1.len
  exact ⟨a, c, rfl, own1.spns, b1⟩
theorem fact_set : setP (inB [(5, 6), (1, 2), (3, 4)]) = [(1, 6)] := by
  refine (nrm_unique _ _ ?_ (setP_is _).1 (fun n => ?_)).symm
  · refine ⟨OkS.one (by simp), List.pairwise_singleton _ _⟩
  · rw [setP_in]
    · apply bool_ext
      rw [inB_iff, inB_iff]
      simp
      omega
    · intro s hs
      simp at hs
      rcases hs with rfl | rfl | rfl <;> simp
theorem fact_spns (w : World) : Spns (w.alloc (.cells #[.int .i64 5, .int .i64 6, .int .i64 1, .int .i64 2, .int .i64 3, .int .i64 4] 27)) (.slice (some ⟨w.heap.size, 0, none⟩) 3 3) [(5, 6), (1, 2), (3, 4)] := by
  refine .inr ⟨w.heap.size, 0, 3, 3, rfl, by omega, by unfold maxLen; omega, rfl, by simp, fun i hi => ?_⟩
  match i, hi with
  | 0, _ => exact ⟨by simp, by simp⟩
  | 1, _ => exact ⟨by simp, by simp⟩
  | 2, _ => exact ⟨by simp, by simp⟩
set_option maxHeartbeats 16000000 in
theorem few_walk (v : Value) (l : List Sp) (n : Int) (w : World) {q : Prop} (hv : Spns w v l) (hn : l.length ≤ 140737488355328) (hq : q) :
    Calls Try.prog 3 #[v, .int .i64 n] w fun e w' => e = .returned (.bool true) ∧ Below w.heap.size w w' := by
  have hfa := norm_ok _ _ _ (fact_spns w) rfl (by simp)
  rw [fact_set] at hfa
  have HB0 : Hid (∀ w1, Below (w.alloc (.cells #[.int .i64 5, .int .i64 6, .int .i64 1, .int .i64 2, .int .i64 3, .int .i64 4] 27)).heap.size (w.alloc (.cells #[.int .i64 5, .int .i64 6, .int .i64 1, .int .i64 2, .int .i64 3, .int .i64 4] 27)) w1 → Below w.heap.size w w1) := fun w1 h => ((Below.refl w.heap.size w).alloc (Nat.le_refl _) _).trans (h.mono (by simp))
  have hfa := hfa.mono (R' := fun e w1 => ∃ b o c, e = .returned (.tuple #[.slice (some ⟨b, o, none⟩) 1 c, .nilIface]) ∧ 1 ≤ c ∧ c ≤ 9223372036854775807 ∧ w1.cell? ⟨b, o, none⟩ = some (.int .i64 1) ∧ w1.cell? ⟨b, o + 1, none⟩ = some (.int .i64 6) ∧ Below w.heap.size w w1) (fun e w1 h => by
    obtain ⟨a, c, rfl, hs, hb⟩ := h
    obtain ⟨b, o, rfl, h1, h2, h3, h4⟩ := hs.shape (by simp)
    obtain ⟨c0, c1⟩ := h4 0 (by simp)
    unfold maxLen at h3
    exact ⟨b, o, c, rfl, by simpa using h2, by omega, by simpa using c0, by simpa using c1, HB0.out w1 hb⟩)
  obtain ⟨av, cv, hve⟩ := hv.len
  have hno := fun W (h : Below w.heap.size w W) => norm_any v l W (hv.below h) hn
  have hchk := fun W (h : Below w.heap.size w W) => spCheck_any v l W (hv.below h) hn
  have hman := fun W (h : Below w.heap.size w W) => many_any v l W (hv.below h) hn
  have hhas := fun W (h : Below w.heap.size w W) => Has_any v l n W (hv.below h) hn
  have hg := Try.spGuard
  have hne := Try.spNeqSame
  clear hv
  by_cases h0 : spE l = 0
  case neg =>
    rw [erV_n h0] at hno hchk
    generalize spE l = z at hno hchk
    clear hman hhas h0 hve
    go_enter Try.func3, Try.ntmps3
    go_upto_region 2 with (go_at_call 4; go_must (refine hfa.mono ?_; rintro e w1 ⟨b, o, c, rfl, hc1, hc2, c0, c1, b1⟩))
    go_upto_region 4 with fail
    have hno1 := hno w1 b1
    have HCH : Hid (∀ W, Below w.heap.size w W → Calls Try.prog 5 #[v] W fun e w' => e = .returned (.iface 34 (.int .i64 z)) ∧ Below W.heap.size W w') := hchk
    clear hfa hno hchk c0 c1
    go_upto_region 6 with (go_at_call 4; go_must (refine hno1.mono ?_; rintro e w2 ⟨v2, rfl, own2, b2⟩))
    have b2 := b1.trans (b2.mono b1.size)
    have hch := HCH.out w2 b2
    clear hno1
    go_wp2_with (go_at_call 5; go_must (refine hch.mono ?_; rintro e w3 ⟨rfl, b3⟩))
    go_ret
    exact ⟨rfl, b2.trans (b3.mono b2.size)⟩
  case pos =>
  obtain ⟨hl2, hok⟩ := of_spE h0
  have hR := (setP_is (inB l)).1
  have hRi := setP_in hok n
  have hfew := setP_few hok
  have hmE : manyE l = manyL (setP (inB l)) := by unfold manyE; rw [if_pos h0, setP_many]
  rw [h0, erV_0, resL_0] at hno
  have hh1 : (decide (spE l = 0) && inB l n) = inB l n := by rw [decide_eq_true h0, Bool.true_and]
  rw [hh1] at hhas
  rw [hmE] at hman
  generalize setP (inB l) = R at hno hman hR hRi hfew
  obtain ⟨N, hN⟩ : ∃ N, R.length = N := ⟨_, rfl⟩
  obtain ⟨M, hM⟩ : ∃ M, l.length = M := ⟨_, rfl⟩
  have hsR : spE R = 0 := spE_ok (by omega) hR.1
  have hno := fun W (h : Below w.heap.size w W) => (hno W h).mono (R' := fun e w' => ∃ a1 c1, e = .returned (.tuple #[.slice a1 N c1, .nilIface]) ∧ Spns w' (.slice a1 N c1) R ∧ Below W.heap.size W w') (fun e w' h => by
    obtain ⟨v1, rfl, own1, b1⟩ := h
    obtain ⟨a1, c1, rfl⟩ := own1.len
    rw [hN] at own1 ⊢
    exact ⟨a1, c1, rfl, own1.spns, b1⟩)
  have hno2 := fun (u : Value) (W : World) (hu : Spns W u R) => (norm_any u R W hu (by omega)).mono (R' := fun e w' => ∃ v3, e = .returned (.tuple #[v3, .nilIface]) ∧ Spns w' v3 R ∧ Below W.heap.size W w') (fun e w' h => by
    obtain ⟨v1, rfl, own1, b1⟩ := h
    rw [hsR, resL_0, setP_self hR] at own1
    rw [hsR, erV_0]
    exact ⟨v1, rfl, own1.spns, b1⟩)
  have hhas2 := fun (u : Value) (W : World) (hu : Spns W u R) => Has_any u R n W hu (by omega)
  have hh2 : (decide (spE R = 0) && inB R n) = inB l n := by rw [decide_eq_true hsR, Bool.true_and]; exact hRi
  rw [hh2] at hhas2
  generalize inB l n = r at hhas hhas2
  rw [hM] at hve hfew hl2
  rw [hN] at hfew
  have HNO : Hid (∀ W, Below w.heap.size w W → Calls Try.prog 4 #[v] W fun e w' => ∃ a1 c1, e = .returned (.tuple #[.slice a1 N c1, .nilIface]) ∧ Spns w' (.slice a1 N c1) R ∧ Below W.heap.size W w') := hno
  have HNO2 : Hid (∀ (u : Value) (W : World), Spns W u R → Calls Try.prog 4 #[u] W fun e w' => ∃ v3, e = .returned (.tuple #[v3, .nilIface]) ∧ Spns w' v3 R ∧ Below W.heap.size W w') := hno2
  have HMAN : Hid (∀ W, Below w.heap.size w W → Calls Try.prog 7 #[v] W fun e w' => e = .returned (.int .i64 (manyL R)) ∧ Below W.heap.size W w') := hman
  have HHAS : Hid (∀ W, Below w.heap.size w W → Calls Try.prog 8 #[v, .int .i64 n] W fun e w' => e = .returned (.bool r) ∧ Below W.heap.size W w') := hhas
  have HHAS2 : Hid (∀ (u : Value) (W : World), Spns W u R → Calls Try.prog 8 #[u, .int .i64 n] W fun e w' => e = .returned (.bool r) ∧ Below W.heap.size W w') := hhas2
  have HN : Hid (R.length = N) := hN
  have HR : Hid (Nrm R) := hR
  have hMN : (N : Int) ≤ (M : Int) := by omega
  have hfe := Nat.le_trans hfew hl2
  subst hve
  clear hno hno2 hman hhas hhas2 hchk hh1 hh2 hsR hRi hmE hR hN hM hok h0 hn
  go_enter Try.func3, Try.ntmps3
  go_upto_region 2 with (go_at_call 4; go_must (refine hfa.mono ?_; rintro e w1 ⟨b, o, c, rfl, hc1, hc2, c0, c1, b1⟩))
  go_upto_region 4 with fail
  have hno1 := HNO.out w1 b1
  clear hfa HNO c0 c1 hg hne
  go_upto_region 8 with (go_at_call 4; go_must (refine hno1.mono ?_; rintro e w2 ⟨a2, c2, rfl, sp2, b2⟩))
  have b2 := b1.trans (b2.mono b1.size)
  have HS2 : Hid (Spns w2 (.slice a2 N c2) R) := sp2
  clear hno1 sp2
  go_wp2_with fail
  go_loopw [9, 10] (fun m i wr => ∃ k : Nat, k ≤ N ∧ i = .int .i64 (k : Int) ∧ m = .int .i64 (manyL (R.take k)) ∧ Below w2.heap.size w2 wr) (fun _ i _ => ((N : Int) - intOf i).toNat)
  case atStart => exact ⟨0, by omega, rfl, rfl, Below.refl _ _⟩
  case round =>
    obtain ⟨k, hk, rfl, rfl, hb⟩ := hrel
    by_cases hlt : k < N
    · have hlt' : (k : Int) < (N : Int) := by omega
      have hk0 : (0 : Int) ≤ (k : Int) := by omega
      have hkl : k < R.length := by rw [HN.out]; exact hlt
      obtain ⟨b, off, rfl, hbl, hcc, hcm, hcs⟩ := HS2.out.shape (by omega)
      obtain ⟨d0, d1⟩ := (hcs k hkl).keep (hb.block b hbl)
      unfold maxLen at hcm
      have hm0 := manyL_bd HR.out k
      have HM : Hid (manyL (R.take (k + 1)) = manyL (R.take k) + (R[k].2 - R[k].1 + 1)) := manyL_take hkl
      have hok := HR.out.1 R[k] (List.getElem_mem _)
      have hpre : ∀ (h : 0 < k), R[k - 1].2 + 1 < R[k].1 ∧ wr.cell? ⟨b, off + (k - 1) * 2 + 1, none⟩ = some (.int .i64 R[k - 1].2) ∧ 0 ≤ R[k - 1].2 ∧ R[k - 1].2 ≤ 65535 := fun h => ⟨(List.pairwise_iff_getElem.1 HR.out.2) (k - 1) k (by omega) hkl (by omega), ((hcs (k - 1) (by omega)).keep (hb.block b hbl)).2, by have := HR.out.1 R[k - 1] (List.getElem_mem _); omega, by have := HR.out.1 R[k - 1] (List.getElem_mem _); omega⟩
      obtain ⟨y, hy⟩ : ∃ y, (∀ (h : 0 < k), R[k - 1].2 = y) := by
        by_cases h : 0 < k
        · exact ⟨R[k - 1].2, fun _ => rfl⟩
        · exact ⟨0, fun h' => absurd h' h⟩
      have hpre : 0 < k → y + 1 < R[k].1 ∧ wr.cell? ⟨b, off + (k - 1) * 2 + 1, none⟩ = some (.int .i64 y) ∧ 0 ≤ y ∧ y ≤ 65535 := fun h => by
        have := hpre h; rw [hy h] at this; exact this
      generalize R[k] = s at d0 d1 HM hok hpre
      obtain ⟨p, q⟩ := s
      simp only at d0 d1 hok hpre
      generalize manyL (R.take k) = m at hm0 HM ⊢
      obtain ⟨m0, m1⟩ := hm0
      obtain ⟨o0, o1, o2⟩ := hok
      have HB : Hid (Below w2.heap.size w2 wr) := hb
      clear hcs hy hb
      by_cases hk1 : 0 < k
      · obtain ⟨p0, p1, p2, p3⟩ := hpre hk1
        have hk1' : (0 : Int) < (k : Int) := by omega
        obtain ⟨j, hj⟩ : ∃ j, k = j + 1 := ⟨k - 1, by omega⟩
        subst hj
        rw [Nat.add_sub_cancel] at p1
        clear hpre
        have g1 : decide (q < p) = false := decide_eq_false (by omega)
        have g2 : decide ((0 : Int) < ((j + 1 : Nat) : Int)) = true := decide_eq_true (by omega)
        have g2' : decide ((0 : Int) < (j : Int) + 1) = true := decide_eq_true (by omega)
        have g3 : decide (p ≤ y + 1) = false := decide_eq_false (by omega)
        go_upto_region 11 with fail
        go_big_quiet (fail)
        go_upto_region 13 with fail
        go_big_quiet (fail)
        go_wp2_with fail
        go_roundw
        case rel => exact ⟨j + 1 + 1, by omega, by go_num, by rw [HM.out]; simp only; congr 1; omega, below_drewN HB.out _⟩
        case measure => simp [intOf]; omega
      · clear hpre
        have hk1' : ¬ (0 : Int) < (k : Int) := by omega
        have g1 : decide (q < p) = false := decide_eq_false (by omega)
        have g2 : decide ((0 : Int) < (k : Int)) = false := decide_eq_false (by omega)
        go_upto_region 11 with fail
        go_big_quiet (fail)
        go_upto_region 13 with fail
        go_big_quiet (fail)
        go_wp2_with fail
        go_roundw
        case rel => exact ⟨k + 1, by omega, by go_num, by rw [HM.out]; simp only; congr 1; omega, below_drewN HB.out _⟩
        case measure => simp [intOf]; omega
    · have hlt' : ¬ (k : Int) < (N : Int) := by omega
      have hT : manyL (R.take k) = manyL R := by rw [List.take_of_length_le (by rw [HN.out]; omega)]
      rw [hT]
      have b3 := b2.trans (hb.mono b2.size)
      have HB3 : Hid (Below w.heap.size w wr) := b3
      have HS3 : Hid (Spns wr (.slice a2 N c2) R) := HS2.out.below hb
      have hno3 := HNO2.out _ wr HS3.out
      obtain ⟨mm, hmm⟩ : ∃ mm, manyL R = mm := ⟨_, rfl⟩
      rw [hmm] at HMAN ⊢
      clear hT hmm hb b3 HNO2 hlt
      go_upto_region 15 with (go_at_call 4; go_must (refine hno3.mono ?_; rintro e w4 ⟨v4, rfl, sp4, b4⟩))
      have HB4 : Hid (Below w.heap.size w w4) := HB3.out.trans (b4.mono HB3.out.size)
      have HS4 : Hid (Spns w4 (.slice a2 N c2) R) := HS3.out.below b4
      have hsa := sameSp (.slice a2 N c2) v4 R w4 HS4.out sp4
      clear hno3 sp4
      go_upto_region 16 with (go_at_call 6; go_must (refine hsa.mono ?_; rintro e w5 ⟨rfl, b5⟩))
      have HB5 : Hid (Below w.heap.size w w5) := HB4.out.trans (b5.mono HB4.out.size)
      have HS5 : Hid (Spns w5 (.slice a2 N c2) R) := HS4.out.below b5
      have hrr : (r == r) = true := by cases r <;> rfl
      have hmm : (mm == mm) = true := by simp
      clear hsa
      go_wp2_with (first
        | (go_at_call 7; go_must (refine (HMAN.out w5 HB5.out).mono ?_; rintro e w6 ⟨rfl, b6⟩; have HB6 : Hid (Below w.heap.size w w6) := HB5.out.trans (b6.mono HB5.out.size); have HS6 : Hid (Spns w6 (.slice a2 N c2) R) := HS5.out.below b6))
        | (go_at_call_of 8 (cv); refine (HHAS.out w6 HB6.out).mono ?_; rintro e w7 ⟨rfl, b7⟩; have HB7 : Hid (Below w.heap.size w w7) := HB6.out.trans (b7.mono HB6.out.size); have HS7 : Hid (Spns w7 (.slice a2 N c2) R) := HS6.out.below b7)
        | (go_at_call_of 8 (c2); refine (HHAS2.out _ w7 HS7.out).mono ?_; rintro e w8 ⟨rfl, b8⟩))
      go_ret
      exact ⟨rfl, HB7.out.trans (b8.mono HB7.out.size)⟩
end Go.Proofs.Ytplpdaojoilnaaa
