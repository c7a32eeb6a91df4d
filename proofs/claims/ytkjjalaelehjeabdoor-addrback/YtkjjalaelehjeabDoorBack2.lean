/- The walk of the law AddrBack (package portlaw1): for every input it returns true, and what lay in memory stays. Conditions: the slice and the text are not longer than what a call may be handed; the library's table of powers of ten holds what its text lays. -/
import Derived.Test.YtkjjalaelehjeabDoorBackMath
import Derived.Test.YtkjjalaelehjeabDoorBackText
import Derived.Test.YtkjjalaelehjeabDoorSame
import Derived.Test.YtkjjalaelehjeabDoorAddrPrintP
import Derived.Test.YtkjjalaelehjeabDoorAddrHas
namespace Go.Proofs.YtkjjalaelehjeabDoor
open Go.RowKit
set_option linter.unusedVariables false

/-- Whether an error is nil, as the walk asks it. -/
def Nl (er : Value) (b : Bool) : Prop :=
  (∀ w, (binOp .eql 24 er .nilIface).run Tryd.prog w = .ok (.bool b) w) ∧ (∀ w, (binOp .neq 24 er .nilIface).run Tryd.prog w = .ok (.bool (!b)) w) ∧
  (∀ k w, (eqGuard .eql 24 (.tmp k) (.const .nilIface) er .nilIface).run Tryd.prog w = .ok () w) ∧ (∀ k w, (eqGuard .neq 24 (.tmp k) (.const .nilIface) er .nilIface).run Tryd.prog w = .ok () w)
theorem nl_nil : Nl .nilIface true := ⟨fun w => by kernel_rfl, fun w => by kernel_rfl, fun k w => by kernel_rfl, fun k w => by kernel_rfl⟩
theorem nl_errno (k : Int) : Nl (.iface 46 (.int .i64 k)) false := ⟨fun w => by kernel_rfl, fun w => by kernel_rfl, fun k w => by kernel_rfl, fun k w => by kernel_rfl⟩

theorem spread_58 : spreadL 5 8 = [(5, 32), (6, 31), (8, 32)] := by decide +kernel
theorem OwnP.cells {w : World} {base g cap n : Nat} {Q : List (Int × Int)} (h : OwnP w base (.slice (some ⟨g, 0, none⟩) n cap) Q) (hn : n = Q.length) (i : Nat) (x y : Int) (hi : Q[i]? = some (x, y)) :
    w.cell? ⟨g, i * 2, none⟩ = some (.int .i64 x) ∧ w.cell? ⟨g, i * 2 + 1, none⟩ = some (.int .i64 y) := by
  subst hn
  have hlt : i < Q.length := by
    rcases Nat.lt_or_ge i Q.length with h | h
    · exact h
    · rw [List.getElem?_eq_none h] at hi; cases hi
  have c0 := World.ownsRow.cellAt h (i * 2) (by omega)
  have c1 := World.ownsRow.cellAt h (i * 2 + 1) (by omega)
  obtain ⟨p0, p1⟩ := pairCells_at Q i hlt
  have e : Q.getD i (0, 0) = (x, y) := by simp [List.getD, hi]
  rw [e] at p0 p1
  exact ⟨c0.trans p0, c1.trans p1⟩

theorem range_any (low high : Int) (w : World) :
    Calls Tryd.prog 5 #[.int .i64 low, .int .i64 high] w fun e w' => ∃ v er b, e = .returned (.tuple #[v, er]) ∧ Nl er b ∧ Below w.heap.size w w' ∧ (b = true → 0 ≤ low ∧ low ≤ high ∧ high ≤ 4294967295 ∧ OwnP w' w.heap.size v (spreadL low high)) := by
  by_cases h : 0 ≤ low ∧ low ≤ high ∧ high ≤ 4294967295
  · refine (range_ok low high w h.1 h.2.2 h.2.1).mono ?_
    rintro e w' ⟨v, rfl, own, b⟩
    exact ⟨v, _, true, rfl, nl_nil, b, fun _ => ⟨h.1, h.2.1, h.2.2, own⟩⟩
  · refine (range_bad low high w h).mono ?_
    rintro e w' ⟨rfl, rfl⟩
    exact ⟨_, _, false, rfl, nl_errno _, Below.refl _ _, fun h => by cases h⟩

theorem wf_small {x : Int} (h0 : 0 ≤ x) (h1 : x ≤ 4294967296) : (Lit.int .i64 x).wf = true := by
  simp [Lit.wf, IntKind.min, IntKind.max, IntKind.signed, IntKind.bits]; omega
theorem wf_ok {ps : List (Int × Int)} (h : AllOk ps) : ∀ p ∈ ps, (Lit.int .i64 p.1).wf = true ∧ (Lit.int .i64 p.2).wf = true := by
  intro p hp
  obtain ⟨h1, h2, _⟩ := prefE_zero (h p hp)
  exact ⟨wf_small h1.1 (by omega), wf_small h2.1 (by omega)⟩
theorem Prefs.get {w : World} {ao : Option Addr} {n c : Nat} {ps : List (Int × Int)} (h : Prefs w (.slice ao n c) ps) (k : Nat) (x y : Int) (hk : ps[k]? = some (x, y)) :
    ∃ b off, ao = some ⟨b, off, none⟩ ∧ b < w.heap.size ∧ w.cell? ⟨b, off + k * 2, none⟩ = some (.int .i64 x) ∧ w.cell? ⟨b, off + k * 2 + 1, none⟩ = some (.int .i64 y) := by
  have hlt : k < ps.length := by
    rcases Nat.lt_or_ge k ps.length with h | h
    · exact h
    · rw [List.getElem?_eq_none h] at hk; cases hk
  obtain ⟨b, off, hb, hc⟩ := h.cells (by omega)
  obtain ⟨c0, c1⟩ := hc k hlt
  have e : ps.getD k (0, 0) = (x, y) := by simp [List.getD, hk]
  rw [e] at c0 c1
  refine ⟨b, off, hb, ?_, c0, c1⟩
  rcases Nat.lt_or_ge b w.heap.size with h | h
  · exact h
  · simp [World.cell?, Array.getElem?_eq_none h] at c0

set_option maxRecDepth 100000 in
set_option maxHeartbeats 40000000 in
theorem back_walk (low high a : Int) (v : Value) (ps : List (Int × Int)) (s : ByteArray) (w : World) (wl : (Lit.int .i64 low).wf = true) (wh : (Lit.int .i64 high).wf = true) (wa : (Lit.int .i64 a).wf = true) (hv : Prefs w v ps) (hpl : ps.length ≤ 140737488355328) (hs : s.size ≤ 140737488355328) (ht : Tab w) :
    Calls Tryd.prog 3 #[.int .i64 low, .int .i64 high, .int .i64 a, v, .string s] w fun e w' => e = .returned (.bool true) ∧ Below w.heap.size w w' := by
  obtain ⟨ao, nl, capl, rfl, HNl⟩ : ∃ ao nl capl, v = .slice ao nl capl ∧ Hid (nl = ps.length) := by
    rcases hv with ⟨rfl, q, cap, rfl, _⟩ | ⟨b, off, len, cap, rfl, _, _, h, _⟩
    · exact ⟨_, _, _, rfl, rfl⟩
    · exact ⟨_, _, _, rfl, h.symm⟩
  have HV : Hid (Prefs w (.slice ao nl capl) ps) := hv
  clear hv
  have hr1 := range_ok 5 8 w (by decide) (by decide) (by decide)
  rw [spread_58] at hr1
  go_enter Tryd.func3, Tryd.ntmps3
  go_upto_region 2 with (go_at_call 5; refine hr1.mono ?_; rintro e w1 ⟨v1, rfl, own1, b1⟩)
  as_aux_lemma =>
    obtain ⟨g1, cap1, hv1, _, _⟩ := own1.shape (by simp)
    subst hv1
    obtain ⟨c0, c1⟩ := own1.cells rfl 0 5 32 rfl
    obtain ⟨c2, c3⟩ := own1.cells rfl 1 6 31 rfl
    simp only [Nat.zero_mul, Nat.zero_add, Nat.one_mul, Nat.reduceAdd, List.length_cons, List.length_nil] at c0 c1 c2 c3 ⊢
    have hr2 := fun w => range_any low high w
    go_upto_region 5 with (go_at_call 5; refine (hr2 _).mono ?_; rintro e w2 ⟨v2, er2, bR, rfl, hN2, b2, hR2⟩)
    as_aux_lemma =>
      have bw2 : Below w.heap.size w w2 := b1.trans (b2.mono b1.size)
      obtain ⟨n1, n2, n3, n4⟩ := hN2
      clear hr1 hr2 own1 c0 c1 c2 c3 b1 b2
      go_upto_if 69 with fail
      as_aux_lemma =>
        go_cut [13, 15, 16, 17, 18, 19, 20] (fun _ _ _ _ _ _ _ wc => Below w.heap.size w wc)
        case first =>
          as_aux_lemma =>
            cases bR
            · as_aux_lemma =>
                clear hR2
                go_wp2_with fail
                go_meet
                case rel => exact bw2
            · as_aux_lemma =>
                obtain ⟨r0, r1, r2, own2⟩ := hR2 rfl
                have hsp := spreadL_pos r1
                have HS : Hid (spreadL low high = spreadL low high) := rfl
                have hcnt := cnt_spread _ low high a (Nat.le_refl _) r0 r2
                have hmem := spread_mem _ low high (Nat.le_refl _) r0 r2
                have hnxt := spread_next _ low high (Nat.le_refl _) r0 r2
                have hln := spread_le r0 r2
                generalize spreadL low high = L at own2 hsp hcnt hmem hnxt hln
                clear HS hR2
                obtain ⟨g2, cap2, hv2, _, hg2⟩ := own2.shape hsp
                subst hv2
                obtain ⟨n, hn⟩ : ∃ n, n = L.length := ⟨_, rfl⟩
                rw [← hn] at hsp hln ⊢
                have HN : Hid (n = L.length) := hn
                have HC : Hid (∀ k x y, L[k]? = some (x, y) → w2.cell? ⟨g2, k * 2, none⟩ = some (.int .i64 x) ∧ w2.cell? ⟨g2, k * 2 + 1, none⟩ = some (.int .i64 y)) := fun k x y h => own2.cells rfl k x y h
                have HCN : Hid (cntP L a = if low ≤ a ∧ a ≤ high then 1 else 0) := hcnt
                have HME : Hid (∀ p ∈ L, prefE p.1 p.2 = 0 ∧ low ≤ p.1 ∧ endP p ≤ high) := hmem
                have HNX : Hid (∀ (i : Nat) (p q : Int × Int), L[i]? = some p → L[i + 1]? = some q → p.2 = q.2 → 0 < p.2 → prefE p.1 (p.2 - 1) ≠ 0) := hnxt
                clear hcnt hmem hnxt own2 hn n1 n2 n3 n4
                go_wp2_with fail
                go_loopw [15, 16, 17, 18, 19, 20] (fun m i _ _ _ _ wr => ∃ (k : Nat) (c : Int), k ≤ n ∧ i = .int .i64 k ∧ m = .int .i64 c ∧ 0 ≤ c ∧ c ≤ k ∧ Below w2.heap.size w2 wr ∧ Hid (c + cntP (L.drop k) a = cntP L a)) (fun _ i _ _ _ _ _ => n - (intOf i).toNat)
                case atStart => exact ⟨0, 0, by omega, rfl, rfl, by omega, by omega, Below.refl _ _, by show _ = _; simp⟩
                case round =>
                  as_aux_lemma =>
                    obtain ⟨k, c, hk, rfl, rfl, hc0, hc1, hbr, hT⟩ := hrel
                    by_cases hlt : k < n
                    · as_aux_lemma =>
                        have hkL : k < L.length := by rw [← HN.out]; exact hlt
                        obtain ⟨⟨x, y⟩, hp⟩ : ∃ p, p = L[k] := ⟨_, rfl⟩
                        have hpk : L[k]? = some (x, y) := by rw [hp]; simp [hkL]
                        obtain ⟨c0, c1⟩ := HC.out k x y hpk
                        have d0 := (hbr.cell (p := ⟨g2, k * 2, none⟩) hg2).trans c0
                        have d1 := (hbr.cell (p := ⟨g2, k * 2 + 1, none⟩) hg2).trans c1
                        have hpe := (HME.out (x, y) (by rw [hp]; exact List.getElem_mem _)).1
                        have hdr := cntP_drop L k a hkL
                        rw [← hp] at hdr
                        simp only at hdr hpe
                        have hlt' : (k : Int) < (n : Int) := by omega
                        have HPK : Hid (L[k]? = some (x, y)) := hpk
                        have hha := fun w => has_any x y a w
                        generalize hasB x y a = t at hha hdr
                        have HT' : Hid (c + (if t = true then 1 else 0) + cntP (L.drop (k + 1)) a = cntP L a) := by
                          show c + (if t = true then 1 else 0) + cntP (L.drop (k + 1)) a = cntP L a
                          rw [← hT.out, hdr]; omega
                        clear c0 c1 hp hpk hT hdr
                        go_upto_if 81 with (go_at_call 6; refine (hha _).mono ?_; rintro e wx ⟨rfl, bx⟩)
                        as_aux_lemma =>
                          have hbx : Below w2.heap.size w2 wx := hbr.trans (bx.mono hbr.size)
                          go_cut [15] (fun m wc => m = .int .i64 (c + if t = true then 1 else 0) ∧ Below w2.heap.size w2 wc)
                          case first =>
                            as_aux_lemma =>
                              cases t
                              · as_aux_lemma =>
                                  go_wp2_with fail
                                  go_meet
                                  case rel => exact ⟨by simp, hbx⟩
                              · as_aux_lemma =>
                                  go_wp2_with fail
                                  go_meet
                                  case rel => exact ⟨by simp, hbx⟩
                          case rest =>
                            as_aux_lemma =>
                              obtain ⟨rfl, hbc⟩ := hcut
                              obtain ⟨c', hc'⟩ : ∃ c' : Int, c' = c + if t = true then 1 else 0 := ⟨_, rfl⟩
                              have hc2 : 0 ≤ c' ∧ c' ≤ k + 1 := by rw [hc']; split <;> omega
                              rw [← hc'] at HT' ⊢
                              clear hc' d0 d1 hbr hbx bx hha
                              have d0 := (hbc.cell (p := ⟨g2, k * 2, none⟩) hg2).trans (HC.out k x y HPK.out).1
                              have d1 := (hbc.cell (p := ⟨g2, k * 2 + 1, none⟩) hg2).trans (HC.out k x y HPK.out).2
                              have hbz := hbc.size
                              rcases Nat.eq_zero_or_pos k with hk0 | hk0
                              · as_aux_lemma =>
                                  have hgd : decide ((0 : Int) < (k : Int)) = false := by simp; omega
                                  go_upto_region 12 with fail
                                  go_quiet (fail)
                                  go_wp2_with fail
                                  go_roundw
                                  case rel => exact ⟨k + 1, c', by omega, by go_num, rfl, by omega, by omega, below_drewN hbc _, HT'⟩
                                  case measure => simp [intOf]; omega
                              · as_aux_lemma =>
                                  have hgd : (0 : Int) < (k : Int) := by omega
                                  have hjL : k - 1 < L.length := by have := HN.out; omega
                                  obtain ⟨⟨x', y'⟩, hp'⟩ : ∃ p, p = L[k - 1] := ⟨_, rfl⟩
                                  have hpj : L[k - 1]? = some (x', y') := by rw [hp']; simp [hjL]
                                  have f0 := (hbc.cell (p := ⟨g2, (k - 1) * 2, none⟩) hg2).trans (HC.out (k - 1) x' y' hpj).1
                                  have f1 := (hbc.cell (p := ⟨g2, (k - 1) * 2 + 1, none⟩) hg2).trans (HC.out (k - 1) x' y' hpj).2
                                  have hpe' := (HME.out (x', y') (by rw [hp']; exact List.getElem_mem _)).1
                                  have hkk : k - 1 + 1 = k := by omega
                                  have hnx := HNX.out (k - 1) (x', y') (x, y) hpj (by rw [hkk]; exact HPK.out)
                                  simp only at hnx hpe'
                                  have hki : (k : Int) - 1 < (n : Int) := by omega
                                  have hki0 : 0 ≤ (k : Int) - 1 := by omega
                                  clear hp' hkk
                                  rcases hyy : (y == y') with _ | _
                                  · as_aux_lemma =>
                                      clear hnx
                                      go_upto_region 12 with fail
                                      go_quiet (fail)
                                      go_wp2_with fail
                                      go_roundw
                                      case rel => exact ⟨k + 1, c', by omega, by go_num, rfl, by omega, by omega, below_drewN hbc _, HT'⟩
                                      case measure => simp [intOf]; omega
                                  · as_aux_lemma =>
                                      have hyy' : y' = y := by have : y = y' := by simpa using hyy
                                                               exact this.symm
                                      have hnx' := hnx hyy'
                                      have HF : Hid (∀ w3, Below w2.heap.size w2 w3 → w3.cell? ⟨g2, k * 2, none⟩ = some (.int .i64 x) ∧ w3.cell? ⟨g2, k * 2 + 1, none⟩ = some (.int .i64 y)) := fun w3 h3 => ⟨(h3.cell (p := ⟨g2, k * 2, none⟩) hg2).trans (HC.out k x y HPK.out).1, (h3.cell (p := ⟨g2, k * 2 + 1, none⟩) hg2).trans (HC.out k x y HPK.out).2⟩
                                      have hen1 := fun w => ends_ok x' y' w hpe'
                                      have hen2 := fun w => ends_ok x y w hpe
                                      have hb0 : ∀ j, Below w2.heap.size w2 (wc.drewN j) := fun j => below_drewN hbc j
                                      have HB0 : Hid (∀ j, Below w2.heap.size w2 (wc.drewN j)) := hb0
                                      rw [hyy'] at hnx'
                                      obtain ⟨_, ⟨hyb0, hyb1⟩, _⟩ := prefE_zero hpe
                                      clear hnx hpe hpe' hb0
                                      by_cases hy0 : 0 < y
                                      · as_aux_lemma =>
                                          have hck := fun w => check_bad x' (y - 1) w (hnx' hy0)
                                          clear hnx' hyy'
                                          go_upto_region 12 with fail
                                          go_quiet (fail)
                                          go_wp2_with (first
                                            | (go_at_call_of 7 (Value.agg #[.int .i64 x', .int .i64 y']); refine (hen1 _).mono ?_; rintro e w3 ⟨rfl, b3⟩; have h3 : Below w2.heap.size w2 w3 := Below.trans (HB0.out _) (b3.mono hbz); obtain ⟨_, _⟩ := HF.out w3 h3)
                                            | (go_at_call_of 7 (Value.agg #[.int .i64 x, .int .i64 y]); refine (hen2 _).mono ?_; rintro e w4 ⟨rfl, b4⟩; have h4 : Below w2.heap.size w2 w4 := h3.trans (b4.mono h3.size); obtain ⟨_, _⟩ := HF.out w4 h4)
                                            | (go_at_call 8; refine (hck _).mono ?_; rintro e w5 ⟨rfl, b5⟩; have h5 : Below w2.heap.size w2 w5 := h4.trans (b5.mono h4.size); obtain ⟨_, _⟩ := HF.out w5 h5))
                                          go_roundw
                                          case rel => exact ⟨k + 1, c', by omega, by go_num, rfl, by omega, by omega, h5, HT'⟩
                                          case measure => simp [intOf]; omega
                                      · as_aux_lemma =>
                                          have hy1 : y ≤ 0 := by omega
                                          clear hnx' hyy' hy0
                                          go_upto_region 12 with fail
                                          go_quiet (fail)
                                          go_wp2_with (first
                                            | (go_at_call_of 7 (Value.agg #[.int .i64 x', .int .i64 y']); refine (hen1 _).mono ?_; rintro e w3 ⟨rfl, b3⟩; have h3 : Below w2.heap.size w2 w3 := Below.trans (HB0.out _) (b3.mono hbz); obtain ⟨_, _⟩ := HF.out w3 h3)
                                            | (go_at_call_of 7 (Value.agg #[.int .i64 x, .int .i64 y]); refine (hen2 _).mono ?_; rintro e w4 ⟨rfl, b4⟩; have h4 : Below w2.heap.size w2 w4 := h3.trans (b4.mono h3.size); obtain ⟨_, _⟩ := HF.out w4 h4))
                                          go_roundw
                                          case rel => exact ⟨k + 1, c', by omega, by go_num, rfl, by omega, by omega, h4, HT'⟩
                                          case measure => simp [intOf]; omega
                    · as_aux_lemma =>
                        have hge : (n : Int) ≤ (k : Int) := by omega
                        have hfin : c = if low ≤ a ∧ a ≤ high then 1 else 0 := by
                          have := hT.out
                          rw [List.drop_eq_nil_of_le (by rw [← HN.out]; omega), cntP, HCN.out] at this
                          omega
                        clear hT hlt
                        by_cases hin : low ≤ a ∧ a ≤ high
                        · as_aux_lemma =>
                            rw [if_pos hin] at hfin
                            obtain ⟨i0, i1⟩ := hin
                            subst hfin
                            go_wp2_with fail
                            go_meet
                            case rel => exact bw2.trans (hbr.mono bw2.size)
                        · as_aux_lemma =>
                            rw [if_neg hin] at hfin
                            subst hfin
                            by_cases i0 : low ≤ a
                            · as_aux_lemma =>
                                have i1 : high < a := by omega
                                clear hin
                                go_wp2_with fail
                                go_meet
                                case rel => exact bw2.trans (hbr.mono bw2.size)
                            · as_aux_lemma =>
                                have i1 : a < low := by omega
                                clear hin i0
                                go_wp2_with fail
                                go_meet
                                case rel => exact bw2.trans (hbr.mono bw2.size)
        case rest =>
          as_aux_lemma =>
            have hpl' : nl ≤ 140737488355328 := by rw [HNl.out]; exact hpl
            have hcv := cover_any wc (.slice ao nl capl) ps (HV.out.below (Nat.le_refl _) hcut) (by omega)
            clear n1 n2 n3 n4 hR2 bw2
            go_upto_region 20 with (go_at_call 9; refine hcv.mono ?_; rintro e w3 ⟨v3, er3, rfl, b3, hC3⟩)
            as_aux_lemma =>
              obtain ⟨bC, ⟨n1, n2, n3, n4⟩, hT3⟩ : ∃ bC, Nl er3 bC ∧ (bC = true → ps.length ≤ 200 ∧ AllOk ps ∧ ∃ Q, Mrg ps Q ∧ OwnP w3 wc.heap.size v3 (flatQ Q)) := by
                rcases hC3 with ⟨rfl, h⟩ | ⟨_, k, rfl, _⟩
                · exact ⟨true, nl_nil, fun _ => h⟩
                · exact ⟨false, nl_errno k, fun h => by cases h⟩
              have bw3 : Below w.heap.size w w3 := hcut.trans (b3.mono hcut.size)
              clear hcv hC3
              go_upto_if 171 with fail
              as_aux_lemma =>
                go_cut [21, 22, 23, 24, 25, 26, 27, 28] (fun _ _ _ _ _ _ _ _ wc => Below w.heap.size w wc)
                case first =>
                  as_aux_lemma =>
                    cases bC
                    · as_aux_lemma =>
                        clear hT3
                        go_wp2_with fail
                        go_meet
                        case rel => exact bw3
                    · as_aux_lemma =>
                        obtain ⟨l200, hall, Q, hM, own3⟩ := hT3 rfl
                        have hle := cover_le hall hM
                        have hsm := any_same hall hM a
                        have hfok := flat_ok hM.2.1
                        obtain ⟨a3, m, c3, rfl, HM⟩ : ∃ a3 m c3, v3 = .slice a3 m c3 ∧ Hid (m = (flatQ Q).length) := by
                          rcases own3.2 with ⟨rfl, h⟩ | ⟨g, cap, cur, rfl, _⟩
                          · exact ⟨_, _, _, rfl, h.symm⟩
                          · exact ⟨_, _, _, rfl, rfl⟩
                        have HP3 : Hid (Prefs w3 (.slice a3 m c3) (flatQ Q)) := own3.prefs (wf_ok hfok)
                        have hmn : m ≤ nl := by have := HM.out; have := HNl.out; omega
                        have hm200 : nl ≤ 200 := by have := HNl.out; omega
                        have HMr : Hid (Mrg ps Q) := hM
                        have HOk : Hid (AllOk (flatQ Q)) := hfok
                        have HSM : Hid (anyB ps a = anyB (flatQ Q) a) := hsm
                        obtain ⟨F, hF⟩ : ∃ F, F = flatQ Q := ⟨_, rfl⟩
                        rw [← hF] at HM HP3 HOk HSM
                        have HQF : Hid (F = flatQ Q) := hF
                        clear hF own3 hM hfok hsm hle l200 hall hT3 n1 n2 n3 n4
                        go_wp2_with fail
                        go_loopw [22, 24] (fun b i wr => ∃ k : Nat, k ≤ nl ∧ i = .int .i64 k ∧ b = .bool (anyB (ps.take k) a) ∧ Below w3.heap.size w3 wr) (fun _ i _ => nl - (intOf i).toNat)
                        case atStart => exact ⟨0, by omega, rfl, rfl, Below.refl _ _⟩
                        case round =>
                          as_aux_lemma =>
                            obtain ⟨k, hk, rfl, rfl, hbr⟩ := hrel
                            by_cases hlt : k < nl
                            · as_aux_lemma =>
                                have hkL : k < ps.length := by rw [← HNl.out]; exact hlt
                                obtain ⟨⟨x, y⟩, hp⟩ : ∃ p, p = ps[k] := ⟨_, rfl⟩
                                have hpk : ps[k]? = some (x, y) := by rw [hp]; simp [hkL]
                                obtain ⟨b, off, hao, hb, c0, c1⟩ := HV.out.get k x y hpk
                                subst hao
                                have hbw := bw3.size
                                have d0 := (hbr.cell (p := ⟨b, off + k * 2, none⟩) (by show b < _; omega)).trans ((bw3.cell (p := ⟨b, off + k * 2, none⟩) hb).trans c0)
                                have d1 := (hbr.cell (p := ⟨b, off + k * 2 + 1, none⟩) (by show b < _; omega)).trans ((bw3.cell (p := ⟨b, off + k * 2 + 1, none⟩) hb).trans c1)
                                have HA : Hid (anyB (ps.take (k + 1)) a = (anyB (ps.take k) a || hasB x y a)) := anyB_take ps k a (x, y) hpk
                                have hha := fun w => has_any x y a w
                                have hlt' : (k : Int) < (nl : Int) := by omega
                                generalize hasB x y a = t at hha HA
                                clear c0 c1 hp hpk
                                rcases htk : anyB (ps.take k) a with _ | _
                                · as_aux_lemma =>
                                    rw [htk] at HA
                                    go_wp2_with (go_at_call 6; refine (hha _).mono ?_; rintro e wx ⟨rfl, bx⟩)
                                    go_roundw
                                    case rel => exact ⟨k + 1, by omega, by go_num, by rw [HA.out]; simp, hbr.trans (bx.mono hbr.size)⟩
                                    case measure => simp [intOf]; omega
                                · as_aux_lemma =>
                                    rw [htk] at HA
                                    go_wp2_with fail
                                    go_roundw
                                    case rel => exact ⟨k + 1, by omega, by go_num, by rw [HA.out]; simp, hbr⟩
                                    case measure => simp [intOf]; omega
                            · as_aux_lemma =>
                                have hge : (nl : Int) ≤ (k : Int) := by omega
                                have hTK : anyB (ps.take k) a = anyB F a := by rw [List.take_of_length_le (by rw [← HNl.out]; omega)]; exact HSM.out
                                rw [hTK]
                                obtain ⟨T, hT⟩ : ∃ T, T = anyB F a := ⟨_, rfl⟩
                                rw [← hT]
                                have HT : Hid (T = anyB F a) := hT
                                obtain ⟨w4, rfl⟩ : ∃ w4, w4 = wr := ⟨wr, rfl⟩
                                have hdk : decide (k < nl) = false := by simp; omega
                                have hdk' : decide ((k : Int) < (nl : Int)) = false := by simp; omega
                                clear hTK hT hlt
                                go_wp2_with fail
                                go_loopw [23, 25] (fun b i wr => ∃ k : Nat, k ≤ m ∧ i = .int .i64 k ∧ b = .bool (anyB (F.take k) a) ∧ Below w3.heap.size w3 wr) (fun _ i _ => m - (intOf i).toNat)
                                case atStart => exact ⟨0, by omega, rfl, rfl, hbr⟩
                                case round =>
                                  as_aux_lemma =>
                                    obtain ⟨j, hj, rfl, rfl, hbs⟩ := hrel
                                    by_cases hlt : j < m
                                    · as_aux_lemma =>
                                        have hkL : j < F.length := by rw [← HM.out]; exact hlt
                                        obtain ⟨⟨x, y⟩, hp⟩ : ∃ p, p = F[j] := ⟨_, rfl⟩
                                        have hpk : F[j]? = some (x, y) := by rw [hp]; simp [hkL]
                                        obtain ⟨b, off, hao, hb, c0, c1⟩ := HP3.out.get j x y hpk
                                        subst hao
                                        have d0 := (hbs.cell (p := ⟨b, off + j * 2, none⟩) hb).trans c0
                                        have d1 := (hbs.cell (p := ⟨b, off + j * 2 + 1, none⟩) hb).trans c1
                                        have HA : Hid (anyB (F.take (j + 1)) a = (anyB (F.take j) a || hasB x y a)) := anyB_take F j a (x, y) hpk
                                        have hha := fun w => has_any x y a w
                                        have hlt' : (j : Int) < (m : Int) := by omega
                                        generalize hasB x y a = t at hha HA
                                        clear c0 c1 hp hpk
                                        rcases htk : anyB (F.take j) a with _ | _
                                        · as_aux_lemma =>
                                            rw [htk] at HA
                                            go_wp2_with (go_at_call 6; refine (hha _).mono ?_; rintro e wx ⟨rfl, bx⟩)
                                            go_roundw
                                            case rel => exact ⟨j + 1, by omega, by go_num, by rw [HA.out]; simp, hbs.trans (bx.mono hbs.size)⟩
                                            case measure => simp [intOf]; omega
                                        · as_aux_lemma =>
                                            rw [htk] at HA
                                            go_wp2_with fail
                                            go_roundw
                                            case rel => exact ⟨j + 1, by omega, by go_num, by rw [HA.out]; simp, hbs⟩
                                            case measure => simp [intOf]; omega
                                    · as_aux_lemma =>
                                        have hge' : (m : Int) ≤ (j : Int) := by omega
                                        have hTJ : anyB (F.take j) a = T := by rw [List.take_of_length_le (by rw [← HM.out]; omega)]; exact HT.out.symm
                                        rw [hTJ]
                                        obtain ⟨w5, rfl⟩ : ∃ w5, w5 = wr := ⟨wr, rfl⟩
                                        have hp5 := HP3.out.below (Nat.le_refl _) hbs
                                        have hcv := cover_any w5 (.slice a3 m c3) F hp5 (by have := HM.out; omega)
                                        clear hTJ hlt
                                        go_upto_region 32 with (go_at_call 9; refine hcv.mono ?_; rintro e w6 ⟨v6, er6, rfl, b6, h6⟩)
                                        as_aux_lemma =>
                                          obtain ⟨b7, a6, m6, c6, qs, ⟨n1, n2, n3, n4⟩, rfl, hp6, hq6⟩ : ∃ b7 a6 m6 c6 qs, Nl er6 b7 ∧ v6 = .slice a6 m6 c6 ∧ Prefs w6 (.slice a6 m6 c6) qs ∧ (m ≤ 200 → b7 = true ∧ F = qs) := by
                                            rcases h6 with ⟨rfl, _, _, Q', hM', own6⟩ | ⟨rfl, k, rfl, hno⟩
                                            · have e : Q' = Q := merge_again HMr.out (HQF.out ▸ hM')
                                              subst e
                                              rw [← HQF.out] at own6
                                              have hpp := own6.prefs (wf_ok HOk.out)
                                              obtain ⟨a6, m6, c6, rfl⟩ : ∃ a6 m6 c6, v6 = .slice a6 m6 c6 := by
                                                rcases own6.2 with ⟨rfl, h⟩ | ⟨g, cap, cur, rfl, _⟩
                                                · exact ⟨_, _, _, rfl⟩
                                                · exact ⟨_, _, _, rfl⟩
                                              exact ⟨true, a6, m6, c6, F, nl_nil, rfl, hpp, fun _ => ⟨rfl, rfl⟩⟩
                                            · refine ⟨false, none, 0, 0, [], nl_errno k, rfl, .inl ⟨rfl, _, _, rfl, fun _ => rfl⟩, fun h => ?_⟩
                                              exact absurd HOk.out (hno (by have := HM.out; omega))
                                          have hp7 := hp5.below (Nat.le_refl _) b6
                                          have hsame := prefixes_any a3 a6 m c3 m6 c6 F qs w6 hp7 hp6 (by have := HM.out; omega)
                                          have b8 : Below w.heap.size w w6 := (bw3.trans (hbs.mono bw3.size)).trans (b6.mono (bw3.trans (hbs.mono bw3.size)).size)
                                          have HB8 : Hid (Below w.heap.size w w6) := b8
                                          have hmn' : (m : Int) ≤ (nl : Int) := by omega
                                          clear h6 hp6 hp7 hp5 hcv
                                          have hm2 : m ≤ 200 := by omega
                                          obtain ⟨rfl, hFq⟩ := hq6 hm2
                                          have hdd : decide (F = qs) = true := by simp [hFq]
                                          rw [hdd] at hsame
                                          have hm2' : (m : Int) ≤ 200 := by omega
                                          clear hdd hFq hq6
                                          go_wp2_with (go_at_call 10; refine hsame.mono ?_; rintro e w7 ⟨rfl, n7, rfl⟩)
                                          go_meet
                                          case rel => exact below_drewN HB8.out _
                case rest =>
                  as_aux_lemma =>
                    clear n1 n2 n3 n4 hT3 bw3 b3
                    have HP : Hid (∀ w', Calls Tryd.prog 11 #[.string s] w' fun e w'' => e = .returned (prefR (readP s.data.toList)) ∧ Below w'.heap.size w' w'') := by
                      intro w'
                      have := parsePrefix_any s.data.toList w' (by rw [size_list]; omega)
                      rw [mkB_data] at this; exact this
                    obtain ⟨x, y, er4, bP, hN4, hpp, hbP⟩ : ∃ x y er4 bP, Nl er4 bP ∧ (∀ w', Calls Tryd.prog 11 #[.string s] w' fun e w'' => e = .returned (.tuple #[.agg #[.int .i64 x, .int .i64 y], er4]) ∧ Below w'.heap.size w' w'') ∧ (bP = true → readP s.data.toList = (x, y, true)) := by
                      rcases hz : (readP s.data.toList).2.2 with _ | _
                      · have e : prefR (readP s.data.toList) = .tuple #[.agg #[.int .i64 0, .int .i64 0], .iface 46 (.int .i64 2)] := by unfold prefR; rw [if_neg (by simp [hz])]
                        exact ⟨0, 0, _, false, nl_errno 2, fun w' => by have := HP.out w'; rw [e] at this; exact this, fun h => by cases h⟩
                      · have e : prefR (readP s.data.toList) = .tuple #[.agg #[.int .i64 (readP s.data.toList).1, .int .i64 (readP s.data.toList).2.1], .nilIface] := by unfold prefR; rw [if_pos hz]
                        exact ⟨_, _, _, true, nl_nil, fun w' => by have := HP.out w'; rw [e] at this; exact this, fun _ => by rw [← hz]⟩
                    obtain ⟨n1, n2, n3, n4⟩ := hN4
                    clear HP
                    go_upto_if 239 with (go_at_call 11; refine (hpp _).mono ?_; rintro e w4 ⟨rfl, b4⟩)
                    as_aux_lemma =>
                      have bw4 : Below w.heap.size w w4 := hcut.trans (b4.mono hcut.size)
                      have pq := PairAt.new w4 x y 28
                      have bq : Below w.heap.size w (w4.alloc (.cells #[.int .i64 x, .int .i64 y] 28)) := bw4.alloc bw4.size _
                      have HQ : Hid (w4.alloc (.cells #[.int .i64 x, .int .i64 y] 28) = w4.alloc (.cells #[.int .i64 x, .int .i64 y] 28)) := rfl
                      obtain ⟨gq, hgq⟩ : ∃ gq, gq = w4.heap.size := ⟨_, rfl⟩
                      rw [← hgq] at pq ⊢
                      generalize w4.alloc (.cells #[.int .i64 x, .int .i64 y] 28) = w5 at pq bq ⊢
                      clear hgq HQ
                      go_cut [30, 31, 32, 33] (fun _ _ _ _ wc => Below w.heap.size w wc)
                      case first =>
                        as_aux_lemma =>
                          cases bP
                          · as_aux_lemma =>
                              clear hbP
                              go_wp2_with fail
                              go_meet
                              case rel => exact bq
                          · as_aux_lemma =>
                              obtain ⟨hpe, hback⟩ := read_back (hbP rfl)
                              have hpr := fun w ht => printPrefix_ok x y w hpe ht
                              have hz : (showPrefL x y).length ≤ 3000 := by
                                unfold showPrefL
                                split
                                · simp
                                · have h1 := showL_short x
                                  have h2 := digL_small (n := y.toNat) (by obtain ⟨_, h, _⟩ := prefE_zero hpe; omega)
                                  simp; omega
                              have hp2 := fun w => parsePrefix_any (showPrefL x y) w (by omega)
                              rw [readP_show hpe, prefR_ok] at hp2
                              have hneq := fun w => Tryd.prefNeq x y x y w
                              have htq := ht.below bq
                              generalize showPrefL x y = tl at hback hpr hp2 hz
                              obtain ⟨q0, q1, _, _⟩ := id pq
                              clear hpp hbP hpe n1 n2 n3 n4
                              go_upto_region 39 with (first
                                | (go_at_call 12; refine (hpr _ htq).mono ?_; rintro e w6 ⟨rfl, b6⟩)
                                | (go_at_call 11; refine (hp2 _).mono ?_; rintro e w7 ⟨rfl, b7⟩))
                              have bw7 : Below w.heap.size w w7 := (bq.trans (b6.mono bq.size)).trans (b7.mono (bq.trans (b6.mono bq.size)).size)
                              have pq7 := PairAt.keep b7 (PairAt.keep b6 pq)
                              have pr := PairAt.new w7 x y 28
                              have pq8 := pq7.alloc (.cells #[.int .i64 x, .int .i64 y] 28)
                              have b8 : Below w.heap.size w (w7.alloc (.cells #[.int .i64 x, .int .i64 y] 28)) := bw7.alloc bw7.size _
                              obtain ⟨gr, hgr⟩ : ∃ gr, gr = w7.heap.size := ⟨_, rfl⟩
                              rw [← hgr] at pr ⊢
                              generalize w7.alloc (.cells #[.int .i64 x, .int .i64 y] 28) = w8 at pr pq8 b8 ⊢
                              clear hgr q0 q1 pq7 pq bq htq hpr hp2
                              obtain ⟨q0, q1, _, _⟩ := id pq8
                              obtain ⟨r0, r1, _, _⟩ := id pr
                              have hsl : s.data.toList.length = s.size := size_list s
                              rcases hback with hb | hb
                              · as_aux_lemma =>
                                  have hts : mkB tl = s := by rw [hb]; exact mkB_data s
                                  have heq : ((mkB tl).toList == s.toList) = true := by rw [hts]; simp
                                  rw [hts]
                                  clear hb hts heq hsl hz
                                  go_wp2_with fail
                                  go_meet
                                  case rel => exact b8
                              · as_aux_lemma =>
                                  have hts : mkB tl = s ++ ⟨#[47, 51, 50]⟩ := by
                                    rw [hb, ← mkB_append, mkB_data]; rfl
                                  have hne : ((s ++ (⟨#[47, 51, 50]⟩ : ByteArray)).toList == s.toList) = false := by
                                    rw [beq_eq_false_iff_ne]
                                    intro h
                                    have := congrArg List.length h
                                    rw [ByteArray.toList_eq, ByteArray.toList_eq, size_list, size_list, ByteArray.size_append] at this
                                    have e : (⟨#[47, 51, 50]⟩ : ByteArray).size = 3 := rfl
                                    omega
                                  have hne' : ((s ++ (⟨#[47, 51, 50]⟩ : ByteArray)).toList != s.toList) = true := by simp [bne, hne]
                                  rw [hts]
                                  clear hb hts hz
                                  go_wp2_with fail
                                  go_meet
                                  case rel => exact b8
                      case rest =>
                        as_aux_lemma =>
                          clear n1 n2 n3 n4 hpp hbP pq bq b4 bw4
                          obtain ⟨nP, er5, bE, hN5, hps, hbE⟩ : ∃ nP er5 bE, Nl er5 bE ∧ (∀ w', Calls Tryd.prog 13 #[.string s] w' fun e w'' => e = .returned (.tuple #[.int .i64 nP, er5]) ∧ Below w'.heap.size w' w'') ∧ (bE = true → 0 ≤ parseL 4 0 s.data.toList ∧ nP = parseL 4 0 s.data.toList) := by
                            have hp : ∀ w', Calls Tryd.prog 13 #[.string s] w' fun z w'' => z = .returned (parR (parseL 4 0 s.data.toList)) ∧ Below w'.heap.size w' w'' := by
                              intro w'
                              have := parse_any s.data.toList w' (by rw [size_list]; omega)
                              rw [mkB_data] at this
                              exact this.mono fun e w'' h => ⟨h.1, h.2.below _⟩
                            by_cases hz : 0 ≤ parseL 4 0 s.data.toList
                            · rw [parR_ok hz] at hp
                              exact ⟨_, _, true, nl_nil, hp, fun _ => ⟨hz, rfl⟩⟩
                            · have e : parR (parseL 4 0 s.data.toList) = .tuple #[.int .i64 0, .iface 46 (.int .i64 2)] := by unfold parR; rw [if_neg hz]
                              rw [e] at hp
                              exact ⟨_, _, false, nl_errno 2, hp, fun h => by cases h⟩
                          obtain ⟨n1, n2, n3, n4⟩ := hN5
                          go_upto_if 278 with (go_at_call 13; refine (hps _).mono ?_; rintro e w9 ⟨rfl, b9⟩)
                          as_aux_lemma =>
                            have bw9 : Below w.heap.size w w9 := hcut.trans (b9.mono hcut.size)
                            cases bE
                            · as_aux_lemma =>
                                clear hbE
                                go_wp2_with fail
                                go_ret
                                exact ⟨rfl, bw9⟩
                            · as_aux_lemma =>
                                obtain ⟨hz, hnP⟩ := hbE rfl
                                obtain ⟨hle, hsh⟩ := parse_back hz
                                rw [← hnP] at hle hsh hz
                                have hpr := fun w ht => print_ok nP w (isAddr_yes hz hle) ht
                                rw [hsh, mkB_data] at hpr
                                have ht9 := ht.below bw9
                                clear hbE hps hnP hsh n1 n2 n3 n4
                                go_wp2_with (go_at_call 14; refine (hpr _ ht9).mono ?_; rintro e w10 ⟨rfl, b10⟩)
                                go_ret
                                exact ⟨by simp, bw9.trans (b10.mono bw9.size)⟩
end Go.Proofs.YtkjjalaelehjeabDoor
