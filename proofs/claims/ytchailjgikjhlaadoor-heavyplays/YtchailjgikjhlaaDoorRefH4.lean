/- What Add of the reference's counts returns, and leaves: no room; and whatever is added. -/
import Derived.Test.YtchailjgikjhlaaDoorRefH3
namespace Go.Proofs.YtchailjgikjhlaaDoor
open Go.RowKit Go.Maps
set_option linter.unusedVariables false

theorem addS_eq' {h : Hv} {k many : Int} (hE : addE h many = 0) : addS h k many = addG h k many := by unfold addS; rw [if_pos hE]
theorem LsQ.step {many u : Int} {k : Nat} {l : Cs} (h : LsQ many u k l) (hk : k < l.length) : LsQ many (if l[k].2 < u then l[k].2 else u) (k + 1) l := by
  obtain ⟨h1, h2, h3⟩ := h
  refine ⟨by split <;> omega, fun q hq hqk => ?_, ?_⟩
  · rcases Nat.lt_or_ge q k with e | e
    · have := h2 q hq e
      split <;> omega
    · have : q = k := by omega
      subst this
      split <;> omega
  · split
    · exact Or.inr ⟨_, List.getElem_mem hk, rfl⟩
    · exact h3
set_option maxRecDepth 100000 in
set_option maxHeartbeats 32000000 in
theorem radd_full (base b : Nat) (h : Hv) (v : Value) (key many : Int) (w : World) (k : RfAt w base b h v) (ok : HvOk h) (hb : base ≤ w.heap.size) (hE : addE h many = 0) (hg : ¬ 0 < getC h.l key) (hr : ¬ (h.l.length : Int) < h.n) :
    Calls Tryd.prog 7 #[.pointer (some ⟨b, 0, none⟩), .int .i64 key, .int .i64 many] w fun e w' => e = .returned (.int .i64 0) ∧ RfP w base b v (addG h key many) w' := by
  obtain ⟨h1, h2, h3⟩ := addE_ok hE
  clear hE
  have HNO := hidE (getC_zero ok.po hg)
  have HRM : Hid (roomB h key = false) := by show roomB h key = false; unfold roomB; rw [decide_eq_false hg, decide_eq_false hr]; rfl
  have l1 := least_le many h.l
  have l2 := least_pos ok.po h1
  have HLI : Hid (∀ u, LsQ many u h.l.length h.l → u = leastL many h.l) := fun u hu => least_is hu.1 (fun p hp => by
    obtain ⟨q, hq, rfl⟩ := List.getElem_of_mem hp
    exact hu.2.1 q hq hq) hu.2.2
  have HSH : Hid (leastL many h.l < many → (takeL (leastL many h.l) h.l).length < h.l.length) := fun hlt => take_short (by
    rcases least_at many h.l with e | e
    · omega
    · exact e)
  have HG0 : Hid (getC (takeL (leastL many h.l) h.l) key = 0 ∧ ∀ p ∈ takeL (leastL many h.l) h.l, p.1 ≠ key) := by
    have hq : ∀ p ∈ takeL (leastL many h.l) h.l, p.1 ≠ key := fun p hp => HNO.out (p.1, p.2 + leastL many h.l) (take_mem.1 hp).1
    exact ⟨getC_not hq, hq⟩
  obtain ⟨c0, c1, c2, c3⟩ := rf_cells k.blk
  obtain ⟨y0, y1, y2, y3⟩ := rf_frees k.blk
  have a0 := ok.all_nonneg
  have a1 := ok.al
  obtain ⟨W1, hW1, x1, o1⟩ := rf_set2 k.blk (.int .i64 (h.all + many))
  have hnb : ∀ q, v.ownBlock = some q → q ≠ b := fun q hq => by have := (OwnN.block k.own q hq).1; have := k.bb; omega
  have k1 : RfAt W1 base b { n := h.n, less := h.less, all := h.all + many, l := h.l } v := ⟨x1, OwnN.blk k.own (fun q hq => o1.block q (hnb q hq)), k.bb⟩
  have T1 : Turn (fun i => i = b ∨ v.ownBlock = some i) w W1 := Turn.of_only o1 (Or.inl rfl)
  have hll : h.l.length ≤ 1000 := by have := ok.le; have := ok.nn; omega
  have hat := rat_any base b _ v key W1 k1 hll
  try simp only at hat
  have HK := hidE k1
  have HT := hidE T1
  have HOK := hidE ok
  have hbs : base ≤ W1.heap.size := by rw [o1.size]; exact hb
  have HS1 := hidE o1.size
  have hblt := k.lt
  obtain ⟨a, c, rfl⟩ := k.at
  obtain ⟨al, hal⟩ : ∃ al, h.all = al := ⟨_, rfl⟩
  have HAL := hidE hal
  rw [hal] at c2 a0 a1 hW1 h3
  clear k k1 T1 x1 o1 hal ok y0 y1 y3 c0 c1 c3
  go_enter Tryd.func7, Tryd.ntmps7
  go_upto_region 6 with fail
  try rw [hW1]
  clear hW1 c2 y2
  refine wp_loop_rounds 2 ?_
  rw [rounds_succ]
  go_upto_region 8 with (go_at_call 20; go_must (refine hat.mono ?_; rintro e W2 ⟨⟨j, rfl, hj⟩, hW2⟩; rw [hW2]; clear hW2 W2))
  rcases hj with ⟨rfl, _⟩ | ⟨i, hi, _, hik⟩
  rotate_left
  · exact absurd hik (HNO.out _ (List.getElem_mem hi))
  go_upto_region 11 with fail
  obtain ⟨c0, c1, c2, c3⟩ := rf_cells HK.out.blk
  have c0 := Ext.cell c0
  have c3 := Ext.cell c3
  refine wp_region_ext (by kernel_rfl) (by kernel_rfl) ?_
  repeat (go_big_quiet_step (fail))
  refine wpQuiet_nil ?_
  rintro _ ⟨u, rfl⟩
  have kU := HK.out.below u.h
  have HKU := hidE kU
  have HTU := hidE (HT.out.trans (Turn.of_below u.h _))
  have hbu : base ≤ u.W.heap.size := Nat.le_trans hbs u.h.size
  have hsu : w.heap.size ≤ u.W.heap.size := by have := HS1.out; have := u.h.size; omega
  obtain ⟨W3, hW3⟩ : ∃ X9, u.W = X9 := ⟨_, rfl⟩
  rw [hW3] at HKU HTU hbu hsu
  rw [hW3]
  obtain ⟨_, _, _, r3⟩ := rf_cells HKU.out.blk
  clear hW3 c0 c1 c2 c3 kU u hat
  have HROW := hidE HKU.out.row
  try simp only at HROW
  obtain ⟨l, hle⟩ : ∃ l, h.l = l := ⟨_, rfl⟩
  have HLE := hidE hle
  rw [hle] at HLI HSH HG0 HNO l1 l2 hr HROW
  have hll' : l.length ≤ 1000 := by rw [← hle]; exact hll
  have HP : Hid (PosC l ∧ sumC l ≤ 1099511627776) := by rw [← hle]; exact ⟨HOK.out.po, HOK.out.sum_le⟩
  simp only [hle] at r3 ⊢
  go_upto_block 2 with fail
  go_cut [8, 9] (fun v8 v9 wx => v8 = .int .i64 (leastL many l) ∧ wx = W3)
  case first =>
    go_wp2_with fail
    go_loopw [8, 9] (fun v8 v9 wr => ∃ (q : Nat) (x : Int), v8 = .int .i64 x ∧ v9 = .int .i64 (q : Int) ∧ q ≤ l.length ∧ wr = W3 ∧ Hid (LsQ many x q l)) (fun _ v9 _ => ((l.length : Int) - intOf v9).toNat)
    case atStart => exact ⟨0, many, rfl, rfl, Nat.zero_le _, rfl, Int.le_refl _, (fun q _ h => by omega), Or.inl rfl⟩
    case round =>
      obtain ⟨q, x, rfl, rfl, hq, rfl, HL⟩ := hrel
      by_cases hlt : q < l.length
      · have hq1 : (q : Int) < (l.length : Int) := by omega
        obtain ⟨g, cap, e, g1, g2, g3, g4, hc⟩ := HROW.out (by omega)
        simp only [Value.slice.injEq, true_and] at e
        obtain ⟨rfl, rfl⟩ := e
        obtain ⟨_, d1, _⟩ := hc q hlt
        have HST := hidE (HL.out.step hlt)
        obtain ⟨lm, hlm⟩ : ∃ z, l[q].2 = z := ⟨_, rfl⟩
        rw [hlm] at d1 HST
        clear hc hlm
        by_cases hx : lm < x
        · rw [if_pos hx] at HST
          go_wp2_with fail
          go_roundw
          case rel => exact ⟨q + 1, _, rfl, by simp, by omega, trivial, HST⟩
          case measure => simp only [intOf]; omega
        · rw [if_neg hx] at HST
          go_wp2_with fail
          go_roundw
          case rel => exact ⟨q + 1, _, rfl, by simp, by omega, trivial, HST⟩
          case measure => simp only [intOf]; omega
      · have hq1 : ¬ (q : Int) < (l.length : Int) := by omega
        have eq : q = l.length := by omega
        have ex : x = leastL many l := HLI.out x (by rw [← eq]; exact HL.out)
        clear HL
        go_wp2_with fail
        go_meet
        exact ⟨rfl, rfl⟩
  case rest =>
    obtain ⟨rfl, e3⟩ := hcut
    rw [e3]
    clear e3 HLI HROW
    have htk := rtake_any base b _ _ (leastL many l) W3 HKU.out hbu (by simp only; exact hll) (by omega) (by omega) HOK.out.po (by have := HOK.out.sum_le; simp only; omega) HOK.out.ls (by have := HOK.out.less_le; simp only; omega)
    simp only [hle] at htk
    have HRES : Hid (addG h key many = { n := h.n, less := h.less + leastL many l, all := h.all + many, l := restL (takeL (leastL many l) l) key (many - leastL many l) }) := by
      show addG _ _ _ = _
      unfold addG
      rw [HRM.out, HLE.out]
      rfl
    obtain ⟨T, hT⟩ : ∃ T, takeL (leastL many l) l = T := ⟨_, rfl⟩
    have HPT : Hid (T.length ≤ 1000) := by
      rw [← hT]
      exact Nat.le_trans (take_len _ _) hll'
    have HTS : Hid (HvOk (addG h key many)) := addG_ok HOK.out key many h1 (by rw [HAL.out]; exact h3)
    rw [hT] at htk HRES HSH HG0
    clear hT hle
    generalize leastL many l = part at htk HRES HSH HG0 l1 l2
    go_upto_region 21 with (go_at_call 21; go_must (refine htk.mono ?_; rintro e W5 ⟨rfl, v5, k5, f5, t5⟩))
    have HT5 := hidE (HTU.out.trans (t5.mono (fun i _ e => Or.inl e)))
    have hb5 : base ≤ W5.heap.size := Nat.le_trans hbu t5.size
    have hs5 : w.heap.size ≤ W5.heap.size := Nat.le_trans hsu t5.size
    have HF5 : Hid (∀ q, v5.ownBlock = some q → w.heap.size ≤ q) := fun q hq => Nat.le_trans hsu (f5 q hq)
    have hat5 := rat_any base b _ v5 key W5 k5 HPT.out
    try simp only at hat5
    have HK5 := hidE k5
    obtain ⟨a5, c5, e5⟩ := k5.at
    try simp only at e5
    subst e5
    clear htk f5 t5 k5 HKU HTU r3
    by_cases hm : 0 < many - part
    · have hmm : many - part > 0 := hm
      have hlt := HSH.out (by omega)
      have hrm : (T.length : Int) < h.n := by
        have := HOK.out.le
        have e := HLE.out
        rw [e] at this
        omega
      go_wp2_with fail
      rw [rounds_succ]
      go_upto_region 8 with (go_at_call 20; go_must (refine hat5.mono ?_; rintro e W2 ⟨⟨j, rfl, hj⟩, hW2⟩; rw [hW2]; clear hW2 W2))
      rcases hj with ⟨rfl, _⟩ | ⟨i, hi, _, hik⟩
      rotate_left
      · exact absurd hik (HG0.out.2 _ (List.getElem_mem hi))
      go_upto_region 11 with fail
      obtain ⟨c0, c1, c2, c3⟩ := rf_cells HK5.out.blk
      have c0 := Ext.cell c0
      have c3 := Ext.cell c3
      try simp only at c0
      refine wp_region_ext (by kernel_rfl) (by kernel_rfl) ?_
      repeat (go_big_quiet_step (fail))
      refine wpQuiet_nil ?_
      rintro _ ⟨u, rfl⟩
      have kU := HK5.out.below u.h
      have HKU := hidE kU
      have HTU := hidE (HT5.out.trans (Turn.of_below u.h _))
      have hbu' : base ≤ u.W.heap.size := Nat.le_trans hb5 u.h.size
      have hsu' : w.heap.size ≤ u.W.heap.size := Nat.le_trans hs5 u.h.size
      have hownU : OwnCt u.W base (.slice a5 T.length c5) (T.map (ctOf 0)) := kU.own
      obtain ⟨W3', hW3⟩ : ∃ X9, u.W = X9 := ⟨_, rfl⟩
      rw [hW3] at HKU HTU hbu' hsu' hownU
      rw [hW3]
      obtain ⟨_, _, _, r3⟩ := rf_cells HKU.out.blk
      obtain ⟨_, _, _, z3⟩ := rf_frees HKU.out.blk
      have hlen : (T.map (ctOf 0)).length ≤ 1000 := by rw [List.length_map]; exact HPT.out
      clear hW3 c0 c1 c2 c3 kU u hat5
      go_upto_region 12 with fail
      go_upto_region 13 with (first
        | (at_builtin; refine wpList_append_ctw rfl (.tmp 70) (.tmp 74) rfl base (.slice a5 T.length c5) _ rfl hownU { key := key, many := many - part, less := 0 } rfl (by omega) hbu' ?_; intro v6 W6 hown6 hg6 hob6; obtain ⟨a6, c6, e6⟩ := OwnN.len hown6; simp only [List.length_append, List.length_map, List.length_cons, List.length_nil, Nat.zero_add] at e6; subst e6; have hfb6 : W6.frozen? ⟨b, 3, none⟩ = false := rf_fb (HKU.out.blk) hownU HKU.out.bb hg6; have hcb6 : W6.cell? ⟨b, 3, none⟩ = some (.slice a5 T.length c5) := rf_cb (HKU.out.blk) hownU HKU.out.bb hg6)
        | go_in)
      have x6 := rf_same HKU.out.blk hownU HKU.out.bb hg6
      obtain ⟨W7, hW7, x7, o7⟩ := rf_set3 x6 (.slice a6 (T.length + 1) c6)
      have HFIN : Hid (RfP w base b (.slice a h.l.length c) (addG h key many) W7) := by
        have T6 : Turn (fun i => i = b ∨ (Value.slice a h.l.length c).ownBlock = some i) w W6 := by
          have tA : Turn (fun i => (Value.slice a5 T.length c5).ownBlock = some i) W3' W6 := (Turn.of_below ((Below.refl _ _).alloc (Nat.le_refl _) _) _).trans (Turn.of_grown hg6 (fun q e => e))
          exact HTU.out.andThen tA (fun i e => Or.inr (HF5.out i e))
        refine ⟨⟨{ n := h.n, less := h.less + part, all := h.all + many, l := T ++ [(key, many - part)] }, _, ⟨x7, ?_, HKU.out.bb⟩, ?_, ?_⟩, T6.trans (Turn.of_only o7 (Or.inl rfl))⟩
        · rw [List.map_append]
          exact OwnN.blk hown6 (fun q hq => o7.block q (fun e => by have := (OwnN.block hown6 q hq).1; have := HKU.out.bb; omega))
        · rw [HRES.out]
          refine ⟨rfl, rfl, rfl, ?_⟩
          unfold restL
          rw [if_pos hm, HG0.out.1, Int.zero_add]
          exact snoc_put HG0.out.2
        · refine .inr (fun q hq => ?_)
          rcases hob6 with e | e
          · rw [e] at hq
            exact HF5.out q hq
          · rw [e] at hq
            injection hq with hq
            omega
      clear hown6 hg6 hob6 x6 x7 o7 hownU hfb6 hcb6 r3 z3
      try rw [hW7]
      clear hW7
      go_wp2_with fail
      go_ret
      exact ⟨rfl, HFIN.out⟩
    · have hmm : ¬ many - part > 0 := hm
      have HFIN : Hid (RfP w base b (.slice a h.l.length c) (addG h key many) W5) := by
        refine ⟨⟨_, _, HK5.out, ?_, .inr HF5.out⟩, HT5.out⟩
        rw [HRES.out]
        refine ⟨rfl, rfl, rfl, ?_⟩
        unfold restL
        rw [if_neg hm]
      go_wp2_with fail
      rw [rounds_succ]
      go_wp2_with fail
      go_ret
      exact ⟨rfl, HFIN.out⟩
theorem radd_any (base b : Nat) (h : Hv) (v : Value) (key many : Int) (w : World) (k : RfAt w base b h v) (ok : HvOk h) (hb : base ≤ w.heap.size) :
    Calls Tryd.prog 7 #[.pointer (some ⟨b, 0, none⟩), .int .i64 key, .int .i64 many] w fun e w' => e = .returned (.int .i64 (addE h many)) ∧ RfP w base b v (addS h key many) w' := by
  by_cases hE : addE h many = 0
  · rw [addS_eq' hE, hE]
    by_cases hg : 0 < getC h.l key
    · exact radd_found base b h v key many w k ok hb hE hg
    · by_cases hr : (h.l.length : Int) < h.n
      · exact radd_room base b h v key many w k ok hb hE hg hr
      · exact radd_full base b h v key many w k ok hb hE hg hr
  · refine (radd_bad base b h v key many w k ok hE).mono ?_
    rintro e w' ⟨h1, rfl⟩
    refine ⟨h1, ⟨h, v, k, ?_, .inl rfl⟩, Turn.refl _ _⟩
    unfold addS
    rw [if_neg hE]
    exact SameH.refl _
end Go.Proofs.YtchailjgikjhlaaDoor
