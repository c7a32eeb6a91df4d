/- HeavyTop: the law's walk. -/
import Derived.Test.YtchailjgikjhlaaHvPre
import Derived.Test.YtchailjgikjhlaaOpenSw
import Derived.Deep.LoopGhost
import Derived.Deep.CutBlock
namespace Go.Proofs.Ytchailjgikjhlaa
open Go.RowKit Go.Maps
set_option linter.unusedVariables false

/-- Where the law stands while it adds. -/
structure TpS (w : World) (n : Int) (h : Hv) (X : World) : Prop where
  hv : HvAt X (w.heap.size + 1) w.heap.size h
  ok : HvOk h
  nn : h.n = n
  wf : WfL h.l
  bel : Below w.heap.size w X
theorem TpS.add {w X X' : World} {n : Int} {h : Hv} {key many : Int} (k : TpS w n h X) (hk : WfK key) (h1 : HvAt X' (w.heap.size + 1) w.heap.size (addS h key many)) (t : Turn (fun i => i = w.heap.size + 1 ∨ i = w.heap.size) X X') : TpS w n (addS h key many) X' :=
  ⟨h1, k.ok.add key many, (addS_n _ _ _).trans k.nn, wfl_add k.wf hk many, t.below k.bel k.bel.size (fun i hi => by rcases hi with rfl | rfl <;> omega)⟩
theorem TpS.below {w X X' : World} {n : Int} {h : Hv} (k : TpS w n h X) (hb : Below X.heap.size X X') : TpS w n h X' := ⟨k.hv.below hb, k.ok, k.nn, k.wf, k.bel.trans (hb.mono k.bel.size)⟩
set_option maxRecDepth 100000 in
set_option maxHeartbeats 16000000 in
theorem htop_early (n : Int) (v : Value) (l : List Sp) (many : Int) (w : World) (hn : numB n = false) :
    Calls Try.prog 4 #[.int .i64 n, v, .int .i64 many] w fun e w' => e = .returned (.bool true) ∧ Below w.heap.size w w' := by
  have hc := hnew_bad n w hn
  have hB : Below w.heap.size w w := Below.refl _ _
  by_cases h1 : n < 1
  · clear hn
    go_enter Try.func4, Try.ntmps4
    go_wp2_with (go_at_call 5; go_must (refine hc.mono ?_; rintro e W3 ⟨rfl, hW3⟩; rw [hW3]; clear hW3 W3))
    go_ret
    exact ⟨rfl, hB⟩
  · have h2 : 20 < n := by unfold numB at hn; simp at hn; omega
    clear hn
    go_enter Try.func4, Try.ntmps4
    go_wp2_with (go_at_call 5; go_must (refine hc.mono ?_; rintro e W3 ⟨rfl, hW3⟩; rw [hW3]; clear hW3 W3))
    go_ret
    exact ⟨rfl, hB⟩
theorem Cts.len {w : World} {v : Value} {qs : List Ct} (h : Cts w v qs) : ∃ a c, v = .slice a qs.length c := by
  rcases h with ⟨rfl, rfl⟩ | ⟨b, len, cap, rfl, _, _, rfl, _⟩
  · exact ⟨_, _, rfl⟩
  · exact ⟨_, _, rfl⟩
theorem Cts.below {w w' : World} {v : Value} {qs : List Ct} (h : Cts w v qs) (hb : Below w.heap.size w w') : Cts w' v qs := by
  rcases h with h | ⟨b, len, cap, h1, h2, h3, h4, h5, h6⟩
  · exact .inl h
  · exact .inr ⟨b, len, cap, h1, h2, h3, h4, Nat.lt_of_lt_of_le h5 hb.size, fun i hi => ⟨(hb.cell (p := ⟨b, i * 3 + 0, none⟩) h5).trans (h6 i hi).1, (hb.cell (p := ⟨b, i * 3 + 1, none⟩) h5).trans (h6 i hi).2.1, (hb.cell (p := ⟨b, i * 3 + 2, none⟩) h5).trans (h6 i hi).2.2⟩⟩
theorem Cts.at {w : World} {v : Value} {qs : List Ct} (h : Cts w v qs) (hz : 0 < qs.length) : ∃ g c, v = .slice (some ⟨g, 0, none⟩) qs.length c ∧ qs.length ≤ c ∧ c ≤ maxLen ∧ ∀ i (hi : i < qs.length), w.cell? ⟨g, i * 3, none⟩ = some (.int .i64 qs[i].key) ∧ w.cell? ⟨g, i * 3 + 1, none⟩ = some (.int .i64 qs[i].many) ∧ w.cell? ⟨g, i * 3 + 2, none⟩ = some (.int .i64 qs[i].less) := by
  rcases h with ⟨rfl, rfl⟩ | ⟨b, len, cap, rfl, h2, h3, rfl, h5, h6⟩
  · simp at hz
  · exact ⟨b, cap, rfl, h2, h3, fun i hi => h6 i hi⟩
set_option maxRecDepth 100000 in
set_option maxHeartbeats 32000000 in
theorem htop_any (n : Int) (v : Value) (l : List Sp) (many : Int) (w : World) (hn : numB n = true) (hv : Spns w v l) (hl : l.length ≤ 140737488355328) (hwf : ∀ p ∈ l, SpWf p) :
    Calls Try.prog 4 #[.int .i64 n, v, .int .i64 many] w fun e w' => e = .returned (.bool true) ∧ Below w.heap.size w w' := by
  have hc := hnew_ok n w hn
  have hn1 : 1 ≤ n := by unfold numB at hn; simp at hn; omega
  have hn2 : n ≤ 20 := by unfold numB at hn; simp at hn; omega
  obtain ⟨av, cv, rfl⟩ := hv.len
  have HV := hidE hv
  have HWF := hidE hwf
  have HSH : Hid (∀ i, i < l.length → ∃ g off, av = some ⟨g, off, none⟩ ∧ g < w.heap.size ∧ ∀ j (h : j < l.length), SpC w g (off + j * 2) l[j]) := fun i hi => by
    obtain ⟨g, off, h1, h2, _, _, h3⟩ := hv.shape (by omega)
    exact ⟨g, off, h1, h2, h3⟩
  clear hv hwf hn
  go_enter Try.func4, Try.ntmps4
  go_upto_region 4 with (go_at_call 5; go_must (refine hc.mono ?_; rintro e W1 ⟨rfl, k1, b1, s1⟩))
  have HT1 : Hid (∃ h, TpS w n h W1) := ⟨_, k1, HvOk.new ⟨hn1, hn2⟩, rfl, (fun p hp => nomatch hp), b1⟩
  clear k1 b1 s1 hc
  go_upto_block 0 with fail
  go_cut [9] (fun v9 wr => Hid (∃ h, TpS w n h wr))
  case first =>
    go_wp2_with fail
    go_loopw [9] (fun v9 wr => ∃ i : Nat, v9 = .int .i64 (i : Int) ∧ i ≤ 60 ∧ Hid (∃ h, TpS w n h wr)) (fun v9 _ => (100 - intOf v9).toNat)
    case atStart => exact ⟨0, rfl, by omega, HT1⟩
    case round =>
      clear HT1
      obtain ⟨i, rfl, hi60, HT⟩ := hrel
      by_cases hi : i < l.length ∧ i < 60
      · have hi1 : (i : Int) < (l.length : Int) := by omega
        have hi2 : (i : Int) < 60 := by omega
        obtain ⟨h, hS⟩ := HT.out
        obtain ⟨g, off, rfl, hg, hcells⟩ := HSH.out i hi.1
        obtain ⟨c0, c1⟩ := hcells i hi.1
        have c0 := (hS.bel.cell (p := ⟨g, off + i * 2, none⟩) hg).trans c0
        have c1 := (hS.bel.cell (p := ⟨g, off + i * 2 + 1, none⟩) hg).trans c1
        have hwk := HWF.out _ (List.getElem_mem hi.1)
        obtain ⟨key, hkey⟩ : ∃ key, (l[i]'hi.1).1 = key := ⟨_, rfl⟩
        obtain ⟨mn, hmn⟩ : ∃ mn, (l[i]'hi.1).2 = mn := ⟨_, rfl⟩
        have HK : Hid (WfK key) := by rw [← hkey]; exact wfOf hwk.1
        rw [hkey] at c0
        rw [hmn] at c1
        clear hwk hcells hkey hmn hg
        go_upto_region 7 with fail
        have HS := hidE hS
        have hadd := add_any (w.heap.size + 1) w.heap.size h key mn wr.drew (hS.hv.keep rfl rfl) hS.ok HK.out
        clear hS
        go_region_with (go_at_call 6; refine hadd.mono ?_; rintro e W2 ⟨rfl, k2, t2⟩)
        all_goals
          have HT2 : Hid (∃ h, TpS w n h W2) := ⟨_, HS.out.add HK.out k2 (Turn.drewN' t2)⟩
          clear k2 t2 hadd c0 c1
          go_wp2_with fail
          go_roundw
          case rel => exact ⟨i + 1, by simp, by omega, HT2⟩
          case measure => simp only [intOf]; omega
      · rcases (by omega : (¬ (i : Int) < (l.length : Int)) ∨ ((i : Int) < (l.length : Int) ∧ ¬ (i : Int) < 60)) with hd | ⟨hd, hd2⟩
        · clear hi
          go_wp2_with fail
          go_meet
          exact HT
        · clear hi
          go_wp2_with fail
          go_meet
          exact HT
  case rest =>
    obtain ⟨h, hS⟩ := hcut.out
    clear hcut HSH HWF HV HT1
    have hlen : h.l.length ≤ 1000 := by have := hS.ok.le; have := hS.ok.nn; omega
    have HS := hidE hS
    have HLN := hidE hlen
    have htop := top_ok (w.heap.size + 1) w.heap.size h 20 _ hS.hv hlen rfl
    have hq : (((20 : Nat) : Int)) = 20 := rfl
    rw [hq] at htop
    clear hS hlen hq
    go_upto_region 9 with (go_at_call 10; go_must (refine htop.mono ?_; rintro e W2 ⟨v2, qs, rfl, q1, q2, q3, q4⟩))
    have hS2 := HS.out.below q4
    have hql : qs.length = h.l.length := by rw [q2.length_eq, List.length_map]
    have hqn : ¬ (n < (qs.length : Int)) := by have := hS2.ok.le; have := hS2.nn; omega
    rw [List.take_of_length_le (by omega)] at q1
    have HS2 := hidE hS2
    have HQ2 := hidE q2
    have HQ3 := hidE q3
    have HB2 := hidE hS2.bel
    clear htop q2 q3 q4 hql HS
    obtain ⟨a2, c2, rfl⟩ := q1.len
    have HC2 := hidE q1
    clear q1
    cases hm : numB many
    · have ht2 := top_bad (w.heap.size + 1) many W2 hm
      rcases (by unfold numB at hm; simp at hm; omega : many < 1 ∨ (¬ many < 1 ∧ 20 < many)) with h1 | ⟨h1, h2⟩
      · clear hm hS2
        go_wp2_with (go_at_call 10; go_must (refine ht2.mono ?_; rintro e W3 ⟨rfl, hW3⟩; rw [hW3]; clear hW3 W3))
        go_ret
        exact ⟨rfl, HB2.out⟩
      · clear hm hS2
        go_wp2_with (go_at_call 10; go_must (refine ht2.mono ?_; rintro e W3 ⟨rfl, hW3⟩; rw [hW3]; clear hW3 W3))
        go_ret
        exact ⟨rfl, HB2.out⟩
    · have hm1 : 1 ≤ many := by unfold numB at hm; simp at hm; omega
      have hm2 : many ≤ 20 := by unfold numB at hm; simp at hm; omega
      obtain ⟨k, rfl⟩ : ∃ k : Nat, many = (k : Int) := ⟨many.toNat, by omega⟩
      have ht2 := top_ok (w.heap.size + 1) w.heap.size h k W2 hS2.hv HLN.out hm
      clear hm hS2
      go_upto_region 10 with (go_at_call 10; go_must (refine ht2.mono ?_; rintro e W3 ⟨v3, qs', rfl, r1, r2, r3, r4⟩))
      obtain rfl : qs = qs' := rk_one HS2.out.ok.ap HQ2.out HQ3.out r2 r3
      have HS3 := hidE (HS2.out.below r4)
      have HC3 := hidE (HC2.out.below r4)
      have HD3 := hidE r1
      have HB3 := hidE ((HS2.out.below r4).bel)
      obtain ⟨a3, c3, rfl⟩ := r1.len
      have hlt : (qs.take k).length = min k qs.length := List.length_take
      obtain ⟨L, hL⟩ : ∃ L, (qs.take k).length = L := ⟨_, rfl⟩
      have hLL : L = min k qs.length := by rw [← hL, hlt]
      have HL := hidE hL
      rw [hL]
      clear r1 r2 r3 r4 ht2 HS2 HC2 HB2 hlt hL
      have hcap2 : c2 ≤ maxLen ∨ qs.length = 0 := by
        rcases HC3.out with ⟨h0, _⟩ | ⟨b, len, cap, e, h1, h2, _⟩
        · right; rw [h0]; rfl
        · left; simp only [Value.slice.injEq] at e; rw [e.2.2]; exact h2
      clear hcap2
      rcases Nat.lt_or_ge qs.length k with hk | hk
      · have e1 : L = qs.length := by omega
        subst e1
        have hk' : (qs.length : Int) < (k : Int) := by omega
        clear hLL
        go_upto_region 20 with fail
        go_loopw [15] (fun v15 wr => ∃ j : Nat, v15 = .int .i64 (j : Int) ∧ j ≤ qs.length ∧ Hid (Below W3.heap.size W3 wr)) (fun v15 _ => ((qs.length : Int) - intOf v15).toNat)
        case atStart => exact ⟨0, rfl, Nat.zero_le _, Below.refl _ _⟩
        case round =>
          obtain ⟨j, rfl, hj, HB⟩ := hrel
          by_cases hjl : j < qs.length
          · have hj1 : (j : Int) < (qs.length : Int) := by omega
            have hS := HS3.out.below HB.out
            have hjq : j < qs.length := by omega
            have hjt : j < (qs.take k).length := by rw [HL.out]; exact hjl
            have hj2 : (j : Int) < (qs.length : Int) := by omega
            obtain ⟨g2, cc2, e2, l2, m2, hc2⟩ := (HC3.out.below HB.out).at (by omega)
            obtain ⟨g3, cc3, e3, l3, m3, hc3⟩ := (HD3.out.below HB.out).at (by omega)
            simp only [Value.slice.injEq, true_and] at e2 e3
            obtain ⟨rfl, rfl⟩ := e2
            obtain ⟨rfl, rfl⟩ := e3
            obtain ⟨x0, x1, x2⟩ := hc2 j hjq
            obtain ⟨y0, y1, y2⟩ := hc3 j hjt
            rw [List.getElem_take] at y0 y1 y2
            obtain ⟨hmem, hless⟩ := rk_mem HQ2.out (List.getElem_mem hjq)
            have hget := getC_mem hS.ok.ap hmem
            have hpos := hS.ok.po _ hmem
            have hwk := hS.wf _ hmem
            simp only at hpos hwk
            have hcnt : ∀ u : Ext wr, Calls Try.prog 7 #[.pointer (some ⟨w.heap.size + 1, 0, none⟩), .int .i64 qs[j].key] u.W fun e w' => e = .returned (.agg #[.int .i64 qs[j].key, .int .i64 qs[j].many, .int .i64 qs[j].less]) ∧ ∃ u' : Ext wr, w' = u'.W := fun u => (count_any _ _ h qs[j].key u.W (hS.hv.below u.h) hwk).mono fun e w' ⟨he, hb⟩ => ⟨by rw [he, hget, hless]; rfl, ⟨w', u.h.trans (hb.mono u.h.size)⟩, rfl⟩
            have hneq : ∀ u : Ext wr, (binOp .neq 30 (.agg #[.int .i64 qs[j].key, .int .i64 qs[j].many, .int .i64 qs[j].less]) (.agg #[.int .i64 qs[j].key, .int .i64 qs[j].many, .int .i64 qs[j].less])).run Try.prog u.W = .ok (.bool false) u.W := fun u => Try.cntNeq _ _ _ _
            have HPREV : Hid (∀ p, j = p + 1 → ∃ hp : p < qs.length, ∃ hp2 : p < (qs.take k).length, qs[j].many ≤ qs[p].many ∧ (qs[p].many = qs[j].many → qs[p].key < qs[j].key) ∧ (qs.take k)[p] = qs[p]) := fun p hp => by
              have hp' : p < qs.length := by omega
              refine ⟨hp', by omega, ?_⟩
              have hlt := List.pairwise_iff_getElem.1 (rk_strict hS.ok.ap HQ2.out HQ3.out) p j hp' hjq (by omega)
              unfold LtC at hlt
              exact ⟨by omega, fun e => by omega, List.getElem_take⟩
            have HC3' := hidE (fun p (hp : p < (qs.take k).length) => hc3 p hp)
            have x0 := Ext.cell x0
            have x1 := Ext.cell x1
            have x2 := Ext.cell x2
            have y0' := Ext.cell y0
            have y1' := Ext.cell y1
            have y2' := Ext.cell y2
            have hsz : ((qs.take k).length : Int) = (qs.length : Int) := by rw [HL.out]
            obtain ⟨ck, hck⟩ : ∃ z, qs[j].key = z := ⟨_, rfl⟩
            obtain ⟨cm, hcm⟩ : ∃ z, qs[j].many = z := ⟨_, rfl⟩
            obtain ⟨cl, hcl⟩ : ∃ z, qs[j].less = z := ⟨_, rfl⟩
            rw [hck, hcm, hcl] at hcnt hneq
            rw [hck] at x0 y0' y0
            rw [hcm] at x1 y1' y1 hpos
            rw [hcl] at x2 y2'
            have hd1 : decide (cm < 1) = false := decide_eq_false (by omega)
            rw [hck, hcm] at HPREV
            clear hc2 hc3 hmem hless hget hwk hck hcm hcl hS y2 hsz
            go_upto_region 22 with fail
            refine wp_region_ext (by kernel_rfl) (by kernel_rfl) ?_
            repeat (go_big_quiet_step ((go_at_call 7; exact hcnt _)))
            refine wpQuiet_nil ?_
            rintro _ ⟨u, rfl⟩
            have HB5 := hidE (HB.out.trans (u.h.mono HB.out.size))
            have y0 := y0' u
            have y1 := y1' u
            obtain ⟨W5, hW5⟩ : ∃ X9, u.W = X9 := ⟨_, rfl⟩
            have HX5 := hidE (fun p (hp : p < (qs.take k).length) => (⟨(u.h.cell (p := ⟨g3, p * 3, none⟩) (by have := (Ext.cell (w := wr) (HC3'.out p hp).1); exact cell_ltS (HC3'.out p hp).1)).trans (HC3'.out p hp).1, (u.h.cell (p := ⟨g3, p * 3 + 1, none⟩) (cell_ltS (HC3'.out p hp).1)).trans (HC3'.out p hp).2.1⟩ : u.W.cell? ⟨g3, p * 3, none⟩ = some (.int .i64 (qs.take k)[p].key) ∧ u.W.cell? ⟨g3, p * 3 + 1, none⟩ = some (.int .i64 (qs.take k)[p].many)))
            rw [hW5] at HB5 y0 y1 HX5
            rw [hW5]
            clear hW5 hcnt hneq x0 x1 x2 y0' y1' y2' HC3' u hd1
            rcases (Nat.eq_zero_or_eq_succ_pred j).imp_right (fun e => (⟨_, e⟩ : ∃ p, j = p + 1)) with rfl | ⟨p, rfl⟩
            · have hz : decide (((0 : Nat) : Int) > 0) = false := by decide
              go_upto_region 24 with fail
              refine wp_region_ext (by kernel_rfl) (by kernel_rfl) ?_
              repeat (go_big_quiet_step (fail))
              refine wpQuiet_nil ?_
              rintro _ ⟨u, rfl⟩
              have HB6 := hidE (HB5.out.trans (u.h.mono HB5.out.size))
              obtain ⟨W6, hW6⟩ : ∃ X9, u.W = X9 := ⟨_, rfl⟩
              rw [hW6] at HB6
              rw [hW6]
              clear hW6 u HX5 HPREV y0 y1
              go_wp2_with fail
              go_roundw
              case rel => exact ⟨1, rfl, by omega, HB6⟩
              case measure => simp only [intOf]; omega
            · obtain ⟨hp, hp2, hge, heq, het⟩ := HPREV.out p rfl
              obtain ⟨z0, z1⟩ := HX5.out p hp2
              rw [het] at z0 z1
              have y0 := Ext.cell y0
              have y1 := Ext.cell y1
              have z0 := Ext.cell z0
              have z1 := Ext.cell z1
              obtain ⟨pk, hpk⟩ : ∃ z, qs[p].key = z := ⟨_, rfl⟩
              obtain ⟨pm, hpm⟩ : ∃ z, qs[p].many = z := ⟨_, rfl⟩
              rw [hpk] at z0 heq
              rw [hpm] at z1 heq hge
              have hz : (((p + 1 : Nat) : Int) > 0) := by omega
              have hsub : ((p + 1 : Nat) : Int) - 1 = (p : Int) := by omega
              have hp1 : (p : Int) < (qs.length : Int) := by omega
              have hd2 : decide (pm < cm) = false := decide_eq_false (by omega)
              by_cases he : pm = cm
              · have hlt := heq he
                have hd3 : decide (pk ≥ ck) = false := decide_eq_false (by omega)
                subst he
                clear heq hpk hpm het hge
                go_upto_region 24 with fail
                refine wp_region_ext (by kernel_rfl) (by kernel_rfl) ?_
                repeat (go_big_quiet_step (fail))
                refine wpQuiet_nil ?_
                rintro _ ⟨u, rfl⟩
                have HB6 := hidE (HB5.out.trans (u.h.mono HB5.out.size))
                obtain ⟨W6, hW6⟩ : ∃ X9, u.W = X9 := ⟨_, rfl⟩
                rw [hW6] at HB6
                rw [hW6]
                clear hW6 u HX5 HPREV y0 y1 z0 z1
                go_wp2_with fail
                go_roundw
                case rel => exact ⟨p + 1 + 1, by simp, by omega, HB6⟩
                case measure => simp only [intOf]; omega
              · have hd3 : (pm == cm) = false := by simpa using he
                clear heq hpk hpm het hge
                go_upto_region 24 with fail
                refine wp_region_ext (by kernel_rfl) (by kernel_rfl) ?_
                repeat (go_big_quiet_step (fail))
                refine wpQuiet_nil ?_
                rintro _ ⟨u, rfl⟩
                have HB6 := hidE (HB5.out.trans (u.h.mono HB5.out.size))
                obtain ⟨W6, hW6⟩ : ∃ X9, u.W = X9 := ⟨_, rfl⟩
                rw [hW6] at HB6
                rw [hW6]
                clear hW6 u HX5 HPREV y0 y1 z0 z1
                go_wp2_with fail
                go_roundw
                case rel => exact ⟨p + 1 + 1, by simp, by omega, HB6⟩
                case measure => simp only [intOf]; omega
          · have hjn : ¬ (j : Int) < (qs.length : Int) := by omega
            have HF := hidE (HB3.out.trans (HB.out.mono HB3.out.size))
            go_wp2_with fail
            go_ret
            exact ⟨rfl, HF.out⟩
      · have e1 : L = k := by omega
        subst e1
        have hk' : ¬ (qs.length : Int) < (L : Int) := by omega
        clear hLL
        go_upto_region 20 with fail
        go_loopw [15] (fun v15 wr => ∃ j : Nat, v15 = .int .i64 (j : Int) ∧ j ≤ L ∧ Hid (Below W3.heap.size W3 wr)) (fun v15 _ => ((L : Int) - intOf v15).toNat)
        case atStart => exact ⟨0, rfl, Nat.zero_le _, Below.refl _ _⟩
        case round =>
          obtain ⟨j, rfl, hj, HB⟩ := hrel
          by_cases hjl : j < L
          · have hj1 : (j : Int) < (L : Int) := by omega
            have hS := HS3.out.below HB.out
            have hjq : j < qs.length := by omega
            have hjt : j < (qs.take L).length := by rw [HL.out]; exact hjl
            have hj2 : (j : Int) < (qs.length : Int) := by omega
            obtain ⟨g2, cc2, e2, l2, m2, hc2⟩ := (HC3.out.below HB.out).at (by omega)
            obtain ⟨g3, cc3, e3, l3, m3, hc3⟩ := (HD3.out.below HB.out).at (by omega)
            simp only [Value.slice.injEq, true_and] at e2 e3
            obtain ⟨rfl, rfl⟩ := e2
            obtain ⟨rfl, rfl⟩ := e3
            obtain ⟨x0, x1, x2⟩ := hc2 j hjq
            obtain ⟨y0, y1, y2⟩ := hc3 j hjt
            rw [List.getElem_take] at y0 y1 y2
            obtain ⟨hmem, hless⟩ := rk_mem HQ2.out (List.getElem_mem hjq)
            have hget := getC_mem hS.ok.ap hmem
            have hpos := hS.ok.po _ hmem
            have hwk := hS.wf _ hmem
            simp only at hpos hwk
            have hcnt : ∀ u : Ext wr, Calls Try.prog 7 #[.pointer (some ⟨w.heap.size + 1, 0, none⟩), .int .i64 qs[j].key] u.W fun e w' => e = .returned (.agg #[.int .i64 qs[j].key, .int .i64 qs[j].many, .int .i64 qs[j].less]) ∧ ∃ u' : Ext wr, w' = u'.W := fun u => (count_any _ _ h qs[j].key u.W (hS.hv.below u.h) hwk).mono fun e w' ⟨he, hb⟩ => ⟨by rw [he, hget, hless]; rfl, ⟨w', u.h.trans (hb.mono u.h.size)⟩, rfl⟩
            have hneq : ∀ u : Ext wr, (binOp .neq 30 (.agg #[.int .i64 qs[j].key, .int .i64 qs[j].many, .int .i64 qs[j].less]) (.agg #[.int .i64 qs[j].key, .int .i64 qs[j].many, .int .i64 qs[j].less])).run Try.prog u.W = .ok (.bool false) u.W := fun u => Try.cntNeq _ _ _ _
            have HPREV : Hid (∀ p, j = p + 1 → ∃ hp : p < qs.length, ∃ hp2 : p < (qs.take L).length, qs[j].many ≤ qs[p].many ∧ (qs[p].many = qs[j].many → qs[p].key < qs[j].key) ∧ (qs.take L)[p] = qs[p]) := fun p hp => by
              have hp' : p < qs.length := by omega
              refine ⟨hp', by omega, ?_⟩
              have hlt := List.pairwise_iff_getElem.1 (rk_strict hS.ok.ap HQ2.out HQ3.out) p j hp' hjq (by omega)
              unfold LtC at hlt
              exact ⟨by omega, fun e => by omega, List.getElem_take⟩
            have HC3' := hidE (fun p (hp : p < (qs.take L).length) => hc3 p hp)
            have x0 := Ext.cell x0
            have x1 := Ext.cell x1
            have x2 := Ext.cell x2
            have y0' := Ext.cell y0
            have y1' := Ext.cell y1
            have y2' := Ext.cell y2
            have hsz : ((qs.take L).length : Int) = (L : Int) := by rw [HL.out]
            obtain ⟨ck, hck⟩ : ∃ z, qs[j].key = z := ⟨_, rfl⟩
            obtain ⟨cm, hcm⟩ : ∃ z, qs[j].many = z := ⟨_, rfl⟩
            obtain ⟨cl, hcl⟩ : ∃ z, qs[j].less = z := ⟨_, rfl⟩
            rw [hck, hcm, hcl] at hcnt hneq
            rw [hck] at x0 y0' y0
            rw [hcm] at x1 y1' y1 hpos
            rw [hcl] at x2 y2'
            have hd1 : decide (cm < 1) = false := decide_eq_false (by omega)
            rw [hck, hcm] at HPREV
            clear hc2 hc3 hmem hless hget hwk hck hcm hcl hS y2 hsz
            go_upto_region 22 with fail
            refine wp_region_ext (by kernel_rfl) (by kernel_rfl) ?_
            repeat (go_big_quiet_step ((go_at_call 7; exact hcnt _)))
            refine wpQuiet_nil ?_
            rintro _ ⟨u, rfl⟩
            have HB5 := hidE (HB.out.trans (u.h.mono HB.out.size))
            have y0 := y0' u
            have y1 := y1' u
            obtain ⟨W5, hW5⟩ : ∃ X9, u.W = X9 := ⟨_, rfl⟩
            have HX5 := hidE (fun p (hp : p < (qs.take L).length) => (⟨(u.h.cell (p := ⟨g3, p * 3, none⟩) (by have := (Ext.cell (w := wr) (HC3'.out p hp).1); exact cell_ltS (HC3'.out p hp).1)).trans (HC3'.out p hp).1, (u.h.cell (p := ⟨g3, p * 3 + 1, none⟩) (cell_ltS (HC3'.out p hp).1)).trans (HC3'.out p hp).2.1⟩ : u.W.cell? ⟨g3, p * 3, none⟩ = some (.int .i64 (qs.take L)[p].key) ∧ u.W.cell? ⟨g3, p * 3 + 1, none⟩ = some (.int .i64 (qs.take L)[p].many)))
            rw [hW5] at HB5 y0 y1 HX5
            rw [hW5]
            clear hW5 hcnt hneq x0 x1 x2 y0' y1' y2' HC3' u hd1
            rcases (Nat.eq_zero_or_eq_succ_pred j).imp_right (fun e => (⟨_, e⟩ : ∃ p, j = p + 1)) with rfl | ⟨p, rfl⟩
            · have hz : decide (((0 : Nat) : Int) > 0) = false := by decide
              go_upto_region 24 with fail
              refine wp_region_ext (by kernel_rfl) (by kernel_rfl) ?_
              repeat (go_big_quiet_step (fail))
              refine wpQuiet_nil ?_
              rintro _ ⟨u, rfl⟩
              have HB6 := hidE (HB5.out.trans (u.h.mono HB5.out.size))
              obtain ⟨W6, hW6⟩ : ∃ X9, u.W = X9 := ⟨_, rfl⟩
              rw [hW6] at HB6
              rw [hW6]
              clear hW6 u HX5 HPREV y0 y1
              go_wp2_with fail
              go_roundw
              case rel => exact ⟨1, rfl, by omega, HB6⟩
              case measure => simp only [intOf]; omega
            · obtain ⟨hp, hp2, hge, heq, het⟩ := HPREV.out p rfl
              obtain ⟨z0, z1⟩ := HX5.out p hp2
              rw [het] at z0 z1
              have y0 := Ext.cell y0
              have y1 := Ext.cell y1
              have z0 := Ext.cell z0
              have z1 := Ext.cell z1
              obtain ⟨pk, hpk⟩ : ∃ z, qs[p].key = z := ⟨_, rfl⟩
              obtain ⟨pm, hpm⟩ : ∃ z, qs[p].many = z := ⟨_, rfl⟩
              rw [hpk] at z0 heq
              rw [hpm] at z1 heq hge
              have hz : (((p + 1 : Nat) : Int) > 0) := by omega
              have hsub : ((p + 1 : Nat) : Int) - 1 = (p : Int) := by omega
              have hp1 : (p : Int) < (L : Int) := by omega
              have hd2 : decide (pm < cm) = false := decide_eq_false (by omega)
              by_cases he : pm = cm
              · have hlt := heq he
                have hd3 : decide (pk ≥ ck) = false := decide_eq_false (by omega)
                subst he
                clear heq hpk hpm het hge
                go_upto_region 24 with fail
                refine wp_region_ext (by kernel_rfl) (by kernel_rfl) ?_
                repeat (go_big_quiet_step (fail))
                refine wpQuiet_nil ?_
                rintro _ ⟨u, rfl⟩
                have HB6 := hidE (HB5.out.trans (u.h.mono HB5.out.size))
                obtain ⟨W6, hW6⟩ : ∃ X9, u.W = X9 := ⟨_, rfl⟩
                rw [hW6] at HB6
                rw [hW6]
                clear hW6 u HX5 HPREV y0 y1 z0 z1
                go_wp2_with fail
                go_roundw
                case rel => exact ⟨p + 1 + 1, by simp, by omega, HB6⟩
                case measure => simp only [intOf]; omega
              · have hd3 : (pm == cm) = false := by simpa using he
                clear heq hpk hpm het hge
                go_upto_region 24 with fail
                refine wp_region_ext (by kernel_rfl) (by kernel_rfl) ?_
                repeat (go_big_quiet_step (fail))
                refine wpQuiet_nil ?_
                rintro _ ⟨u, rfl⟩
                have HB6 := hidE (HB5.out.trans (u.h.mono HB5.out.size))
                obtain ⟨W6, hW6⟩ : ∃ X9, u.W = X9 := ⟨_, rfl⟩
                rw [hW6] at HB6
                rw [hW6]
                clear hW6 u HX5 HPREV y0 y1 z0 z1
                go_wp2_with fail
                go_roundw
                case rel => exact ⟨p + 1 + 1, by simp, by omega, HB6⟩
                case measure => simp only [intOf]; omega
          · have hjn : ¬ (j : Int) < (L : Int) := by omega
            have HF := hidE (HB3.out.trans (HB.out.mono HB3.out.size))
            go_wp2_with fail
            go_ret
            exact ⟨rfl, HF.out⟩
theorem htop_walk (n : Int) (v : Value) (l : List Sp) (many : Int) (w : World) {p q : Prop} (_ : p) (hv : Spns w v l) (hl : l.length ≤ 140737488355328) (hwf : ∀ p ∈ l, SpWf p) (_ : q) :
    Calls Try.prog 4 #[.int .i64 n, v, .int .i64 many] w fun e w' => e = .returned (.bool true) ∧ Below w.heap.size w w' := by
  cases h : numB n
  · exact htop_early n v l many w h
  · exact htop_any n v l many w h hv hl hwf
end Go.Proofs.Ytchailjgikjhlaa
