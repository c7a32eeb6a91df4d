/- What Merge of the reference's counts leaves. -/
import Derived.Test.YtchailjgikjhlaaDoorRefH6
import Derived.Deep.RegionHeldLaw
namespace Go.Proofs.YtchailjgikjhlaaDoor
open Go.RowKit Go.Maps
set_option linter.unusedVariables false

theorem sum_take_part {l : Cs} (hp : PosC l) (i : Nat) : sumC (l.take i) ≤ sumC l := by
  induction l generalizing i with
  | nil => simp
  | cons p r ih =>
    cases i with
    | zero => simp only [List.take_zero, sumC]; have := sum_nonneg hp; simp only [sumC] at this; omega
    | succ i =>
      have := ih (fun q hq => hp q (List.mem_cons_of_mem _ hq)) i
      simp only [List.take_succ_cons, sumC]; omega
theorem fall_ex (l : Cs) : ∃ ql : Cs, ql.Perm l ∧ FallC ql := by
  induction l with
  | nil => exact ⟨[], .refl _, List.Pairwise.nil⟩
  | cons p r ih =>
    obtain ⟨q, h1, h2⟩ := ih
    refine ⟨q.filter (fun x => decide (p.2 ≤ x.2)) ++ p :: q.filter (fun x => !decide (p.2 ≤ x.2)), ?_, ?_⟩
    · refine List.perm_middle.trans (List.Perm.cons _ ?_)
      exact (List.filter_append_perm _ q).trans h1
    · unfold FallC at h2 ⊢
      rw [List.pairwise_append]
      refine ⟨h2.filter _, ?_, ?_⟩
      · rw [List.pairwise_cons]
        refine ⟨fun x hx => ?_, h2.filter _⟩
        have := (List.mem_filter.1 hx).2
        simp at this
        omega
      · intro x hx y hy
        have hx' : p.2 ≤ x.2 := by simpa using (List.mem_filter.1 hx).2
        rcases List.mem_cons.1 hy with rfl | hy
        · exact hx'
        · have := (List.mem_filter.1 hy).2
          simp at this
          omega
set_option maxRecDepth 100000 in
set_option maxHeartbeats 64000000 in
theorem rmerge_ok (base b b' : Nat) (h o : Hv) (v v' : Value) (w : World) (k : RfAt w base b h v) (k' : RfAt w base b' o v') (kh : HvOk h) (ko : HvOk o) (hb : base ≤ w.heap.size) (hbb : b ≠ b') (hsep : ∀ q, v.ownBlock = some q → v'.ownBlock ≠ some q) (hn : o.n = h.n) (hf : ¬ 1099511627776 < h.all + o.all) :
    Calls Tryd.prog 11 #[.pointer (some ⟨b, 0, none⟩), .pointer (some ⟨b', 0, none⟩)] w fun e w' => e = .returned (.int .i64 0) ∧ ∃ ql : Cs, ql.Perm (mergeL h.l o.l) ∧ FallC ql ∧ RfP w base b v (mrgS h o ql) w' := by
  obtain ⟨Q, hQ⟩ : ∃ Q : Ending → World → Prop, Q = fun e w' => e = .returned (.int .i64 0) ∧ ∃ ql : Cs, ql.Perm (mergeL h.l o.l) ∧ FallC ql ∧ RfP w base b v (mrgS h o ql) w' := ⟨_, rfl⟩
  have HQ := hidE hQ
  rw [← hQ]
  clear hQ
  have c0 := Ext.cell (rf_cells k.blk).1
  have d0 := Ext.cell (rf_cells k'.blk).1
  have a0 := kh.all_nonneg
  have a1 := kh.al
  have b0 := ko.all_nonneg
  have b1 := ko.al
  have l0 := kh.ls
  have l1 := kh.less_le
  have r0 := ko.ls
  have r1 := ko.less_le
  have HK := hidE k
  have HK' := hidE k'
  have HH := hidE kh
  have HO := hidE ko
  have HSEP := hidE hsep
  have HLT : Hid (∀ q, v'.ownBlock = some q → q < w.heap.size) := fun q hq => (OwnN.block k'.own q hq).2
  have hbl := k.lt
  have hbl' := k'.lt
  rw [hn] at d0
  obtain ⟨n, hn'⟩ : ∃ n, h.n = n := ⟨_, rfl⟩
  obtain ⟨x, hx⟩ : ∃ x, h.all = x := ⟨_, rfl⟩
  obtain ⟨y, hy⟩ : ∃ y, o.all = y := ⟨_, rfl⟩
  obtain ⟨lx, hlx⟩ : ∃ x, h.less = x := ⟨_, rfl⟩
  obtain ⟨ly, hly⟩ : ∃ y, o.less = y := ⟨_, rfl⟩
  rw [hn'] at c0 d0
  rw [hx] at a0 a1 hf
  rw [hy] at b0 b1 hf
  rw [hlx] at l0 l1
  rw [hly] at r0 r1
  have HXY : Hid (h.n = n ∧ h.all = x ∧ o.all = y ∧ h.less = lx ∧ o.less = ly) := ⟨hn', hx, hy, hlx, hly⟩
  clear k k' hn kh ko hn' hx hy hlx hly hsep
  go_enter Tryd.func11, Tryd.ntmps11
  go_upto_region 1 with fail
  refine wp_region_ext (by kernel_rfl) (by kernel_rfl) ?_
  repeat (go_big_quiet_step (fail))
  refine wpQuiet_nil ?_
  rintro _ ⟨u, rfl⟩
  have HB2 := hidE u.h
  obtain ⟨W2, hW2⟩ : ∃ X9, u.W = X9 := ⟨_, rfl⟩
  rw [hW2] at HB2 ⊢
  clear hW2 c0 d0 u
  have c3 := Ext.cell (rf_cells (HK.out.below HB2.out).blk).2.2.1
  have d3 := Ext.cell (rf_cells (HK'.out.below HB2.out).blk).2.2.1
  rw [HXY.out.2.1] at c3
  rw [HXY.out.2.2.1] at d3
  go_upto_region 3 with fail
  refine wp_region_ext (by kernel_rfl) (by kernel_rfl) ?_
  repeat (go_big_quiet_step (fail))
  refine wpQuiet_nil ?_
  rintro _ ⟨u, rfl⟩
  have HB3 := hidE (HB2.out.trans (u.h.mono HB2.out.size))
  obtain ⟨W3, hW3⟩ : ∃ X9, u.W = X9 := ⟨_, rfl⟩
  rw [hW3] at HB3 ⊢
  clear hW3 c3 d3 u HB2
  have k3 := HK.out.below HB3.out
  have k3' := HK'.out.below HB3.out
  obtain ⟨c0, c1, c2, c3⟩ := rf_cells k3.blk
  obtain ⟨y0, y1, y2, y3⟩ := rf_frees k3.blk
  obtain ⟨e0, e1, e2, e3⟩ := rf_cells k3'.blk
  rw [HXY.out.2.1] at c2
  rw [HXY.out.2.2.1] at e2
  obtain ⟨W5, hW5, x5, o5⟩ := rf_set2 k3.blk (.int .i64 (x + y))
  have HX5 := hidE x5
  have HO5 := hidE o5
  have HK3 := hidE k3
  have HK3' := hidE k3'
  clear x5 o5 k3 k3'
  go_upto_region 5 with fail
  go_region
  clear c0 c1 c2 c3 y0 y1 y2 y3 e0 e1 e2 e3 hW5
  have hvb : ∀ q, v.ownBlock = some q → q ≠ b := fun q hq => by have := (OwnN.block HK.out.own q hq).1; have := HK.out.bb; omega
  have hvb' : ∀ q, v'.ownBlock = some q → q ≠ b := fun q hq => by have := (OwnN.block HK'.out.own q hq).1; have := HK.out.bb; omega
  have HVB := hidE hvb
  have HVB' := hidE hvb'
  clear hvb hvb'
  have k5 : RfAt W5.drew base b { n := h.n, less := h.less, all := x + y, l := h.l } v := ⟨HX5.out, OwnN.blk HK3.out.own (fun q hq => HO5.out.block q (HVB.out q hq)), HK3.out.bb⟩
  have k5' : RfAt W5.drew base b' o v' := HK3'.out.keep (HO5.out.block b' hbb.symm) (fun q hq => HO5.out.block q (HVB'.out q hq))
  have T5 : Turn (fun j => j = b ∨ v.ownBlock = some j) w W5.drew := (Turn.of_below HB3.out _).trans (Turn.of_only (w' := W5.drew) ⟨HO5.out.os, HO5.out.tape, HO5.out.output, HO5.out.size, HO5.out.block⟩ (Or.inl rfl))
  obtain ⟨W6, hW6⟩ : ∃ W6, W5.drew = W6 := ⟨_, rfl⟩
  rw [hW6] at k5 k5' T5 ⊢
  clear hW6 HX5 HO5 HK3 HK3' HB3
  obtain ⟨c0, c1, c2, c3⟩ := rf_cells k5.blk
  obtain ⟨y0, y1, y2, y3⟩ := rf_frees k5.blk
  obtain ⟨e0, e1, e2, e3⟩ := rf_cells k5'.blk
  try simp only at c0 c1 c2 c3
  rw [HXY.out.2.2.2.1] at c1
  rw [HXY.out.2.2.2.2] at e1
  obtain ⟨W7, hW7, x7, o7⟩ := rf_set1 k5.blk (.int .i64 (lx + ly))
  have HK5 := hidE k5
  have HK5' := hidE k5'
  have HT5 := hidE T5
  have HX7 := hidE x7
  have HO7 := hidE o7
  clear x7 o7 k5 k5' T5
  go_upto_region 6 with fail
  go_region
  clear c0 c1 c2 c3 y0 y1 y2 y3 e0 e1 e2 e3 hW7
  have HS0 : Hid (∃ l1 v1, RmS w base b b' h o v v' 0 l1 v1 W7.drew) := by
    refine ⟨h.l, v, ⟨?_, OwnN.blk HK5.out.own (fun q hq => HO7.out.block q (HVB.out q hq)), HK5.out.bb⟩, HK5'.out.keep (HO7.out.block b' hbb.symm) (fun q hq => HO7.out.block q (HVB'.out q hq)), ?_, .inl rfl, HT5.out.trans (Turn.of_only (w' := W7.drew) ⟨HO7.out.os, HO7.out.tape, HO7.out.output, HO7.out.size, HO7.out.block⟩ (Or.inl rfl))⟩
    · rw [HXY.out.2.1, HXY.out.2.2.1, HXY.out.2.2.2.1, HXY.out.2.2.2.2]
      exact HX7.out
    · rw [List.take_zero, mergeL]
  obtain ⟨W8, hW8⟩ : ∃ W8, W7.drew = W8 := ⟨_, rfl⟩
  rw [hW8] at HS0 ⊢
  clear hW8 HX7 HO7 HK5 HK5' HT5
  obtain ⟨N, hN⟩ : ∃ N, o.l.length = N := ⟨_, rfl⟩
  have HN := hidE hN
  obtain ⟨a', c', hv'⟩ := HK'.out.at
  rw [hN] at hv'
  subst hv'
  have hNb : N ≤ 1000 := by have := HO.out.le; have := HO.out.nn; omega
  clear hN
  go_upto_block 0 with fail
  go_cut [5, 6] (fun _ _ wx => Hid (∃ l1 v1, RmS w base b b' h o v (.slice a' N c') N l1 v1 wx))
  case first =>
    go_wp2_with fail
    go_loopw [5, 6] (fun v5 _ wr => ∃ i : Nat, v5 = .int .i64 (i : Int) ∧ i ≤ N ∧ Hid (∃ l1 v1, RmS w base b b' h o v (.slice a' N c') i l1 v1 wr)) (fun v5 _ _ => ((N : Int) - intOf v5).toNat)
    case atStart => exact ⟨0, rfl, Nat.zero_le _, HS0⟩
    case round =>
      clear HS0
      obtain ⟨i, rfl, hi, HS⟩ := hrel
      obtain ⟨l1, v1, hS⟩ := HS.out
      obtain ⟨_, _, _, d3⟩ := rf_cells hS.ro.blk
      by_cases hlt : i < N
      · have hi1 : (i : Int) < (N : Int) := by omega
        have hil : i < o.l.length := by rw [HN.out]; exact hlt
        have HIL := hidE hil
        obtain ⟨g, cap, e, g1, g2, g3, g4, hc⟩ := hS.ro.row (by omega)
        rw [HN.out] at e
        simp only [Value.slice.injEq, true_and] at e
        obtain ⟨rfl, rfl⟩ := e
        obtain ⟨q0, q1, _⟩ := hc i hil
        have hap := (apC_merge (o.l.take i) h.l HH.out.ap).perm hS.pm.symm
        have hpo := (posC_merge (o.l.take i) h.l HH.out.po (HO.out.po.take i)).perm hS.pm.symm
        have hsu := sum_merge (o.l.take i) h.l HH.out.ap HH.out.po (HO.out.po.take i)
        have hln : l1.length ≤ 1000 := by
          rw [hS.pm.length_eq]
          have q1 := len_merge (o.l.take i) h.l
          have q2 : (o.l.take i).length ≤ o.l.length := by rw [List.length_take]; omega
          have q3 := HH.out.le
          have q4 := HH.out.nn
          have q5 := HO.out.le
          have q6 := HO.out.nn
          omega
        have hat := rat_any base b _ v1 o.l[i].1 _ hS.rh hln
        try simp only at hat
        have c3 := (rf_cells hS.rh.blk).2.2.2
        have oi1 := HO.out.po _ (List.getElem_mem hil)
        have oi2 : o.l[i].2 ≤ 1099511627776 := Int.le_trans (mem_sum HO.out.po _ (List.getElem_mem hil)) HO.out.sum_le
        have HSS := hidE hS
        have HAP := hidE hap
        have HBV : Hid (∀ q (hq : q < l1.length), 1 ≤ l1[q].2 ∧ l1[q].2 ≤ 2199023255552) := fun q hq => by
          have m1 := hpo _ (List.getElem_mem hq)
          have m2 := mem_sum hpo _ (List.getElem_mem hq)
          have m3 := sumC_perm hS.pm
          have m4 : sumC (o.l.take i) ≤ sumC o.l := sum_take_part HO.out.po i
          have m5 := HH.out.sum_le
          have m6 := HO.out.sum_le
          omega
        obtain ⟨ik, hik⟩ : ∃ z, o.l[i].1 = z := ⟨_, rfl⟩
        obtain ⟨im, him⟩ : ∃ z, o.l[i].2 = z := ⟨_, rfl⟩
        have HIK : Hid (o.l[i].1 = ik ∧ o.l[i].2 = im) := ⟨hik, him⟩
        have q0' : wr.cell? ⟨g, i * 3, none⟩ = some (.int .i64 ik) := by rw [← hik]; exact q0
        have q1' : wr.cell? ⟨g, i * 3 + 1, none⟩ = some (.int .i64 im) := by rw [← him]; exact q1
        have oi1' : 1 ≤ im := by rw [← him]; exact oi1
        have oi2' : im ≤ 1099511627776 := by rw [← him]; exact oi2
        have hat' := rat_any base b _ v1 ik _ hS.rh hln
        try simp only at hat'
        clear hat q0 q1 oi1 oi2
        have hat := hat'
        clear hat'
        obtain ⟨a1', c1', hv1⟩ := hS.rh.at
        try simp only at hv1
        subst hv1
        clear hc hS HS hap hpo hsu hik him
        go_upto_block 1 with fail
        go_cut [100] (fun _ wx => Hid (∃ l1' v1', RmS w base b b' h o v (.slice (some ⟨g, 0, none⟩) N c') (i + 1) l1' v1' wx))
        case first =>
          go_upto_region 11 with (go_at_call 20; go_must (refine hat.mono ?_; rintro e WX ⟨⟨j, rfl, hj⟩, hWX⟩; rw [hWX]; clear hWX WX))
          have HJ := hidE hj
          clear hj hat
          rcases HJ.out with ⟨rfl, hno⟩ | ⟨q, hq, rfl, hqk⟩
          · have hwb := HSS.out.tn.size
            have hbs : base ≤ wr.heap.size := by omega
            have hownX : OwnCt wr.drew base (.slice a1' l1.length c1') (l1.map (ctOf 0)) := HSS.out.rh.own
            have hlen1 : (l1.map (ctOf 0)).length ≤ 1000000 := by rw [List.length_map]; omega
            have HBLK := hidE HSS.out.rh.blk
            try simp only at HBLK
            have HBS : Hid (b < base) := HSS.out.rh.bb
            have f3 := (rf_frees HSS.out.rh.blk).2.2.2
            have cA : (wr.alloc (.cells #[.int .i64 ik, .int .i64 im, .int .i64 0] 37)).cell? ⟨b, 3, none⟩ = some (.slice a1' l1.length c1') := (((Below.refl _ _).alloc (Nat.le_refl _) _ : Below wr.heap.size wr _).cell (p := ⟨b, 3, none⟩) HSS.out.rh.lt).trans c3
            have HKEY : Hid (∀ W6 g6 c6, OwnCt W6 base (.slice (some ⟨g6, 0, none⟩) (l1.length + 1) c6) (l1.map (ctOf 0) ++ [{ key := ik, many := im, less := 0 }]) → (wr.drew.alloc (.cells #[.int .i64 ik, .int .i64 im, .int .i64 0] 37)).grownBy W6 (Value.slice a1' l1.length c1').ownBlock → ((Value.slice a1' l1.length c1').ownBlock = some g6 ∨ g6 = wr.drew.heap.size + 1) → ∃ l1' v1', RmS w base b b' h o v (.slice (some ⟨g, 0, none⟩) N c') (i + 1) l1' v1' (W6.setCell ⟨b, 3, none⟩ (.slice (some ⟨g6, 0, none⟩) (l1.length + 1) c6))) := by
              intro W6 g6 c6 own6 gr6 at6
              have x6 := rf_same (W := wr.drew) HBLK.out hownX HBS.out gr6
              obtain ⟨W7, hW7, x7, o7⟩ := rf_set3 x6 (.slice (some ⟨g6, 0, none⟩) (l1.length + 1) c6)
              rw [hW7]
              exact ⟨_, _, HSS.out.app HSEP.out HLT.out hbb HIL.out HAP.out HIK.out.1 HIK.out.2 hno (by rw [List.map_append]; exact own6) gr6 at6 x7 o7⟩
            go_upto_region 13 with fail
            go_region_law (refine step_append_ct rfl (.tmp 100) (.tmp 118) rfl base (.slice a1' l1.length c1') _ rfl hownX { key := ik, many := im, less := 0 } rfl hlen1 hbs ?_; intro g6 c6 W6 own6 gr6 at6; have HNX := hidE (HKEY.out W6 g6 c6 (by simpa using own6) gr6 at6); have x6 := rf_same (W := wr.drew) HBLK.out hownX HBS.out gr6; have z6 := (rf_cells x6).2.2.2; have f6 := (rf_frees x6).2.2.2; rw [List.length_map]; clear own6 gr6 at6 x6)
            all_goals (go_wp2_with fail; go_meet; exact HNX)
          · have hq1 : (q : Int) < (l1.length : Int) := by omega
            obtain ⟨gg, cg, eg, gg1, gg2, gg3, gg4, hcc⟩ := HSS.out.rh.row (by simp only; omega)
            simp only [Value.slice.injEq, true_and] at eg
            obtain ⟨rfl, rfl⟩ := eg
            obtain ⟨_, z1, _⟩ := hcc q hq
            try simp only at z1
            have fz : wr.frozen? ⟨gg, q * 3 + 1, none⟩ = false := OwnN.free HSS.out.rh.own (by simp) _
            obtain ⟨m1, m2⟩ := HBV.out q hq
            obtain ⟨lm, hlm⟩ : ∃ z, l1[q].2 = z := ⟨_, rfl⟩
            have HNX : Hid (∃ l1' v1', RmS w base b b' h o v (.slice (some ⟨g, 0, none⟩) N c') (i + 1) l1' v1' (wr.setCell ⟨gg, q * 3 + 1, none⟩ (.int .i64 (lm + im))).drew) := ⟨_, _, HSS.out.set HSEP.out HLT.out HAP.out HIL.out hq HIK.out.1 HIK.out.2 hqk hlm⟩
            have z1' : wr.cell? ⟨gg, q * 3 + 1, none⟩ = some (.int .i64 lm) := by rw [← hlm]; exact z1
            have m1' : 1 ≤ lm := by rw [← hlm]; exact m1
            have m2' : lm ≤ 2199023255552 := by rw [← hlm]; exact m2
            clear z1 m1 m2 hlm
            clear hcc hqk
            go_upto_region 12 with fail
            go_region
            go_wp2_with fail
            go_meet
            exact HNX
        case rest =>
          have HNX := hcut
          clear hcut q0' q1' c3 d3
          go_wp2_with fail
          go_roundw
          case rel => exact ⟨i + 1, by simp, by omega, HNX⟩
          case measure => simp only [intOf]; omega
      · have hi1 : ¬ (i : Int) < (N : Int) := by omega
        have ei : i = N := by omega
        subst ei
        clear hS
        go_wp2_with fail
        go_meet
        exact HS
  case rest =>
    clear HS0
    obtain ⟨m1, v1, hS⟩ := hcut.out
    clear hcut
    have hpm := hS.pm
    rw [← HN.out, List.take_length] at hpm
    have HPM := hidE hpm
    have hap := (apC_merge o.l h.l HH.out.ap).perm hpm.symm
    have hpo := (posC_merge o.l h.l HH.out.po HO.out.po).perm hpm.symm
    have hsu := sumC_perm hpm
    rw [sum_merge o.l h.l HH.out.ap HH.out.po HO.out.po] at hsu
    have hln : m1.length ≤ 1000 := by
      rw [hpm.length_eq]
      have q1 := len_merge o.l h.l
      have q3 := HH.out.le
      have q4 := HH.out.nn
      have q5 := HO.out.le
      have q6 := HO.out.nn
      omega
    have su1 := HH.out.sum_le
    have su2 := HO.out.sum_le
    have hsm : sumC m1 ≤ 2199023255552 := by omega
    have hnn := HH.out.nn
    rw [HXY.out.1] at hnn
    obtain ⟨M, rfl⟩ : ∃ M : Nat, n = (M : Int) := ⟨n.toNat, by omega⟩
    have HMT : Hid (h.n.toNat = M) := by
      have := HXY.out.1
      show h.n.toNat = M
      omega
    have c0 := Ext.cell (rf_cells hS.rh.blk).1
    have c3 := Ext.cell (rf_cells hS.rh.blk).2.2.2
    try simp only at c0
    rw [HXY.out.1] at c0
    obtain ⟨a1', c1', hv1⟩ := hS.rh.at
    try simp only at hv1
    subst hv1
    have HSS := hidE hS
    have HAP := hidE hap
    have HPO := hidE hpo
    clear hS hap hpo hsu hpm
    go_upto_region 14 with fail
    refine wp_region_ext (by kernel_rfl) (by kernel_rfl) ?_
    repeat (go_big_quiet_step (fail))
    refine wpQuiet_nil ?_
    rintro _ ⟨u, rfl⟩
    have HS2 := hidE (HSS.out.below u.h)
    obtain ⟨W2, hW2⟩ : ∃ X9, u.W = X9 := ⟨_, rfl⟩
    rw [hW2] at HS2
    rw [hW2]
    clear hW2 c0 c3 u HSS
    by_cases hgt : M < m1.length
    · have hg1 : (m1.length : Int) > (M : Int) := by omega
      have hbs : base ≤ W2.heap.size := Nat.le_trans hb HS2.out.tn.size
      have htop := rtop_any base b _ _ W2 HS2.out.rh hbs hln HAP.out
      try simp only at htop
      go_upto_region 16 with (go_at_call 13; go_must (refine htop.mono ?_; rintro e W3 ⟨v3, qs, rfl, q1, q2, q3, q4⟩))
      have hlq : qs.length = m1.length := by rw [q2.length_eq, List.length_map]
      have hMq : M < qs.length := by omega
      have HQL : Hid ((qs.map fun c => (c.key, c.many)).Perm m1 ∧ FallC (qs.map fun c => (c.key, c.many))) := by
        refine ⟨?_, ?_⟩
        · have h1 := q2.map (fun c : Ct => (c.key, c.many))
          rw [List.map_map] at h1
          have e : m1.map ((fun c : Ct => (c.key, c.many)) ∘ ctOf (h.less + o.less)) = m1 := by
            conv => rhs; rw [← List.map_id m1]
            exact List.map_congr_left (fun p _ => rfl)
          rw [e] at h1
          exact h1
        · unfold FallC
          rw [List.pairwise_map]
          exact q3.imp (fun {p q} hlt => by unfold LtC at hlt; simp only; omega)
      obtain ⟨gg, cg, eg, gg1, gg2, gg3, gg4⟩ := OwnN.shape q1 (by omega)
      rw [hlq] at eg
      subst eg
      obtain ⟨_, z1, _⟩ := own_ct q1 M hMq
      have hS3 := HS2.out.below q4
      have c0 := (rf_cells hS3.rh.blk).1
      try simp only at c0
      rw [HXY.out.1] at c0
      have hbs3 : base ≤ W3.heap.size := Nat.le_trans hbs q4.size
      have hmt : (qs[M].key, qs[M].many) ∈ m1 := HQL.out.1.mem_iff.1 (List.mem_map.2 ⟨qs[M], List.getElem_mem hMq, rfl⟩)
      have t1 := HPO.out _ hmt
      have t2 := mem_sum HPO.out _ hmt
      simp only at t1 t2
      have htk := rtake_any base b _ _ qs[M].many W3 hS3.rh hbs3 hln (by omega) (by omega) HPO.out (by simp only; omega) (by simp only; rw [HXY.out.2.2.2.1, HXY.out.2.2.2.2]; omega) (by simp only; rw [HXY.out.2.2.2.1, HXY.out.2.2.2.2]; omega)
      try simp only at htk
      have hlm : h.n.toNat < (qs.map fun c => (c.key, c.many)).length := by rw [HMT.out, List.length_map]; exact hMq
      have HTE : Hid ((qs.map fun c => (c.key, c.many))[h.n.toNat].2 = qs[M].many) := by
        show _ = _
        rw [List.getElem_map]
        simp only [HMT.out]
      have HS3 := hidE hS3
      have HFIN : Hid (∀ X v', RfAt X base b { n := h.n, less := h.less + o.less + qs[M].many, all := h.all + o.all, l := takeL qs[M].many m1 } v' → (∀ g, v'.ownBlock = some g → W3.heap.size ≤ g) → Turn (fun i => i = b) W3 X → Q (.returned (.int .i64 0)) X) := by
        intro X v' kX fX tX
        rw [HQ.out]
        refine ⟨rfl, qs.map fun c => (c.key, c.many), HQL.out.1.trans HPM.out, HQL.out.2, ⟨_, _, kX, ?_, .inr (fun g hg => Nat.le_trans HS3.out.tn.size (fX g hg))⟩, HS3.out.tn.trans (tX.mono (fun i _ e => Or.inl e))⟩
        unfold mrgS
        rw [dif_pos hlm, HTE.out]
        exact ⟨rfl, rfl, rfl, take_perm HPM.out⟩
      obtain ⟨t, ht⟩ : ∃ t, qs[M].many = t := ⟨_, rfl⟩
      have hM2 : (M : Int) < (m1.length : Int) := by omega
      have z1' : W3.cell? ⟨gg, M * 3 + 1, none⟩ = some (.int .i64 t) := by rw [← ht]; exact z1
      simp only [ht] at htk HFIN
      clear z1 ht hS3 q1 q2 q3 q4 htop hmt t1 t2 HTE
      go_wp2_with (go_at_call 21; go_must (refine htk.mono ?_; rintro e WX ⟨rfl, vX, kX, fX, tX⟩))
      exact HFIN.out WX vX kX fX tX
    · have hg1 : ¬ (m1.length : Int) > (M : Int) := by omega
      have HFIN : Hid (Q (.returned (.int .i64 0)) W2) := by
        show Q _ _
        rw [HQ.out]
        obtain ⟨ql, hql, hfl⟩ := fall_ex (mergeL h.l o.l)
        refine ⟨rfl, ql, hql, hfl, ⟨_, _, HS2.out.rh, ?_, HS2.out.ob⟩, HS2.out.tn⟩
        unfold mrgS
        rw [dif_neg (by rw [HMT.out, hql.length_eq, ← HPM.out.length_eq]; omega)]
        exact ⟨rfl, rfl, rfl, HPM.out⟩
      go_wp2_with fail
      exact HFIN.out
end Go.Proofs.YtchailjgikjhlaaDoor
