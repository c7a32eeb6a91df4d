/- What Merge of package heavy returns, and what it leaves. -/
import Derived.Test.YtchailjgikjhlaaDoorHvRnk
import Derived.Test.YtchailjgikjhlaaDoorHvMath2
import Derived.Test.YtchailjgikjhlaaDoorHvMrg0
import Derived.Deep.CutBlock
namespace Go.Proofs.YtchailjgikjhlaaDoor
open Go.RowKit Go.Maps
set_option linter.unusedVariables false

set_option maxRecDepth 100000 in
set_option maxHeartbeats 8000000 in
theorem merge_shape (b m b' m' : Nat) (h o : Hv) (w : World) (k : HvAt w b m h) (k' : HvAt w b' m' o) (hn : ¬ o.n = h.n) :
    Calls Tryd.prog 10 #[.pointer (some ⟨b, 0, none⟩), .pointer (some ⟨b', 0, none⟩)] w fun e w' => e = .returned (.iface 47 (.int .i64 3)) ∧ Below w.heap.size w w' := by
  have c0 := Ext.cell (hv_cells k.blk).1
  have d0 := Ext.cell (hv_cells k'.blk).1
  generalize h.n = n at c0 hn
  generalize o.n = n' at d0 hn
  have hne : (n' != n) = true := by simpa using hn
  clear k k' hn
  go_enter Tryd.func10, Tryd.ntmps10
  go_upto_region 1 with fail
  refine wp_region_ext (by kernel_rfl) (by kernel_rfl) ?_
  repeat (go_big_quiet_step (fail))
  refine wpQuiet_nil ?_
  rintro _ ⟨u, rfl⟩
  have HF := hidE u.h
  obtain ⟨W2, hW2⟩ : ∃ X9, u.W = X9 := ⟨_, rfl⟩
  rw [hW2] at HF ⊢
  clear hW2 c0 d0
  go_wp2_with fail
  go_ret
  exact ⟨rfl, HF.out⟩
set_option maxRecDepth 100000 in
set_option maxHeartbeats 8000000 in
theorem merge_full (b m b' m' : Nat) (h o : Hv) (w : World) (k : HvAt w b m h) (k' : HvAt w b' m' o) (kh : HvOk h) (ko : HvOk o) (hn : o.n = h.n) (hf : 1099511627776 < h.all + o.all) :
    Calls Tryd.prog 10 #[.pointer (some ⟨b, 0, none⟩), .pointer (some ⟨b', 0, none⟩)] w fun e w' => e = .returned (.iface 47 (.int .i64 4)) ∧ Below w.heap.size w w' := by
  have c0 := Ext.cell (hv_cells k.blk).1
  have d0 := Ext.cell (hv_cells k'.blk).1
  have c3 := (hv_cells k.blk).2.2.2
  have d3 := (hv_cells k'.blk).2.2.2
  have a0 := kh.all_nonneg
  have a1 := kh.al
  have b0 := ko.all_nonneg
  have b1 := ko.al
  rw [hn] at d0
  generalize h.n = n at c0 d0
  generalize h.all = x at c3 a0 a1 hf
  generalize o.all = y at d3 b0 b1 hf
  have hbl := k.lt
  have hbl' := k'.lt
  clear k k' hn kh ko
  go_enter Tryd.func10, Tryd.ntmps10
  go_upto_region 1 with fail
  refine wp_region_ext (by kernel_rfl) (by kernel_rfl) ?_
  repeat (go_big_quiet_step (fail))
  refine wpQuiet_nil ?_
  rintro _ ⟨u, rfl⟩
  have HF := hidE u.h
  have c3 := Ext.cell ((u.h.cell (p := ⟨b, 3, none⟩) hbl).trans c3)
  have d3 := Ext.cell ((u.h.cell (p := ⟨b', 3, none⟩) hbl').trans d3)
  obtain ⟨W2, hW2⟩ : ∃ X9, u.W = X9 := ⟨_, rfl⟩
  rw [hW2] at HF ⊢
  rw [hW2] at c3 d3
  clear hW2 c0 d0 u
  go_upto_region 3 with fail
  refine wp_region_ext (by kernel_rfl) (by kernel_rfl) ?_
  repeat (go_big_quiet_step (fail))
  refine wpQuiet_nil ?_
  rintro _ ⟨u, rfl⟩
  have HF2 := hidE (HF.out.trans (u.h.mono HF.out.size))
  obtain ⟨W3, hW3⟩ : ∃ X9, u.W = X9 := ⟨_, rfl⟩
  rw [hW3] at HF2 ⊢
  clear hW3 c3 d3 u
  go_wp2_with fail
  go_ret
  exact ⟨rfl, HF2.out⟩
/-- Where Merge stands. -/
structure MgS (w : World) (b m b' m' : Nat) (h o : Hv) (todo : Int → Bool) (l : Cs) (X : World) : Prop where
  hv : HvAt X b m { n := h.n, less := h.less, all := h.all, l := l }
  ov : HvAt X b' m' o
  po : PosC l
  gt : ∀ k, getC l k = getC h.l k + (if todo k = true then 0 else getC o.l k)
  ln : l.length ≤ h.l.length + (o.l.filter (doneB todo)).length
  tn : Turn (fun i => i = m) w X
theorem MgS.next {w X X' : World} {b m b' m' R : Nat} {h o : Hv} {todo : Int → Bool} {l : Cs} (k : MgS w b m b' m' h o todo l X) (hR : w.heap.size ≤ R) (hb : b < w.heap.size) (hm : m < w.heap.size) (hb' : b' < w.heap.size) (hm' : m' < w.heap.size) (hg : X.grownBy X' (some R)) : MgS w b m b' m' h o todo l X' := by
  have f : ∀ i, i < w.heap.size → X'.heap[i]? = X.heap[i]? := fun i hi => hg.block i (Nat.lt_of_lt_of_le hi k.tn.size) (by simp; omega)
  exact ⟨k.hv.keep (f b hb) (f m hm), k.ov.keep (f b' hb') (f m' hm'), k.po, k.gt, k.ln, k.tn.andThen (Turn.of_grown hg (F := fun i => i = R) (fun g e => by cases e; rfl)) (fun i e => Or.inr (by rw [e]; exact hR))⟩
theorem MgS.put {w X X' : World} {b m b' m' : Nat} {h o : Hv} {todo : Int → Bool} {l : Cs} (k : MgS w b m b' m' h o todo l X) (hmm : m ≠ m') (hmb : m ≠ b') (hbm : b ≠ m) (ha : ApC o.l) (ho : PosC o.l) {x c : Int} (hx : (x, c) ∈ o.l) (ht : todo x = true)
    (hm : CntAt X' m (putC l x (getC l x + c))) (hg : X.grownBy X' (some m)) : MgS w b m b' m' h o (strike todo x) (putC l x (getC l x + c)) X' := by
  have hc := ho _ hx
  simp only at hc
  refine ⟨⟨(hg.block b k.hv.lt (by simpa using hbm)).trans k.hv.blk, hm⟩, k.ov.keep (hg.block b' k.ov.lt (by simpa using hmb.symm)) (hg.block m' k.ov.map.lt (by simpa using hmm.symm)), posC_put k.po (by have := getC_nonneg k.po x; omega), fun q => ?_, ?_, k.tn.trans (Turn.of_grown hg (fun g e => by cases e; rfl))⟩
  · rw [getC_put, k.gt x, k.gt q, ht]
    by_cases e : q = x
    · subst e
      rw [getC_mem ha hx]
      simp [strike]
    · simp [strike, e]
  · have h1 := len_put_le l x (getC l x + c)
    have h2 := (done_step ha hx ht).length_eq
    have h3 := k.ln
    rw [List.length_cons] at h2
    omega
/-- What Merge leaves of the counts: those of both. -/
structure MgD (w : World) (b m b' m' : Nat) (h o : Hv) (X : World) : Prop where
  hv : HvAt X b m { n := h.n, less := h.less, all := h.all, l := mergeL h.l o.l }
  ov : HvAt X b' m' o
  tn : Turn (fun i => i = m) w X
theorem MgS.done {w X : World} {b m b' m' : Nat} {h o : Hv} {todo : Int → Bool} {l : Cs} (k : MgS w b m b' m' h o todo l X) (kh : HvOk h) (ko : HvOk o) (hd : ∀ p ∈ o.l, todo p.1 = false) : MgD w b m b' m' h o X := by
  refine ⟨⟨k.hv.blk, k.hv.map.perm (ext_perm k.hv.map.ap k.po (apC_merge o.l h.l kh.ap) (posC_merge o.l h.l kh.po ko.po) (fun q => ?_))⟩, k.ov, k.tn⟩
  rw [getC_merge o.l h.l ko.ap, k.gt q]
  by_cases e : todo q = true
  · rw [if_pos e, getC_not (l := o.l) (k := q) (fun p hp e2 => by rw [← e2, hd p hp] at e; cases e)]
  · rw [if_neg e]
set_option maxRecDepth 100000 in
set_option maxHeartbeats 32000000 in
theorem merge_ok (b m b' m' : Nat) (h o : Hv) (w : World) (k : HvAt w b m h) (k' : HvAt w b' m' o) (kh : HvOk h) (ko : HvOk o) (hbb : b ≠ b') (hmm : m ≠ m') (hn : o.n = h.n) (hf : ¬ 1099511627776 < h.all + o.all) :
    Calls Tryd.prog 10 #[.pointer (some ⟨b, 0, none⟩), .pointer (some ⟨b', 0, none⟩)] w fun e w' => e = .returned .nilIface ∧ ∃ ql : Cs, ql.Perm (mergeL h.l o.l) ∧ FallC ql ∧ HvAt w' b m (mrgS h o ql) ∧ Turn (fun i => i = b ∨ i = m) w w' := by
  obtain ⟨Q, hQ⟩ : ∃ Q : Ending → World → Prop, Q = fun e w' => e = .returned .nilIface ∧ ∃ ql : Cs, ql.Perm (mergeL h.l o.l) ∧ FallC ql ∧ HvAt w' b m (mrgS h o ql) ∧ Turn (fun i => i = b ∨ i = m) w w' := ⟨_, rfl⟩
  have HQ := hidE hQ
  rw [← hQ]
  clear hQ
  have hbm := k.ne
  have hmb : m ≠ b' := fun e => by
    have hm := k.map
    rw [e] at hm
    exact MapIs.not_cells hm k'.blk
  have hbm' : b ≠ m' := fun e => by
    have hm := k'.map
    rw [← e] at hm
    exact MapIs.not_cells hm k.blk
  have c0 := Ext.cell (hv_cells k.blk).1
  have d0 := Ext.cell (hv_cells k'.blk).1
  have a0 := kh.all_nonneg
  have a1 := kh.al
  have b0 := ko.all_nonneg
  have b1 := ko.al
  have HK := hidE k
  have HK' := hidE k'
  have HH := hidE kh
  have HO := hidE ko
  have hbl := k.lt
  have hbl' := k'.lt
  have hml := k.map.lt
  have hml' := k'.map.lt
  have HN := hidE hn
  rw [hn] at d0
  obtain ⟨n, hn'⟩ : ∃ n, h.n = n := ⟨_, rfl⟩
  obtain ⟨x, hx⟩ : ∃ x, h.all = x := ⟨_, rfl⟩
  obtain ⟨y, hy⟩ : ∃ y, o.all = y := ⟨_, rfl⟩
  rw [hn'] at c0 d0
  rw [hx] at a0 a1 hf
  rw [hy] at b0 b1 hf
  have HXY : Hid (h.n = n ∧ h.all = x ∧ o.all = y) := ⟨hn', hx, hy⟩
  clear k k' hn kh ko hn' hx hy
  go_enter Tryd.func10, Tryd.ntmps10
  go_upto_region 1 with fail
  refine wp_region_ext (by kernel_rfl) (by kernel_rfl) ?_
  repeat (go_big_quiet_step (fail))
  refine wpQuiet_nil ?_
  rintro _ ⟨u, rfl⟩
  have HB2 := hidE u.h
  obtain ⟨W2, hW2⟩ : ∃ X9, u.W = X9 := ⟨_, rfl⟩
  rw [hW2] at HB2 ⊢
  clear hW2 c0 d0 u
  have c3 := Ext.cell (hv_cells (HK.out.below HB2.out).blk).2.2.2
  have d3 := Ext.cell (hv_cells (HK'.out.below HB2.out).blk).2.2.2
  rw [HXY.out.2.1] at c3
  rw [HXY.out.2.2] at d3
  go_upto_region 3 with fail
  refine wp_region_ext (by kernel_rfl) (by kernel_rfl) ?_
  repeat (go_big_quiet_step (fail))
  refine wpQuiet_nil ?_
  rintro _ ⟨u, rfl⟩
  have HB3 := hidE (HB2.out.trans (u.h.mono HB2.out.size))
  obtain ⟨W3, hW3⟩ : ∃ X9, u.W = X9 := ⟨_, rfl⟩
  rw [hW3] at HB3 ⊢
  clear hW3 c3 d3 u HB2
  have k3 := HK.out.below HB3.out
  have k3' := HK'.out.below HB3.out
  obtain ⟨es, clock, hes, m4⟩ := MapIs.cloned k3'.map
  have hcl := clone_any m' es clock W3 hes
  have b4 : Below W3.heap.size W3 (W3.alloc (.map es clock)) := (Below.refl _ _).alloc (Nat.le_refl _) _
  have k4 := k3.below b4
  have k4' := k3'.below b4
  have d1 := (hv_cells k3'.blk).2.1
  have s4 : (W3.alloc (.map es clock)).heap.size = W3.heap.size + 1 := by simp
  have s3 := HB3.out.size
  obtain ⟨W4, hW4⟩ : ∃ W4, W3.alloc (.map es clock) = W4 := ⟨_, rfl⟩
  obtain ⟨mc, hmc⟩ : ∃ mc, W3.heap.size = mc := ⟨_, rfl⟩
  rw [hW4] at hcl b4 k4 k4' s4
  rw [hW4, hmc] at m4
  rw [hmc] at hcl s4 s3
  have hcnt : CntAt W4 mc o.l := m4
  have HT4 : Hid (Turn (fun i => i = m) w W4) := Turn.of_below (HB3.out.trans (b4.mono HB3.out.size)) _
  have HM0 : Hid (∀ todo, (∀ p ∈ o.l, todo p.1 = true) → MgS w b m b' m' h o todo h.l W4) := fun todo ht =>
    ⟨k4, k4', HH.out.po, fun q => by
      by_cases e : todo q = true
      · rw [if_pos e]; omega
      · rw [if_neg e]
        have : getC o.l q = 0 := getC_not (fun p hp e2 => e (by rw [← e2]; exact ht p hp))
        omega, by omega, HT4.out⟩
  clear hes m4 b4 k4 k4' k3 k3' hW4
  obtain ⟨ol, hol⟩ : ∃ ol, o.l = ol := ⟨_, rfl⟩
  have HOL := hidE hol
  rw [hol] at hcnt
  clear hol hmc
  go_upto_block 0 with (first
    | (at_range; refine wpList_range_c _ rfl _ rfl mc ol rfl hcnt ?_; intro w0 todo0 cnt0 hrg0 ht0 hg0 hs0)
    | (go_at_call 22; go_must (refine hcl.mono ?_; rintro e W5 ⟨rfl, hW5⟩; rw [hW5]; clear hW5 W5))
    | go_in)
  go_frame
  rw [s4] at hrg0 hs0
  rw [s4]
  have M0 := HM0.out todo0 (fun p hp => ht0 p (by rw [← HOL.out]; exact hp))
  have HM1 : Hid (MgS w b m b' m' h o todo0 h.l w0) := by
    have f : ∀ i, i < w.heap.size → w0.heap[i]? = W4.heap[i]? := fun i hi => hg0.block i (by omega) (by simp)
    exact ⟨M0.hv.keep (f b hbl) (f m hml), M0.ov.keep (f b' hbl') (f m' hml'), M0.po, M0.gt, M0.ln, M0.tn.trans (Turn.of_grown hg0 (fun g e => by cases e))⟩
  clear ht0 hcnt hg0 hs0 M0 HM0 hcl d1 HT4
  go_cut [5, 6] (fun _ _ wx => Hid (MgD w b m b' m' h o wx))
  case first =>
    go_wp2_with fail
    go_loopw [5, 6] (fun _ _ wr => ∃ (todo : Int → Bool) (cnt : Nat) (l' : Cs), RngC wr mc (mc + 1) ol todo cnt ∧ Hid (MgS w b m b' m' h o todo l' wr)) (fun _ _ wr => wr.rangeLeft mc (mc + 1))
    case atStart => exact ⟨_, _, _, hrg0, HM1⟩
    case round =>
      clear hrg0 HM1
      obtain ⟨todo, cnt, l', hrg, HM⟩ := hrel
      go_wp2_with (first
        | (at_next; refine wpList_next_c _ rfl _ rfl mc (mc + 1) _ _ _ rfl hrg ?_ ?_)
        | go_in)
      · intro hd0
        have HD : Hid (MgD w b m b' m' h o wr) := HM.out.done HH.out HO.out (fun p hp => hd0 p.1 p.2 (by rw [← HOL.out]; exact hp))
        clear hd0 hrg
        go_wp2_with fail
        go_meet
        exact HD
      · intro x1 c1 w1 cnt1 hwx hmem hlx hrg1 hlt hg1 hs1 hen
        have M1 := HM.out.next (R := mc + 1) (by omega) hbl hml hbl' hml' hg1
        have hmem' : (x1, c1) ∈ o.l := by rw [HOL.out]; exact hmem
        have hcell := (hv_cells M1.hv.blk).2.1
        have hlk := M1.hv.map.look hwx
        try simp only at hlk
        have hc0 := HO.out.po _ hmem'
        have hc2 : c1 ≤ 1099511627776 := Int.le_trans (mem_sum HO.out.po _ hmem') HO.out.sum_le
        simp only at hc0
        have hg0 := getC_nonneg M1.po x1
        have hgx : getC l' x1 ≤ 1099511627776 := by
          rw [M1.gt x1, if_pos hlx]
          have := getC_sum HH.out.po x1
          have := HH.out.sum_le
          omega
        obtain ⟨W5, hrun, m5, hg5⟩ := M1.hv.map.put hwx (by
          have q1 := M1.ln
          have q2 := List.length_filter_le (doneB todo) o.l
          have q3 := HH.out.le
          have q4 := HH.out.nn
          have q5 := HO.out.le
          have q6 := HO.out.nn
          simp only
          omega) (getC l' x1 + c1)
        try simp only at hrun
        have HM5 := hidE (M1.put hmm hmb hbm HO.out.ap HO.out.po hmem' hlx m5 hg5)
        have hrg5 : RngC W5 mc (mc + 1) ol (strike todo x1) cnt1 := hrg1.kept hg5 (by simp; omega) (by simp; omega)
        generalize getC l' x1 = g at hlk hg0 hgx hrun
        clear M1 m5 hg5 hrg1 hmem hmem' hlx hg1 hwx
        go_wp2_with fail
        go_roundw
        case rel => exact ⟨_, _, _, hrg5, HM5⟩
        case measure => rw [hrg5.left_eq, hrg.left_eq]; exact hlt
  case rest =>
    clear hrg0 HM1
    have HD := hcut
    clear hcut
    have hD := HD.out
    obtain ⟨c0, c1, c2, c3⟩ := hv_cells hD.hv.blk
    obtain ⟨y0, y1, y2, y3⟩ := hv_frees hD.hv.blk
    obtain ⟨e0, e1, e2, e3⟩ := hv_cells hD.ov.blk
    try simp only at c0 c1 c2 c3
    have l0 := HH.out.ls
    have l1 := HH.out.less_le
    have r0 := HO.out.ls
    have r1 := HO.out.less_le
    go_upto_region 9 with fail
    obtain ⟨W5, hW5, x5, o5⟩ := hv_set2 hD.hv.blk (.int .i64 (h.less + o.less))
    have HX5 := hidE x5
    have HO5 := hidE o5
    clear x5 o5 hD
    go_region
    clear c0 c1 c2 c3 y0 y1 y2 y3 e0 e1 e2 e3 hW5
    have k5 : HvAt W5.drew b m { n := h.n, less := h.less + o.less, all := h.all, l := mergeL h.l o.l } := ⟨HX5.out, HD.out.hv.map.block (HO5.out.block m hbm.symm)⟩
    have k5' : HvAt W5.drew b' m' o := HD.out.ov.keep (HO5.out.block b' hbb.symm) (HO5.out.block m' hbm'.symm)
    have T5 : Turn (fun i => i = b ∨ i = m) w W5.drew := Turn.trans (HD.out.tn.mono (fun i _ e => Or.inr e)) (Turn.of_only (w' := W5.drew) ⟨HO5.out.os, HO5.out.tape, HO5.out.output, HO5.out.size, HO5.out.block⟩ (Or.inl rfl))
    obtain ⟨W6, hW6⟩ : ∃ W6, W5.drew = W6 := ⟨_, rfl⟩
    rw [hW6] at k5 k5' T5 ⊢
    clear hW6 HX5 HO5 HD
    obtain ⟨c0, c1, c2, c3⟩ := hv_cells k5.blk
    obtain ⟨y0, y1, y2, y3⟩ := hv_frees k5.blk
    obtain ⟨e0, e1, e2, e3⟩ := hv_cells k5'.blk
    try simp only at c0 c1 c2 c3
    rw [HXY.out.2.1] at c3
    rw [HXY.out.2.2] at e3
    go_upto_region 10 with fail
    obtain ⟨W7, hW7, x7, o7⟩ := hv_set3 k5.blk (.int .i64 (x + y))
    have HK5 := hidE k5
    have HK5' := hidE k5'
    have HT5 := hidE T5
    have HX7 := hidE x7
    have HO7 := hidE o7
    clear x7 o7 k5 k5' T5
    go_region
    clear c0 c1 c2 c3 y0 y1 y2 y3 e0 e1 e2 e3 hW7
    have k7 : HvAt W7.drew b m { n := h.n, less := h.less + o.less, all := x + y, l := mergeL h.l o.l } := ⟨HX7.out, HK5.out.map.block (HO7.out.block m hbm.symm)⟩
    have T7 : Turn (fun i => i = b ∨ i = m) w W7.drew := Turn.trans HT5.out (Turn.of_only (w' := W7.drew) ⟨HO7.out.os, HO7.out.tape, HO7.out.output, HO7.out.size, HO7.out.block⟩ (Or.inl rfl))
    obtain ⟨W8, hW8⟩ : ∃ W8, W7.drew = W8 := ⟨_, rfl⟩
    rw [hW8] at k7 T7 ⊢
    clear hW8 HX7 HO7 HK5 HK5' HT5
    have hml2 : (mergeL h.l o.l).length ≤ 1000 := by
      have q1 := len_merge o.l h.l
      have q3 := HH.out.le
      have q4 := HH.out.nn
      have q5 := HO.out.le
      have q6 := HO.out.nn
      omega
    have hrk := ranked_any b m { n := h.n, less := h.less + o.less, all := x + y, l := mergeL h.l o.l } W8 k7 hml2
    simp only at hrk
    have HK7 := hidE k7
    have HT7 := hidE T7
    clear k7 T7
    go_upto_region 12 with (go_at_call 23; go_must (refine hrk.mono ?_; rintro e W9 ⟨v9, qs, rfl, q1, q2, q3, q4⟩))
    have k9 := HK7.out.below q4
    have HT9 := hidE (HT7.out.trans (Turn.of_below q4 _))
    have HQL : Hid ((qs.map fun c => (c.key, c.many)).Perm (mergeL h.l o.l) ∧ FallC (qs.map fun c => (c.key, c.many))) := by
      refine ⟨?_, ?_⟩
      · have h1 := q2.map (fun c : Ct => (c.key, c.many))
        rw [List.map_map] at h1
        have e : (mergeL h.l o.l).map ((fun c : Ct => (c.key, c.many)) ∘ ctOf (h.less + o.less)) = mergeL h.l o.l := by
          conv => rhs; rw [← List.map_id (mergeL h.l o.l)]
          exact List.map_congr_left (fun p _ => rfl)
        rw [e] at h1
        exact h1
      · unfold FallC
        rw [List.pairwise_map]
        exact q3.imp (fun {p q} hlt => by unfold LtC at hlt; simp only; omega)
    clear q2 q3 q4 hrk HT7 HK7
    have hc0 := (hv_cells k9.blk).1
    try simp only at hc0
    rw [HXY.out.1] at hc0
    have hnn := HH.out.nn
    rw [HXY.out.1] at hnn
    obtain ⟨N, rfl⟩ : ∃ N : Nat, n = (N : Int) := ⟨n.toNat, by omega⟩
    have hNt : h.n.toNat = N := by rw [HXY.out.1]; omega
    have HNT := hidE hNt
    clear hNt
    rcases q1 with ⟨rfl, rfl⟩ | ⟨g, len, cap, rfl, h1, h2, h3, h4, h5⟩
    · have HFIN : Hid (Q (.returned .nilIface) W9) := by
        show Q _ _
        rw [HQ.out]
        refine ⟨rfl, _, HQL.out.1, HQL.out.2, ?_, HT9.out⟩
        unfold mrgS
        rw [dif_neg (by simp), HXY.out.2.1, HXY.out.2.2]
        exact k9
      clear k9 HQL HT9
      have hz : ¬ ((0 : Nat) : Int) > (N : Int) := by omega
      have hz2 : ¬ (0 : Int) > (N : Int) := by omega
      go_wp2_with fail
      exact HFIN.out
    · by_cases hlt : N < len
      · have hi1 : (len : Int) > (N : Int) := by omega
        have hi2 : (N : Int) < (len : Int) := by omega
        obtain ⟨z0, z1, z2⟩ := h5 N (by omega)
        have hNq : N < qs.length := by omega
        have hlq : h.n.toNat < (qs.map fun c => (c.key, c.many)).length := by rw [HNT.out, List.length_map]; exact hNq
        have HTE : Hid ((qs.map fun c => (c.key, c.many))[h.n.toNat].2 = qs[N].many) := by
          show _ = _
          rw [List.getElem_map]
          simp only [HNT.out]
        have hpm : PosC (mergeL h.l o.l) := posC_merge o.l h.l HH.out.po HO.out.po
        have hsm := sum_merge o.l h.l HH.out.ap HH.out.po HO.out.po
        have hmt : (qs[N].key, qs[N].many) ∈ mergeL h.l o.l := HQL.out.1.mem_iff.1 (List.mem_map.2 ⟨qs[N], List.getElem_mem hNq, rfl⟩)
        have t1 := hpm _ hmt
        have t2 := mem_sum hpm _ hmt
        simp only at t1 t2
        have s1 := HH.out.sum_le
        have s2 := HO.out.sum_le
        have htk := take_any b m { n := h.n, less := h.less + o.less, all := x + y, l := mergeL h.l o.l } qs[N].many W9 k9 (by omega) (by omega) hpm (by simp only; omega) hml2 (by simp only; omega) (by simp only; omega)
        simp only at htk
        have HFIN : Hid (∀ X, HvAt X b m { n := h.n, less := h.less + o.less + qs[N].many, all := x + y, l := takeL qs[N].many (mergeL h.l o.l) } → Turn (fun i => i = b ∨ i = m) W9 X → Q (.returned .nilIface) X) := by
          intro X kX tX
          rw [HQ.out]
          refine ⟨rfl, _, HQL.out.1, HQL.out.2, ?_, HT9.out.trans tX⟩
          unfold mrgS
          rw [dif_pos hlq, HTE.out, HXY.out.2.1, HXY.out.2.2]
          exact kX
        generalize qs[N].many = t at z1 htk HFIN HTE t1 t2
        clear k9 HQL HTE hmt hpm hsm h5 z0 z2 hml2
        go_wp2_with (go_at_call 19; go_must (refine htk.mono ?_; rintro e WX ⟨rfl, kX, tX⟩))
        exact HFIN.out WX kX tX
      · have HFIN : Hid (Q (.returned .nilIface) W9) := by
          show Q _ _
          rw [HQ.out]
          refine ⟨rfl, _, HQL.out.1, HQL.out.2, ?_, HT9.out⟩
          unfold mrgS
          rw [dif_neg (by rw [HNT.out, List.length_map]; omega), HXY.out.2.1, HXY.out.2.2]
          exact k9
        clear k9 HQL HT9 h5
        have hi1 : ¬ (len : Int) > (N : Int) := by omega
        go_wp2_with fail
        exact HFIN.out
end Go.Proofs.YtchailjgikjhlaaDoor
