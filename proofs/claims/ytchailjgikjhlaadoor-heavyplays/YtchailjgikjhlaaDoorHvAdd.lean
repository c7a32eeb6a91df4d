/- What Add of package heavy returns, and what it leaves. -/
import Derived.Test.YtchailjgikjhlaaDoorHvCnt
namespace Go.Proofs.YtchailjgikjhlaaDoor
open Go.RowKit Go.Maps
set_option linter.unusedVariables false

set_option maxRecDepth 100000 in
set_option maxHeartbeats 8000000 in
theorem add_bad (b m : Nat) (h : Hv) (key many : Int) (w : World) (k : HvAt w b m h) (ok : HvOk h) (hE : ¬ addE h many = 0) :
    Calls Tryd.prog 6 #[.pointer (some ⟨b, 0, none⟩), .int .i64 key, .int .i64 many] w fun e w' => e = .returned (.iface 47 (.int .i64 (addE h many))) ∧ w' = w := by
  obtain ⟨c0, c1, c2, c3⟩ := hv_cells k.blk
  have a0 := ok.all_nonneg
  have a1 := ok.al
  unfold addE at hE ⊢
  generalize h.all = al at c3 a0 a1 hE ⊢
  clear k ok c0 c1 c2
  by_cases h1 : many < 1
  · rw [if_pos (Or.inl h1)]
    clear hE
    go_enter Tryd.func6, Tryd.ntmps6
    go_wp2_with fail
    go_ret
    exact ⟨rfl, rfl⟩
  · by_cases h2 : 1000000 < many
    · rw [if_pos (Or.inr h2)]
      clear hE
      go_enter Tryd.func6, Tryd.ntmps6
      go_wp2_with fail
      go_ret
      exact ⟨rfl, rfl⟩
    · rw [if_neg (by omega)] at hE ⊢
      by_cases h3 : 1099511627776 < al + many
      · rw [if_pos h3]
        clear hE
        go_enter Tryd.func6, Tryd.ntmps6
        go_wp2_with fail
        go_ret
        exact ⟨rfl, rfl⟩
      · exact absurd (if_neg h3) hE
set_option maxRecDepth 100000 in
set_option maxHeartbeats 16000000 in
theorem add_ok (b m : Nat) (h : Hv) (key many : Int) (w : World) (k : HvAt w b m h) (ok : HvOk h) (hk : WfK key) (hE : addE h many = 0) :
    Calls Tryd.prog 6 #[.pointer (some ⟨b, 0, none⟩), .int .i64 key, .int .i64 many] w fun e w' => e = .returned .nilIface ∧ HvAt w' b m (addG h key many) ∧ Turn (fun i => i = b ∨ i = m) w w' := by
  obtain ⟨h1, h2, h3⟩ := addE_ok hE
  clear hE
  obtain ⟨c0, c1, c2, c3⟩ := hv_cells k.blk
  obtain ⟨y0, y1, y2, y3⟩ := hv_frees k.blk
  have a0 := ok.all_nonneg
  have a1 := ok.al
  have hne := k.ne
  obtain ⟨W1, hW1, x1, o1⟩ := hv_set3 k.blk (.int .i64 (h.all + many))
  have k1 : HvAt W1 b m { n := h.n, less := h.less, all := h.all + many, l := h.l } := ⟨x1, k.map.block (o1.block m hne.symm)⟩
  have T1 : Turn (fun i => i = b ∨ i = m) w W1 := Turn.of_only o1 (Or.inl rfl)
  have hroom := hidE (room_any b m _ key W1 k1 hk)
  rw [show roomB { n := h.n, less := h.less, all := h.all + many, l := h.l } key = roomB h key from rfl] at hroom
  have HK := hidE k1
  have HT := hidE T1
  have HOK := hidE ok
  have HWF := hidE hk
  obtain ⟨al, hal⟩ : ∃ al, h.all = al := ⟨_, rfl⟩
  have HAL := hidE hal
  rw [hal] at c3 a0 a1 hW1 h3
  have hg0 := getC_nonneg ok.po key
  have hg1 : getC h.l key ≤ 1099511627776 := Int.le_trans (getC_sum ok.po key) ok.sum_le
  have hll : h.l.length ≤ 1000 := by have := ok.le; have := ok.nn; omega
  have HLL := hidE hll
  clear k k1 T1 x1 o1 hal ok hk c0 c1 c2 y0 y1 y2 hll
  cases hr : roomB h key
  · -- no room
    rw [hr] at hroom
    have l1 := least_le many h.l
    have l2 := least_pos HOK.out.po h1
    have HRES : Hid (addG h key many = { n := h.n, less := h.less + leastL many h.l, all := h.all + many, l := restL (takeL (leastL many h.l) h.l) key (many - leastL many h.l) }) := by
      show addG _ _ _ = _
      unfold addG
      rw [hr]
      rfl
    have HLE := hidE (fun X kX => least_any b m { n := h.n, less := h.less, all := h.all + many, l := h.l } many X kX)
    have HTK := hidE (fun X kX => take_any b m { n := h.n, less := h.less, all := h.all + many, l := h.l } (leastL many h.l) X kX (by omega) (by omega) HOK.out.po (by have := HOK.out.sum_le; simp only; omega) HLL.out HOK.out.ls (by have := HOK.out.less_le; simp only; omega))
    simp only at HLE HTK
    have HGT : Hid (0 ≤ getC (takeL (leastL many h.l) h.l) key ∧ getC (takeL (leastL many h.l) h.l) key ≤ 1099511627776) := by
      have := getC_take HOK.out.ap HOK.out.po (part := leastL many h.l) (by omega) key
      show _ ∧ _
      omega
    have HLT : Hid ((takeL (leastL many h.l) h.l).length ≤ 1000000) := by
      have := take_len h.l (leastL many h.l)
      have := HLL.out
      show _ ≤ _
      omega
    generalize leastL many h.l = part at l1 l2 HRES HLE HTK HGT HLT
    go_enter Tryd.func6, Tryd.ntmps6
    go_upto_region 6 with fail
    try rw [hW1]
    clear hW1 c3 y3
    have hc := hroom.out
    go_upto_region 7 with (go_at_call 17; go_must (refine hc.mono ?_; rintro e W2 ⟨rfl, b2⟩))
    have k2 := HK.out.below b2
    have HT2 := hidE (HT.out.trans (Turn.of_below b2 _))
    have HK2 := hidE k2
    have hc2 := HLE.out W2 k2
    clear hc b2 k2
    go_upto_region 8 with (go_at_call 18; go_must (refine hc2.mono ?_; rintro e W3 ⟨rfl, b3⟩))
    have k3 := HK2.out.below b3
    have HT3 := hidE (HT2.out.trans (Turn.of_below b3 _))
    have hc3 := HTK.out W3 k3
    clear hc2 b3 k3
    go_upto_region 10 with (go_at_call 19; go_must (refine hc3.mono ?_; rintro e W4 ⟨rfl, k4, t4⟩))
    have HT4 := hidE (HT3.out.trans t4)
    obtain ⟨c0, c1, c2, c3⟩ := hv_cells k4.blk
    have hlk := k4.map.look HWF.out
    try simp only at hlk
    obtain ⟨g0, g1⟩ := HGT.out
    obtain ⟨W5, hrun, m5, hg5⟩ := k4.map.put HWF.out HLT.out (getC (takeL part h.l) key + (many - part))
    try simp only at hrun
    by_cases hm : 0 < many - part
    · have HFIN : Hid (HvAt W5 b m (addG h key many) ∧ Turn (fun i => i = b ∨ i = m) w W5) := by
        show _ ∧ _
        rw [HRES.out, show restL (takeL part h.l) key (many - part) = putC (takeL part h.l) key (getC (takeL part h.l) key + (many - part)) from if_pos hm]
        exact ⟨⟨(hg5.block b k4.lt (by simpa using hne)).trans k4.blk, m5⟩, HT4.out.trans (Turn.of_grown hg5 (fun g e => by cases e; exact Or.inr rfl))⟩
      clear hc3 k4 t4 m5 hg5 c0 c2 c3 HRES HGT
      generalize getC (takeL part h.l) key = g at hlk g0 g1 hrun
      go_wp2_with fail
      go_ret
      exact ⟨rfl, HFIN.out⟩
    · have HFIN : Hid (HvAt W4 b m (addG h key many) ∧ Turn (fun i => i = b ∨ i = m) w W4) := by
        show _ ∧ _
        rw [HRES.out, show restL (takeL part h.l) key (many - part) = takeL part h.l from if_neg hm]
        exact ⟨k4, HT4.out⟩
      clear hc3 k4 t4 m5 hg5 c0 c2 c3 HRES HGT hrun hlk
      go_wp2_with fail
      go_ret
      exact ⟨rfl, HFIN.out⟩
  · -- room
    rw [hr] at hroom
    have HRES : Hid (addG h key many = { n := h.n, less := h.less, all := h.all + many, l := putC h.l key (getC h.l key + many) }) := by
      show addG _ _ _ = _
      unfold addG
      rw [hr]
      unfold restL
      rw [if_pos (show 0 < many by omega)]
      rfl
    go_enter Tryd.func6, Tryd.ntmps6
    go_upto_region 6 with fail
    try rw [hW1]
    clear hW1 c3 y3
    have hc := hroom.out
    go_upto_region 10 with (go_at_call 17; go_must (refine hc.mono ?_; rintro e W2 ⟨rfl, b2⟩))
    have k2 := HK.out.below b2
    have HT2 := hidE (HT.out.trans (Turn.of_below b2 _))
    obtain ⟨c0, c1, c2, c3⟩ := hv_cells k2.blk
    have hlk := k2.map.look HWF.out
    try simp only at hlk
    obtain ⟨W5, hrun, m5, hg5⟩ := k2.map.put HWF.out (by have := HLL.out; simp only; omega) (getC h.l key + many)
    have HFIN : Hid (HvAt W5 b m (addG h key many) ∧ Turn (fun i => i = b ∨ i = m) w W5) := by
      show _ ∧ _
      rw [HRES.out]
      exact ⟨⟨(hg5.block b k2.lt (by simpa using hne)).trans k2.blk, m5⟩, HT2.out.trans (Turn.of_grown hg5 (fun g e => by cases e; exact Or.inr rfl))⟩
    clear hc b2 k2 m5 hg5 c0 c2 c3 HRES
    generalize getC h.l key = g at hlk hg0 hg1 hrun
    go_wp2_with fail
    go_ret
    exact ⟨rfl, HFIN.out⟩
end Go.Proofs.YtchailjgikjhlaaDoor
