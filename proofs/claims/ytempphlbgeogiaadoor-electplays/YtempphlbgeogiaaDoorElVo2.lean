/- The voter of package elect: Hear, outranks, Wants, Demote, Prio. -/
import Derived.Test.YtempphlbgeogiaaDoorElVot
namespace Go.Proofs.YtempphlbgeogiaaDoor
open Go.RowKit
set_option linter.unusedVariables false

set_option maxHeartbeats 4000000 in
theorem hear_tm (b : Nat) (v : Vt) (u now z : Int) (w : World) (h : VtAt w b v) (hz : tmE v.now now = z) (h0 : ¬ z = 0) :
    Calls Tryd.prog 13 #[.pointer (some ⟨b, 0, none⟩), .int .i64 u, .int .i64 now] w fun e w' => e = .returned (.iface 55 (.int .i64 z)) ∧ Below w.heap.size w w' := by
  obtain ⟨c0, _⟩ := vt_cells h
  generalize v.now = t at c0 hz
  have hM : Hid (∀ (g : Nat) (W : World), W.cell? ⟨g, 0, none⟩ = some (.int .i64 t) → Calls Tryd.prog 27 #[.pointer (some ⟨g, 0, none⟩), .int .i64 now] W fun e w' => e = .returned (.iface 55 (.int .i64 z)) ∧ w' = W) := fun g W hc => mv_bad g t now z W hz h0 hc
  clear h hz h0
  go_enter Tryd.func13, Tryd.ntmps13
  go_wp2_with (go_at_call 27; go_must (refine (hM.out _ _ (by simp)).mono ?_; rintro e W2 ⟨rfl, hW2⟩; rw [hW2]; clear hW2 W2))
  go_ret
  exact ⟨rfl, by repeat (first | exact Below.refl _ _ | refine Below.setCell ?_ (by simp) _ | refine Below.alloc ?_ (by simp) _)⟩
set_option maxHeartbeats 4000000 in
theorem hear_bad (b : Nat) (v : Vt) (u now : Int) (w : World) (h : VtAt w b v) (hz : tmE v.now now = 0) (h0 : prB u = false) :
    Calls Tryd.prog 13 #[.pointer (some ⟨b, 0, none⟩), .int .i64 u, .int .i64 now] w fun e w' => e = .returned (.iface 55 (.int .i64 1)) ∧ Below w.heap.size w w' := by
  obtain ⟨c0, _⟩ := vt_cells h
  generalize v.now = t at c0 hz
  have hM : Hid (∀ (g : Nat) (W : World), W.cell? ⟨g, 0, none⟩ = some (.int .i64 t) → W.frozen? ⟨g, 0, none⟩ = false → Calls Tryd.prog 27 #[.pointer (some ⟨g, 0, none⟩), .int .i64 now] W fun e w' => e = .returned .nilIface ∧ w' = W.setCell ⟨g, 0, none⟩ (.int .i64 now)) := fun g W hc hf => mv_ok g t now W hz hc hf
  have hP : Hid (∀ W, Calls Tryd.prog 23 #[.int .i64 u] W fun e w' => e = .returned (.bool false) ∧ w' = W) := fun W => by have := isPrio_any u W; rw [h0] at this; exact this
  clear h hz h0
  go_enter Tryd.func13, Tryd.ntmps13
  go_wp2_with (first
    | (go_at_call 27; go_must (refine (hM.out _ _ (by simp) (by simp)).mono ?_; rintro e W2 ⟨rfl, hW2⟩; rw [hW2]; clear hW2 W2))
    | (go_at_call 23; go_must (refine (hP.out _).mono ?_; rintro e W2 ⟨rfl, hW2⟩; rw [hW2]; clear hW2 W2)))
  go_ret
  exact ⟨rfl, by repeat (first | exact Below.refl _ _ | refine Below.setCell ?_ (by simp) _ | refine Below.alloc ?_ (by simp) _)⟩
theorem vt_set056 {w : World} {b : Nat} {x0 x1 x2 x3 x4 x5 x6 : Value} {T : TypeId} (h : w.heap[b]? = some (.cells #[x0, x1, x2, x3, x4, x5, x6] T (0, 0))) (y0 y5 y6 : Value) :
    (((w.setCell ⟨b, 0, none⟩ y0).setCell ⟨b, 5, none⟩ y5).setCell ⟨b, 6, none⟩ y6).heap[b]? = some (.cells #[y0, x1, x2, x3, x4, y5, y6] T (0, 0)) := heap_setCell_same _ b 6 _ _ y6 (heap_setCell_same _ b 5 _ _ y5 (heap_setCell_same _ b 0 _ _ y0 h))
set_option maxHeartbeats 8000000 in
theorem hear_ok (b : Nat) (v : Vt) (u now : Int) (w : World) (h : VtAt w b v) (hz : tmE v.now now = 0) (h0 : prB u = true) :
    Calls Tryd.prog 13 #[.pointer (some ⟨b, 0, none⟩), .int .i64 u, .int .i64 now] w fun e w' => e = .returned .nilIface ∧ VtAt w' b { v with now := now, oth := u, cnt := now + 30 } ∧ Turn (fun i => i = b) w w' := by
  obtain ⟨c0, _⟩ := vt_cells h
  have HAT : Hid (VtAt w b v) := h
  have HL := h.lt
  obtain ⟨n0, n1, _⟩ := tmE_ok hz
  have hP : Hid (∀ W, Calls Tryd.prog 23 #[.int .i64 u] W fun e w' => e = .returned (.bool true) ∧ w' = W) := fun W => by have := isPrio_any u W; rw [h0] at this; exact this
  have hM : Hid (∀ (g : Nat) (W : World), W.cell? ⟨g, 0, none⟩ = some (.int .i64 v.now) → W.frozen? ⟨g, 0, none⟩ = false → Calls Tryd.prog 27 #[.pointer (some ⟨g, 0, none⟩), .int .i64 now] W fun e w' => e = .returned .nilIface ∧ w' = W.setCell ⟨g, 0, none⟩ (.int .i64 now)) := fun g W hc hf => mv_ok g v.now now W hz hc hf
  clear h hz h0
  go_enter Tryd.func13, Tryd.ntmps13
  go_upto_region 3 with (go_at_call 27; go_must (refine (hM.out _ _ (by simp) (by simp)).mono ?_; rintro e W2 ⟨rfl, hW2⟩; rw [hW2]; clear hW2 W2))
  have HB : Hid (Below w.heap.size w (w.alloc (.cells #[.int .i64 now] 57))) := (Below.refl _ _).alloc (by simp) _
  have q0 := one_cell (heap_alloc_new w (.cells #[.int .i64 now] 57))
  have hs3 : w.heap.size < (w.alloc (.cells #[.int .i64 now] 57)).heap.size := by simp
  have HAT3 : Hid (VtAt (w.alloc (.cells #[.int .i64 now] 57)) b v) := HAT.out.below HB.out
  obtain ⟨W3, hW3⟩ : ∃ W3, w.alloc (.cells #[.int .i64 now] 57) = W3 := ⟨_, rfl⟩
  obtain ⟨g, hg⟩ : ∃ g, w.heap.size = g := ⟨_, rfl⟩
  rw [hW3] at HB HAT3 q0 hs3
  rw [hg] at q0 hs3
  rw [hW3]
  conv => arg 4; simp only [hg]
  obtain ⟨d0, df⟩ := q0
  obtain ⟨c0, c1, c2, c3, c4, c5, c6⟩ := vt_cells HAT3.out
  obtain ⟨f0, f2, f4, f5, f6⟩ := vt_frees HAT3.out
  have hbg : b ≠ g := by omega
  clear hW3 HAT hg hM
  go_wp2_with (go_at_call 23; go_must (refine (hP.out _).mono ?_; rintro e W2 ⟨rfl, hW2⟩; rw [hW2]; clear hW2 W2))
  go_ret
  exact ⟨rfl, vt_set056 HAT3.out _ _ _, ((Turn.of_below HB.out (fun i => i = b)).trans (Turn.of_only ((((Only.refl _ _).setCell _ _).setCell _ _).setCell _ _) rfl))⟩
theorem hear_any (b : Nat) (v : Vt) (u now : Int) (w : World) (h : VtAt w b v) :
    Calls Tryd.prog 13 #[.pointer (some ⟨b, 0, none⟩), .int .i64 u, .int .i64 now] w fun e w' => e = .returned (elV (hearE v u now)) ∧ VtAt w' b (hearV v u now) ∧ Turn (fun i => i = b) w w' := by
  by_cases hz : tmE v.now now = 0
  · cases h0 : prB u
    · have he : hearE v u now = 1 := by unfold hearE; rw [if_pos hz, h0]; rfl
      refine (hear_bad b v u now w h hz h0).mono ?_
      rintro e w' ⟨rfl, h1⟩
      unfold hearV
      rw [he]
      exact ⟨rfl, h.below h1, Turn.of_below h1 _⟩
    · have he : hearE v u now = 0 := by unfold hearE; rw [if_pos hz, h0]; rfl
      refine (hear_ok b v u now w h hz h0).mono ?_
      rintro e w' ⟨rfl, h1, h2⟩
      unfold hearV
      rw [he]
      exact ⟨rfl, h1, h2⟩
  · have he : hearE v u now = tmE v.now now := by unfold hearE; rw [if_neg hz]
    refine (hear_tm b v u now _ w h rfl hz).mono ?_
    rintro e w' ⟨rfl, h1⟩
    unfold hearV
    rw [he, if_neg hz]
    refine ⟨?_, h.below h1, Turn.of_below h1 _⟩
    unfold elV
    rw [if_neg hz]


/-! ### outranks, Wants, Demote, Prio -/
theorem hidV {p : Prop} (h : p) : Hid p := h
set_option maxHeartbeats 4000000 in
theorem over_any (b : Nat) (v : Vt) (p : Int) (w : World) (h : VtAt w b v) :
    Calls Tryd.prog 29 #[.pointer (some ⟨b, 0, none⟩), .int .i64 p] w fun e w' => e = .returned (.bool (overB v p)) ∧ w' = w := by
  obtain ⟨c0, c1, c2, c3, c4, c5, c6⟩ := vt_cells h
  unfold overB
  generalize v.node = nd at c1 ⊢
  generalize v.prio = pr at c2 ⊢
  clear h
  by_cases g1 : p < pr
  · rw [decide_eq_true (.inl g1 : p < pr ∨ (pr = p ∧ nd = 0))]
    go_enter Tryd.func29, Tryd.ntmps29
    go_wp2_with fail
    go_ret
    exact ⟨rfl, rfl⟩
  · by_cases g2 : pr = p
    · have k2 : (pr == p) = true := by simpa using g2
      by_cases g3 : nd = 0
      · rw [decide_eq_true (.inr ⟨g2, g3⟩ : p < pr ∨ (pr = p ∧ nd = 0))]
        have k3 : (nd == 0) = true := by simpa using g3
        clear g2 g3
        go_enter Tryd.func29, Tryd.ntmps29
        go_wp2_with fail
        go_ret
        exact ⟨rfl, rfl⟩
      · rw [decide_eq_false (by omega : ¬ (p < pr ∨ (pr = p ∧ nd = 0)))]
        have k3 : (nd == 0) = false := by simpa using g3
        clear g2 g3
        go_enter Tryd.func29, Tryd.ntmps29
        go_wp2_with fail
        go_ret
        exact ⟨rfl, rfl⟩
    · rw [decide_eq_false (by omega : ¬ (p < pr ∨ (pr = p ∧ nd = 0)))]
      have k2 : (pr == p) = false := by simpa using g2
      clear g2
      go_enter Tryd.func29, Tryd.ntmps29
      go_wp2_with fail
      go_ret
      exact ⟨rfl, rfl⟩
set_option maxHeartbeats 4000000 in
theorem want_tm (b : Nat) (v : Vt) (now z : Int) (w : World) (h : VtAt w b v) (hz : tmE v.now now = z) (h0 : ¬ z = 0) :
    Calls Tryd.prog 18 #[.pointer (some ⟨b, 0, none⟩), .int .i64 now] w fun e w' => e = .returned (.tuple #[.bool false, .iface 55 (.int .i64 z)]) ∧ w' = w := by
  obtain ⟨c0, _⟩ := vt_cells h
  have hM := mv_bad b v.now now z w hz h0 c0
  clear h hz h0 c0
  go_enter Tryd.func18, Tryd.ntmps18
  go_wp2_with (go_at_call 27; go_must (refine hM.mono ?_; rintro e W2 ⟨rfl, hW2⟩; rw [hW2]; clear hW2 W2))
  go_ret2
  exact ⟨rfl, rfl⟩
set_option maxHeartbeats 8000000 in
theorem want_ok (b : Nat) (v : Vt) (now : Int) (w : World) (h : VtAt w b v) (ok : VtOk v) (hz : tmE v.now now = 0) :
    Calls Tryd.prog 18 #[.pointer (some ⟨b, 0, none⟩), .int .i64 now] w fun e w' => e = .returned (.tuple #[.bool (wanB v now), .nilIface]) ∧ VtAt w' b { v with now := now } ∧ Turn (fun i => i = b) w w' := by
  obtain ⟨c0, _⟩ := vt_cells h
  obtain ⟨f0, _⟩ := vt_frees h
  obtain ⟨h0, h1, _⟩ := tmE_ok hz
  have hM := mv_ok b v.now now w hz c0 f0
  have hA : VtAt (w.setCell ⟨b, 0, none⟩ (.int .i64 now)) b { v with now := now } := vt_set0 h _
  have HT : Hid (Turn (fun i => i = b) w (w.setCell ⟨b, 0, none⟩ (.int .i64 now))) := Turn.of_only ((Only.refl _ _).setCell _ _) rfl
  have hL := leads_any b { v with now := now } now _ hA (ok.at now) h0 h1
  rw [show masB { v with now := now } now = masB v now from rfl] at hL
  have HA : Hid (VtAt (w.setCell ⟨b, 0, none⟩ (.int .i64 now)) b { v with now := now }) := hA
  obtain ⟨R, HR⟩ : ∃ R, Hid (wanB v now = R) := ⟨_, rfl⟩
  rw [HR.out]
  obtain ⟨w1, hw1⟩ : ∃ w1, w.setCell ⟨b, 0, none⟩ (.int .i64 now) = w1 := ⟨_, rfl⟩
  rw [hw1] at hM HT hL HA hA
  have HO : Hid (∀ W, Below w1.heap.size w1 W → Calls Tryd.prog 29 #[.pointer (some ⟨b, 0, none⟩), .int .i64 v.oth] W fun e w' => e = .returned (.bool (overB v v.oth)) ∧ w' = W) := fun W bW => over_any b { v with now := now } v.oth W (HA.out.below bW)
  have HCN : Hid (∀ W, Below w1.heap.size w1 W → W.cell? ⟨b, 5, none⟩ = some (.int .i64 v.oth) ∧ W.cell? ⟨b, 6, none⟩ = some (.int .i64 v.cnt)) := fun W bW => by
    obtain ⟨_, _, _, _, _, c5, c6⟩ := vt_cells (HA.out.below bW)
    exact ⟨c5, c6⟩
  obtain ⟨d5, d6⟩ := HCN.out w1 (Below.refl _ _)
  have HL1 := hidV hA.lt
  obtain ⟨V2, hV2⟩ : ∃ V2, ({ v with now := now } : Vt) = V2 := ⟨_, rfl⟩
  rw [hV2] at HA
  rw [hV2]
  clear h hz hA hw1 c0 f0 hV2
  unfold wanB at HR
  generalize overB v v.oth = ob at HO HR
  generalize v.oth = ot at HO HCN d5
  generalize v.cnt = cn at HCN d6 HR
  cases hB : masB v now
  · rw [hB] at hL HR
    clear hB
    by_cases hcn : cn ≤ now
    · rw [decide_eq_true hcn] at HR
      have HV : Hid (true = R) := HR.out
      have k1 : decide (cn ≤ now) = true := decide_eq_true hcn
      clear HR
      go_enter Tryd.func18, Tryd.ntmps18
      go_upto_region 4 with (go_at_call 27; go_must (refine hM.mono ?_; rintro e W2 ⟨rfl, hW2⟩; rw [hW2]; clear hW2 W2))
      go_wp2_with (go_at_call 28; go_must (refine hL.mono ?_; rintro e W2 ⟨rfl, b2⟩))
      go_ret2
      exact ⟨by rw [← HV.out]; rfl, HA.out.below b2, HT.out.trans (Turn.of_below b2 _)⟩
    · rw [decide_eq_false hcn] at HR
      have HV : Hid (ob = R) := hidV (by simpa using HR.out)
      clear HR
      go_enter Tryd.func18, Tryd.ntmps18
      go_upto_region 5 with (go_at_call 27; go_must (refine hM.mono ?_; rintro e W2 ⟨rfl, hW2⟩; rw [hW2]; clear hW2 W2))
      clear d5 d6
      go_wp2_with (first
        | (go_at_call 28; go_must (refine hL.mono ?_; rintro e W2 ⟨rfl, b2⟩; have b2' := hidV b2; obtain ⟨d5, d6⟩ := HCN.out W2 b2; clear b2))
        | (go_at_call 29; go_must (refine (HO.out _ b2'.out).mono ?_; rintro e W3 ⟨rfl, hW3⟩; rw [hW3]; clear hW3 W3)))
      go_ret2
      exact ⟨by have e : decide (cn ≤ now) = false := decide_eq_false (by omega); rw [← HV.out]; simp [e], HA.out.below b2'.out, HT.out.trans (Turn.of_below b2'.out _)⟩
  · rw [hB] at hL HR
    have HV : Hid (true = R) := hidV (by simpa using HR.out)
    clear HR hB
    go_enter Tryd.func18, Tryd.ntmps18
    go_upto_region 4 with (go_at_call 27; go_must (refine hM.mono ?_; rintro e W2 ⟨rfl, hW2⟩; rw [hW2]; clear hW2 W2))
    generalize hdd : decide (cn ≤ now) = dd
    go_wp2_with (go_at_call 28; go_must (refine hL.mono ?_; rintro e W2 ⟨rfl, b2⟩))
    all_goals
      go_ret2
      exact ⟨by rw [← HV.out]; rfl, HA.out.below b2, HT.out.trans (Turn.of_below b2 _)⟩
def wanR (v : Vt) (now : Int) : Bool := if tmE v.now now = 0 then wanB v now else false
theorem want_any (b : Nat) (v : Vt) (now : Int) (w : World) (h : VtAt w b v) (ok : VtOk v) :
    Calls Tryd.prog 18 #[.pointer (some ⟨b, 0, none⟩), .int .i64 now] w fun e w' => e = .returned (.tuple #[.bool (wanR v now), elV (tmE v.now now)]) ∧ VtAt w' b (movV v now) ∧ Turn (fun i => i = b) w w' := by
  by_cases hz : tmE v.now now = 0
  · refine (want_ok b v now w h ok hz).mono ?_
    rintro e w' ⟨rfl, h1, h2⟩
    unfold wanR movV elV
    rw [if_pos hz, if_pos hz, if_pos hz]
    exact ⟨rfl, h1, h2⟩
  · refine (want_tm b v now _ w h rfl hz).mono ?_
    rintro e w' ⟨rfl, rfl⟩
    unfold wanR movV elV
    rw [if_neg hz, if_neg hz, if_neg hz]
    exact ⟨rfl, h, Turn.refl _ _⟩
theorem prio_any (b : Nat) (v : Vt) (w : World) (h : VtAt w b v) :
    Calls Tryd.prog 20 #[.pointer (some ⟨b, 0, none⟩)] w fun e w' => e = .returned (.int .i64 v.prio) ∧ w' = w := by
  obtain ⟨c0, c1, c2, c3, c4, c5, c6⟩ := vt_cells h
  clear h
  go_enter Tryd.func20, Tryd.ntmps20
  go_wp2_with fail
  go_ret
  exact ⟨rfl, rfl⟩
theorem vt_set2 {w : World} {b : Nat} {x0 x1 x2 x3 x4 x5 x6 : Value} {T : TypeId} (h : w.heap[b]? = some (.cells #[x0, x1, x2, x3, x4, x5, x6] T (0, 0))) (y2 : Value) :
    (w.setCell ⟨b, 2, none⟩ y2).heap[b]? = some (.cells #[x0, x1, y2, x3, x4, x5, x6] T (0, 0)) := heap_setCell_same _ b 2 _ _ y2 h
set_option maxHeartbeats 4000000 in
theorem dem_any (b : Nat) (v : Vt) (d : Int) (w : World) (h : VtAt w b v) (ok : VtOk v) :
    Calls Tryd.prog 15 #[.pointer (some ⟨b, 0, none⟩), .int .i64 d] w fun e w' => e = .returned (elV (demE d)) ∧ VtAt w' b (demV v d) ∧ Turn (fun i => i = b) w w' := by
  obtain ⟨c0, c1, c2, c3, c4, c5, c6⟩ := vt_cells h
  obtain ⟨f0, f2, _⟩ := vt_frees h
  by_cases hd : d < -255 ∨ 255 < d
  · have e : demE d = 1 := if_pos hd
    have e2 : demV v d = v := by unfold demV; rw [e]; rfl
    rw [e, e2, show elV 1 = .iface 55 (.int .i64 1) from rfl]
    have HAT := hidV h
    rcases (by omega : d < -255 ∨ (¬ d < -255 ∧ 255 < d)) with h1 | ⟨h1, h2⟩
    all_goals
      clear h hd e e2
      go_enter Tryd.func15, Tryd.ntmps15
      go_wp2_with fail
      go_ret
      exact ⟨rfl, HAT.out, Turn.refl _ _⟩
  · have e : demE d = 0 := if_neg hd
    have e2 : demV v d = { v with prio := demI v.prio d } := by unfold demV; rw [e]; rfl
    rw [e, e2, show elV 0 = .nilIface from rfl]
    have HAT : Hid (∀ z, VtAt (w.setCell ⟨b, 2, none⟩ (.int .i64 z)) b { v with prio := z }) := fun z => vt_set2 h _
    have p1 := ok.p1
    have p2 := ok.p2
    have h1 : ¬ d < -255 := by omega
    have h2 : ¬ 255 < d := by omega
    have h3 : -255 ≤ d := by omega
    have h4 : d ≤ 255 := by omega
    unfold demI
    clear h hd e e2 ok
    go_enter Tryd.func15, Tryd.ntmps15
    go_wp2_with fail
    go_ret
    exact ⟨rfl, HAT.out _, Turn.of_only ((Only.refl _ _).setCell _ _) rfl⟩
end Go.Proofs.YtempphlbgeogiaaDoor
