/- The voter of package elect: NewVoter, Grant, leads, Role. -/
import Derived.Test.YtempphlbgeogiaaDoorElAt
namespace Go.Proofs.YtempphlbgeogiaaDoor
open Go.RowKit
set_option linter.unusedVariables false

def nvB (node prio drift : Int) : Bool := decide ((node = 0 ∨ node = 1) ∧ (0 ≤ prio ∧ prio ≤ 255) ∧ 0 ≤ drift ∧ drift ≤ 1000)
set_option maxHeartbeats 4000000 in
theorem newV_bad (node prio drift : Int) (w : World) (h : nvB node prio drift = false) :
    Calls Tryd.prog 7 #[.int .i64 node, .int .i64 prio, .int .i64 drift] w fun e w' => e = .returned (.tuple #[.pointer none, .iface 55 (.int .i64 1)]) ∧ w' = w := by
  have hN := isNode_any node w
  have hP := isPrio_any prio w
  have h' := of_decide_eq_false h
  clear h
  cases hd : decide (node = 0 ∨ node = 1)
  · rw [hd] at hN
    clear h' hd
    go_enter Tryd.func7, Tryd.ntmps7
    go_wp2_with (go_at_call 22; go_must (refine hN.mono ?_; rintro e W2 ⟨rfl, hW2⟩; rw [hW2]; clear hW2 W2))
    go_ret2
    exact ⟨rfl, rfl⟩
  · rw [hd] at hN
    cases hp : prB prio
    · rw [hp] at hP
      clear h' hd hp
      go_enter Tryd.func7, Tryd.ntmps7
      go_wp2_with (first
        | (go_at_call 22; go_must (refine hN.mono ?_; rintro e W2 ⟨rfl, hW2⟩; rw [hW2]; clear hW2 W2))
        | (go_at_call 23; go_must (refine hP.mono ?_; rintro e W2 ⟨rfl, hW2⟩; rw [hW2]; clear hW2 W2)))
      go_ret2
      exact ⟨rfl, rfl⟩
    · rw [hp] at hP
      have hd' := of_decide_eq_true hd
      have hp' := of_decide_eq_true hp
      rcases (by omega : drift < 0 ∨ (¬ drift < 0 ∧ 1000 < drift)) with h1 | ⟨h1, h2⟩
      all_goals
        clear h' hd hp hd' hp'
        go_enter Tryd.func7, Tryd.ntmps7
        go_wp2_with (first
          | (go_at_call 22; go_must (refine hN.mono ?_; rintro e W2 ⟨rfl, hW2⟩; rw [hW2]; clear hW2 W2))
          | (go_at_call 23; go_must (refine hP.mono ?_; rintro e W2 ⟨rfl, hW2⟩; rw [hW2]; clear hW2 W2)))
        go_ret2
        exact ⟨rfl, rfl⟩
set_option maxHeartbeats 4000000 in
theorem newV_ok (node prio drift : Int) (w : World) (h : nvB node prio drift = true) :
    Calls Tryd.prog 7 #[.int .i64 node, .int .i64 prio, .int .i64 drift] w fun e w' => e = .returned (.tuple #[.pointer (some ⟨w.heap.size, 0, none⟩), .nilIface]) ∧ w' = w.alloc (.cells #[.int .i64 0, .int .i64 node, .int .i64 prio, .int .i64 drift, .int .i64 0, .int .i64 0, .int .i64 0] 62) := by
  obtain ⟨hd, hp, h1, h2⟩ := of_decide_eq_true h
  have hN := isNode_any node w
  have hP := isPrio_any prio w
  rw [decide_eq_true hd] at hN
  rw [show prB prio = true from decide_eq_true hp] at hP
  have h1 : ¬ drift < 0 := by omega
  have h2 : ¬ 1000 < drift := by omega
  clear h hd hp
  go_enter Tryd.func7, Tryd.ntmps7
  go_wp2_with (first
    | (go_at_call 22; go_must (refine hN.mono ?_; rintro e W2 ⟨rfl, hW2⟩; rw [hW2]; clear hW2 W2))
    | (go_at_call 23; go_must (refine hP.mono ?_; rintro e W2 ⟨rfl, hW2⟩; rw [hW2]; clear hW2 W2)))
  go_ret2
  exact ⟨rfl, rfl⟩
theorem newV_at (node prio drift : Int) (w : World) : VtAt (w.alloc (.cells #[.int .i64 0, .int .i64 node, .int .i64 prio, .int .i64 drift, .int .i64 0, .int .i64 0, .int .i64 0] 62)) w.heap.size { now := 0, node := node, prio := prio, drift := drift, unt := 0, oth := 0, cnt := 0 } := heap_alloc_new _ _

theorem newA_fit (l : Int) (w : World) (h1 : ¬ l < 1) (h2 : ¬ 1000000 < l) :
    Calls Tryd.prog 5 #[.int .i64 l] w fun e w' => e = .returned (.tuple #[.pointer (some ⟨w.heap.size, 0, none⟩), .nilIface]) ∧ ArAt w' w.heap.size { now := 0, lease := l, own := 0, unt := 0 } ∧ Below w.heap.size w w' ∧ w'.heap.size = w.heap.size + 1 := by
  refine (newA_ok l w h1 h2).mono ?_
  rintro e w' ⟨rfl, rfl⟩
  exact ⟨rfl, newA_at l w, (Below.refl _ _).alloc (Nat.le_refl _) _, by simp⟩
theorem newV_fit (node prio drift : Int) (w : World) (h : nvB node prio drift = true) :
    Calls Tryd.prog 7 #[.int .i64 node, .int .i64 prio, .int .i64 drift] w fun e w' => e = .returned (.tuple #[.pointer (some ⟨w.heap.size, 0, none⟩), .nilIface]) ∧ VtAt w' w.heap.size { now := 0, node := node, prio := prio, drift := drift, unt := 0, oth := 0, cnt := 0 } ∧ Below w.heap.size w w' ∧ w'.heap.size = w.heap.size + 1 := by
  refine (newV_ok node prio drift w h).mono ?_
  rintro e w' ⟨rfl, rfl⟩
  exact ⟨rfl, newV_at node prio drift w, (Below.refl _ _).alloc (Nat.le_refl _) _, by simp⟩
theorem newA_not (l : Int) (w : World) (h : l < 1 ∨ 1000000 < l) :
    Calls Tryd.prog 5 #[.int .i64 l] w fun e w' => e = .returned (.tuple #[.pointer none, .iface 55 (.int .i64 1)]) ∧ Below w.heap.size w w' := by
  refine (newA_bad l w h).mono ?_
  rintro e w' ⟨rfl, rfl⟩
  exact ⟨rfl, Below.refl _ _⟩
theorem newV_not (node prio drift : Int) (w : World) (h : nvB node prio drift = false) :
    Calls Tryd.prog 7 #[.int .i64 node, .int .i64 prio, .int .i64 drift] w fun e w' => e = .returned (.tuple #[.pointer none, .iface 55 (.int .i64 1)]) ∧ Below w.heap.size w w' := by
  refine (newV_bad node prio drift w h).mono ?_
  rintro e w' ⟨rfl, rfl⟩
  exact ⟨rfl, Below.refl _ _⟩

/-! ### Grant -/
set_option maxHeartbeats 4000000 in
theorem grant_tm (b : Nat) (v : Vt) (u now z : Int) (w : World) (h : VtAt w b v) (hz : tmE v.now now = z) (h0 : ¬ z = 0) :
    Calls Tryd.prog 14 #[.pointer (some ⟨b, 0, none⟩), .int .i64 u, .int .i64 now] w fun e w' => e = .returned (.iface 55 (.int .i64 z)) ∧ Below w.heap.size w w' := by
  obtain ⟨c0, _⟩ := vt_cells h
  generalize v.now = t at c0 hz
  have hM : Hid (∀ (g : Nat) (W : World), W.cell? ⟨g, 0, none⟩ = some (.int .i64 t) → Calls Tryd.prog 27 #[.pointer (some ⟨g, 0, none⟩), .int .i64 now] W fun e w' => e = .returned (.iface 55 (.int .i64 z)) ∧ w' = W) := fun g W hc => mv_bad g t now z W hz h0 hc
  clear h hz h0
  go_enter Tryd.func14, Tryd.ntmps14
  go_wp2_with (go_at_call 27; go_must (refine (hM.out _ _ (by simp)).mono ?_; rintro e W2 ⟨rfl, hW2⟩; rw [hW2]; clear hW2 W2))
  go_ret
  exact ⟨rfl, by repeat (first | exact Below.refl _ _ | refine Below.setCell ?_ (by simp) _ | refine Below.alloc ?_ (by simp) _)⟩
set_option maxHeartbeats 4000000 in
theorem grant_bad (b : Nat) (v : Vt) (u now : Int) (w : World) (h : VtAt w b v) (hz : tmE v.now now = 0) (h0 : grB u = false) :
    Calls Tryd.prog 14 #[.pointer (some ⟨b, 0, none⟩), .int .i64 u, .int .i64 now] w fun e w' => e = .returned (.iface 55 (.int .i64 1)) ∧ Below w.heap.size w w' := by
  obtain ⟨c0, _⟩ := vt_cells h
  generalize v.now = t at c0 hz
  have hM : Hid (∀ (g : Nat) (W : World), W.cell? ⟨g, 0, none⟩ = some (.int .i64 t) → W.frozen? ⟨g, 0, none⟩ = false → Calls Tryd.prog 27 #[.pointer (some ⟨g, 0, none⟩), .int .i64 now] W fun e w' => e = .returned .nilIface ∧ w' = W.setCell ⟨g, 0, none⟩ (.int .i64 now)) := fun g W hc hf => mv_ok g t now W hz hc hf
  have h0' := of_decide_eq_false h0
  rcases (by omega : u < 0 ∨ (¬ u < 0 ∧ 2000000 < u)) with h1 | ⟨h1, h2⟩
  all_goals
    clear h hz h0 h0'
    go_enter Tryd.func14, Tryd.ntmps14
    go_wp2_with (go_at_call 27; go_must (refine (hM.out _ _ (by simp) (by simp)).mono ?_; rintro e W2 ⟨rfl, hW2⟩; rw [hW2]; clear hW2 W2))
    go_ret
    exact ⟨rfl, by repeat (first | exact Below.refl _ _ | refine Below.setCell ?_ (by simp) _ | refine Below.alloc ?_ (by simp) _)⟩
theorem vt_set04 {w : World} {b : Nat} {x0 x1 x2 x3 x4 x5 x6 : Value} {T : TypeId} (h : w.heap[b]? = some (.cells #[x0, x1, x2, x3, x4, x5, x6] T (0, 0))) (y0 y4 : Value) :
    ((w.setCell ⟨b, 0, none⟩ y0).setCell ⟨b, 4, none⟩ y4).heap[b]? = some (.cells #[y0, x1, x2, x3, y4, x5, x6] T (0, 0)) := heap_setCell_same _ b 4 _ _ y4 (heap_setCell_same _ b 0 _ _ y0 h)
theorem vt_set0 {w : World} {b : Nat} {x0 x1 x2 x3 x4 x5 x6 : Value} {T : TypeId} (h : w.heap[b]? = some (.cells #[x0, x1, x2, x3, x4, x5, x6] T (0, 0))) (y0 : Value) :
    (w.setCell ⟨b, 0, none⟩ y0).heap[b]? = some (.cells #[y0, x1, x2, x3, x4, x5, x6] T (0, 0)) := heap_setCell_same _ b 0 _ _ y0 h
set_option maxHeartbeats 8000000 in
theorem grant_ok (b : Nat) (v : Vt) (u now : Int) (w : World) (h : VtAt w b v) (hz : tmE v.now now = 0) (h0 : grB u = true) :
    Calls Tryd.prog 14 #[.pointer (some ⟨b, 0, none⟩), .int .i64 u, .int .i64 now] w fun e w' => e = .returned .nilIface ∧ VtAt w' b { v with now := now, unt := u } ∧ Turn (fun i => i = b) w w' := by
  obtain ⟨c0, _⟩ := vt_cells h
  have HAT : Hid (VtAt w b v) := h
  have HL := h.lt
  obtain ⟨h1, h2⟩ := of_decide_eq_true h0
  have h1 : ¬ u < 0 := by omega
  have h2 : ¬ 2000000 < u := by omega
  have hM : Hid (∀ (g : Nat) (W : World), W.cell? ⟨g, 0, none⟩ = some (.int .i64 v.now) → W.frozen? ⟨g, 0, none⟩ = false → Calls Tryd.prog 27 #[.pointer (some ⟨g, 0, none⟩), .int .i64 now] W fun e w' => e = .returned .nilIface ∧ w' = W.setCell ⟨g, 0, none⟩ (.int .i64 now)) := fun g W hc hf => mv_ok g v.now now W hz hc hf
  clear h hz h0
  go_enter Tryd.func14, Tryd.ntmps14
  go_upto_region 3 with (go_at_call 27; go_must (refine (hM.out _ _ (by simp) (by simp)).mono ?_; rintro e W2 ⟨rfl, hW2⟩; rw [hW2]; clear hW2 W2))
  have HB : Hid (Below w.heap.size w (w.alloc (.cells #[.int .i64 now] 57))) := (Below.refl _ _).alloc (by simp) _
  have q0 := one_cell (heap_alloc_new w (.cells #[.int .i64 now] 57))
  have hs3 : w.heap.size < (w.alloc (.cells #[.int .i64 now] 57)).heap.size := by simp
  have HAT3 : Hid (VtAt (w.alloc (.cells #[.int .i64 now] 57)) b v) := HAT.out.below HB.out
  obtain ⟨W3, hW3⟩ : ∃ W3, w.alloc (.cells #[.int .i64 now] 57) = W3 := ⟨_, rfl⟩
  obtain ⟨g, hg⟩ : ∃ g, w.heap.size = g := ⟨_, rfl⟩
  rw [hW3] at HB HAT3 q0 hs3
  rw [hg] at q0 hs3
  rw [hW3]
  conv => arg 4; simp only [hg]
  obtain ⟨d0, df⟩ := q0
  obtain ⟨c0, c1, c2, c3, c4, c5, c6⟩ := vt_cells HAT3.out
  obtain ⟨f0, f2, f4, f5, f6⟩ := vt_frees HAT3.out
  have hbg : b ≠ g := by omega
  clear hW3 HAT hg hM
  go_wp2_with fail
  go_ret
  exact ⟨rfl, vt_set04 HAT3.out _ _, ((Turn.of_below HB.out (fun i => i = b)).trans (Turn.of_only (((Only.refl _ _).setCell _ _).setCell _ _) rfl))⟩
theorem grant_any (b : Nat) (v : Vt) (u now : Int) (w : World) (h : VtAt w b v) :
    Calls Tryd.prog 14 #[.pointer (some ⟨b, 0, none⟩), .int .i64 u, .int .i64 now] w fun e w' => e = .returned (elV (granE v u now)) ∧ VtAt w' b (granV v u now) ∧ Turn (fun i => i = b) w w' := by
  by_cases hz : tmE v.now now = 0
  · cases h0 : grB u
    · have he : granE v u now = 1 := by unfold granE; rw [if_pos hz, h0]; rfl
      refine (grant_bad b v u now w h hz h0).mono ?_
      rintro e w' ⟨rfl, h1⟩
      unfold granV
      rw [he]
      exact ⟨rfl, h.below h1, Turn.of_below h1 _⟩
    · have he : granE v u now = 0 := by unfold granE; rw [if_pos hz, h0]; rfl
      refine (grant_ok b v u now w h hz h0).mono ?_
      rintro e w' ⟨rfl, h1, h2⟩
      unfold granV
      rw [he]
      exact ⟨rfl, h1, h2⟩
  · have he : granE v u now = tmE v.now now := by unfold granE; rw [if_neg hz]
    refine (grant_tm b v u now _ w h rfl hz).mono ?_
    rintro e w' ⟨rfl, h1⟩
    unfold granV
    rw [he, if_neg hz]
    refine ⟨?_, h.below h1, Turn.of_below h1 _⟩
    unfold elV
    rw [if_neg hz]

/-! ### leads, Role -/
set_option maxHeartbeats 4000000 in
theorem leads_any (b : Nat) (v : Vt) (now : Int) (w : World) (h : VtAt w b v) (ok : VtOk v) (h0 : 0 ≤ now) (h1 : now ≤ 1000000) :
    Calls Tryd.prog 28 #[.pointer (some ⟨b, 0, none⟩), .int .i64 now] w fun e w' => e = .returned (.bool (masB v now)) ∧ Below w.heap.size w w' := by
  obtain ⟨c0, c1, c2, c3, c4, c5, c6⟩ := vt_cells h
  have u1 := ok.u1
  have u2 := ok.u2
  have d1 := ok.d1
  have d2 := ok.d2
  unfold masB
  generalize v.unt = un at c4 u1 u2 ⊢
  generalize v.drift = dr at c3 d1 d2 ⊢
  clear h ok c0 c1 c2 c5 c6
  go_enter Tryd.func28, Tryd.ntmps28
  go_upto_region 1 with fail
  go_quiet (fail)
  go_wp2_with fail
  go_ret
  exact ⟨rfl, by first | exact Below.refl _ _ | exact (Below.refl _ _).drew | exact below_drewN (Below.refl _ _) _⟩
set_option maxHeartbeats 4000000 in
theorem role_tm (b : Nat) (v : Vt) (now z : Int) (w : World) (h : VtAt w b v) (hz : tmE v.now now = z) (h0 : ¬ z = 0) :
    Calls Tryd.prog 19 #[.pointer (some ⟨b, 0, none⟩), .int .i64 now] w fun e w' => e = .returned (.tuple #[.int .i64 0, .iface 55 (.int .i64 z)]) ∧ w' = w := by
  obtain ⟨c0, _⟩ := vt_cells h
  have hM := mv_bad b v.now now z w hz h0 c0
  clear h hz h0 c0
  go_enter Tryd.func19, Tryd.ntmps19
  go_wp2_with (go_at_call 27; go_must (refine hM.mono ?_; rintro e W2 ⟨rfl, hW2⟩; rw [hW2]; clear hW2 W2))
  go_ret2
  exact ⟨rfl, rfl⟩
theorem VtOk.at {v : Vt} (ok : VtOk v) (now : Int) : VtOk { v with now := now } := ⟨ok.u1, ok.u2, ok.d1, ok.d2, ok.p1, ok.p2, ok.o1, ok.o2⟩
set_option maxHeartbeats 4000000 in
theorem role_ok (b : Nat) (v : Vt) (now : Int) (w : World) (h : VtAt w b v) (ok : VtOk v) (hz : tmE v.now now = 0) :
    Calls Tryd.prog 19 #[.pointer (some ⟨b, 0, none⟩), .int .i64 now] w fun e w' => e = .returned (.tuple #[.int .i64 (rolI v now), .nilIface]) ∧ VtAt w' b { v with now := now } ∧ Turn (fun i => i = b) w w' := by
  obtain ⟨c0, _⟩ := vt_cells h
  obtain ⟨f0, _⟩ := vt_frees h
  obtain ⟨h0, h1, _⟩ := tmE_ok hz
  have hM := mv_ok b v.now now w hz c0 f0
  have hA : VtAt (w.setCell ⟨b, 0, none⟩ (.int .i64 now)) b { v with now := now } := vt_set0 h _
  have HT : Hid (Turn (fun i => i = b) w (w.setCell ⟨b, 0, none⟩ (.int .i64 now))) := Turn.of_only ((Only.refl _ _).setCell _ _) rfl
  have hL := leads_any b { v with now := now } now _ hA (ok.at now) h0 h1
  rw [show masB { v with now := now } now = masB v now from rfl] at hL
  have HA : Hid (VtAt (w.setCell ⟨b, 0, none⟩ (.int .i64 now)) b { v with now := now }) := hA
  obtain ⟨R, hR⟩ : ∃ R, rolI v now = R := ⟨_, rfl⟩
  rw [hR]
  have hR2 : Hid (rolI v now = R) := hR
  unfold rolI at hR
  obtain ⟨w1, hw1⟩ : ∃ w1, w.setCell ⟨b, 0, none⟩ (.int .i64 now) = w1 := ⟨_, rfl⟩
  rw [hw1] at hM HT hL HA
  clear h hz hA hw1 c0 f0 hR2
  cases hB : masB v now
  · rw [hB] at hL hR
    rw [if_neg (by simp)] at hR
    subst hR
    clear hB
    go_enter Tryd.func19, Tryd.ntmps19
    go_wp2_with (first
      | (go_at_call 27; go_must (refine hM.mono ?_; rintro e W2 ⟨rfl, hW2⟩; rw [hW2]; clear hW2 W2))
      | (go_at_call 28; go_must (refine hL.mono ?_; rintro e W2 ⟨rfl, b2⟩)))
    go_ret2
    exact ⟨rfl, HA.out.below b2, HT.out.trans (Turn.of_below b2 _)⟩
  · rw [hB] at hL hR
    rw [if_pos rfl] at hR
    subst hR
    clear hB
    go_enter Tryd.func19, Tryd.ntmps19
    go_wp2_with (first
      | (go_at_call 27; go_must (refine hM.mono ?_; rintro e W2 ⟨rfl, hW2⟩; rw [hW2]; clear hW2 W2))
      | (go_at_call 28; go_must (refine hL.mono ?_; rintro e W2 ⟨rfl, b2⟩)))
    go_ret2
    exact ⟨rfl, HA.out.below b2, HT.out.trans (Turn.of_below b2 _)⟩
def rolR (v : Vt) (now : Int) : Int := if tmE v.now now = 0 then rolI v now else 0
theorem role_any (b : Nat) (v : Vt) (now : Int) (w : World) (h : VtAt w b v) (ok : VtOk v) :
    Calls Tryd.prog 19 #[.pointer (some ⟨b, 0, none⟩), .int .i64 now] w fun e w' => e = .returned (.tuple #[.int .i64 (rolR v now), elV (tmE v.now now)]) ∧ VtAt w' b (movV v now) ∧ Turn (fun i => i = b) w w' := by
  by_cases hz : tmE v.now now = 0
  · refine (role_ok b v now w h ok hz).mono ?_
    rintro e w' ⟨rfl, h1, h2⟩
    unfold rolR movV elV
    rw [if_pos hz, if_pos hz, if_pos hz]
    exact ⟨rfl, h1, h2⟩
  · refine (role_tm b v now _ w h rfl hz).mono ?_
    rintro e w' ⟨rfl, rfl⟩
    unfold rolR movV elV
    rw [if_neg hz, if_neg hz, if_neg hz]
    exact ⟨rfl, h, Turn.refl _ _⟩
end Go.Proofs.YtempphlbgeogiaaDoor
