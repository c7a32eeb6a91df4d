/- The reference's arbiter and voter ('Ra', 'Rv') beside those of package elect: what its functions return; both tell the same. -/
import Derived.Test.YtempphlbgeogiaaDoorElAt
namespace Go.Proofs.YtempphlbgeogiaaDoor
open Go.RowKit
set_option linter.unusedVariables false

theorem hR1 {p : Prop} (h : p) : Hid p := h
structure Ra where
  lease : Int
  now : Int
  has : Bool
  hol : Int
  unt : Int
structure Rv where
  node : Int
  prio : Int
  drift : Int
  now : Int
  unt : Int
  heard : Bool
  oth : Int
  att : Int
def RaAt (w : World) (b : Nat) (r : Ra) : Prop := w.heap[b]? = some (.cells #[.int .i64 r.lease, .int .i64 r.now, .bool r.has, .int .i64 r.hol, .int .i64 r.unt] 34 (0, 0))
def RvAt (w : World) (b : Nat) (r : Rv) : Prop := w.heap[b]? = some (.cells #[.int .i64 r.node, .int .i64 r.prio, .int .i64 r.drift, .int .i64 r.now, .int .i64 r.unt, .bool r.heard, .int .i64 r.oth, .int .i64 r.att] 37 (0, 0))
theorem RaAt.lt {w : World} {b : Nat} {a : Ra} (h : RaAt w b a) : b < w.heap.size := (Array.getElem?_eq_some_iff.1 h).1
theorem RaAt.turn {F : Nat → Prop} {w w' : World} {b : Nat} {a : Ra} (h : RaAt w b a) (t : Turn F w w') (hF : ¬ F b) : RaAt w' b a := (t.block _ h.lt hF).trans h
theorem RvAt.lt {w : World} {b : Nat} {a : Rv} (h : RvAt w b a) : b < w.heap.size := (Array.getElem?_eq_some_iff.1 h).1
theorem RvAt.turn {F : Nat → Prop} {w w' : World} {b : Nat} {a : Rv} (h : RvAt w b a) (t : Turn F w w') (hF : ¬ F b) : RvAt w' b a := (t.block _ h.lt hF).trans h
theorem ra_cells {w : World} {b : Nat} {x0 x1 x2 x3 x4 : Value} {T : TypeId} (h : w.heap[b]? = some (.cells #[x0, x1, x2, x3, x4] T (0, 0))) : (w.cell? ⟨b, 0, none⟩ = some x0 ∧ w.cell? ⟨b, 1, none⟩ = some x1 ∧ w.cell? ⟨b, 2, none⟩ = some x2 ∧ w.cell? ⟨b, 3, none⟩ = some x3 ∧ w.cell? ⟨b, 4, none⟩ = some x4) ∧ w.frozen? ⟨b, 1, none⟩ = false ∧ w.frozen? ⟨b, 2, none⟩ = false ∧ w.frozen? ⟨b, 3, none⟩ = false ∧ w.frozen? ⟨b, 4, none⟩ = false := by
  refine ⟨⟨?_, ?_, ?_, ?_, ?_⟩, frozen_of_row w b 1 _ _ h, frozen_of_row w b 2 _ _ h, frozen_of_row w b 3 _ _ h, frozen_of_row w b 4 _ _ h⟩ <;> (rw [cell_of_row w b _ _ _ _ h]; rfl)
theorem rv_cells {w : World} {b : Nat} {x0 x1 x2 x3 x4 x5 x6 x7 : Value} {T : TypeId} (h : w.heap[b]? = some (.cells #[x0, x1, x2, x3, x4, x5, x6, x7] T (0, 0))) : (w.cell? ⟨b, 0, none⟩ = some x0 ∧ w.cell? ⟨b, 1, none⟩ = some x1 ∧ w.cell? ⟨b, 2, none⟩ = some x2 ∧ w.cell? ⟨b, 3, none⟩ = some x3 ∧ w.cell? ⟨b, 4, none⟩ = some x4 ∧ w.cell? ⟨b, 5, none⟩ = some x5 ∧ w.cell? ⟨b, 6, none⟩ = some x6 ∧ w.cell? ⟨b, 7, none⟩ = some x7) ∧ w.frozen? ⟨b, 1, none⟩ = false ∧ w.frozen? ⟨b, 3, none⟩ = false ∧ w.frozen? ⟨b, 4, none⟩ = false ∧ w.frozen? ⟨b, 5, none⟩ = false ∧ w.frozen? ⟨b, 6, none⟩ = false ∧ w.frozen? ⟨b, 7, none⟩ = false := by
  refine ⟨⟨?_, ?_, ?_, ?_, ?_, ?_, ?_, ?_⟩, frozen_of_row w b 1 _ _ h, frozen_of_row w b 3 _ _ h, frozen_of_row w b 4 _ _ h, frozen_of_row w b 5 _ _ h, frozen_of_row w b 6 _ _ h, frozen_of_row w b 7 _ _ h⟩ <;> (rw [cell_of_row w b _ _ _ _ h]; rfl)

/-! ### the same -/
structure SameA (a : Ar) (r : Ra) : Prop where
  l : a.lease = r.lease
  n : a.now = r.now
  t : r.has = true → a.own = r.hol ∧ a.unt = r.unt
  f : r.has = false → a.unt ≤ a.now
structure SameV (v : Vt) (r : Rv) : Prop where
  n : v.now = r.now
  d : v.node = r.node
  p : v.prio = r.prio
  q : v.drift = r.drift
  u : v.unt = r.unt
  t : r.heard = true → v.oth = r.oth ∧ v.cnt = r.att + 30
  f : r.heard = false → v.cnt ≤ v.now
def rMay (r : Ra) (node now : Int) : Int := if ¬ (node = 0 ∨ node = 1) then 1 else tmE r.now now
def rAskE (r : Ra) (node now : Int) : Int := if rMay r node now = 0 then (if r.has = true ∧ r.hol ≠ node ∧ now < r.unt then 7 else 0) else rMay r node now
def rAskA (r : Ra) (node now : Int) : Ra := { r with now := now, has := true, hol := node, unt := now + r.lease }
def rFreeA (r : Ra) (node now : Int) : Ra := { r with now := now, unt := if r.has = true ∧ r.hol = node then now else r.unt }
theorem SameA.may {a : Ar} {r : Ra} (s : SameA a r) (node now : Int) : rMay r node now = arE a node now := by unfold rMay arE; rw [s.n]
theorem SameA.askE {a : Ar} {r : Ra} (s : SameA a r) (node now : Int) : rAskE r node now = askE a node now := by
  unfold rAskE Go.Proofs.YtempphlbgeogiaaDoor.askE
  rw [s.may]
  by_cases h : arE a node now = 0
  · rw [if_pos h, if_pos h]
    obtain ⟨_, h1, h2, h3⟩ := arE_ok h
    cases hh : r.has
    · have := s.f hh
      rw [if_neg (by simp), if_neg (by omega)]
    · obtain ⟨e1, e2⟩ := s.t hh
      rw [e1, e2]
      by_cases hc : r.hol ≠ node ∧ now < r.unt
      · rw [if_pos ⟨rfl, hc.1, hc.2⟩, if_pos ⟨fun e => hc.1 e.symm, hc.2⟩]
      · rw [if_neg (fun h => hc ⟨h.2.1, h.2.2⟩), if_neg (fun h => hc ⟨fun e => h.1 e.symm, h.2⟩)]
  · rw [if_neg h, if_neg h]
theorem SameA.ask {a : Ar} {r : Ra} (s : SameA a r) {node now : Int} (h : Go.Proofs.YtempphlbgeogiaaDoor.askE a node now = 0) : SameA (askA a node now) (rAskA r node now) ∧ askI a node now = now + r.lease := by
  unfold askA askI rAskA
  rw [if_pos h, if_pos h]
  exact ⟨⟨s.l, rfl, fun _ => ⟨rfl, by show now + a.lease = now + r.lease; rw [s.l]⟩, fun h => by cases h⟩, by rw [s.l]⟩
theorem SameA.askNo {a : Ar} {r : Ra} (s : SameA a r) {node now : Int} (h : ¬ Go.Proofs.YtempphlbgeogiaaDoor.askE a node now = 0) : SameA (askA a node now) r ∧ askI a node now = 0 := by
  unfold askA askI
  rw [if_neg h, if_neg h]
  exact ⟨s, rfl⟩
theorem SameA.free {a : Ar} {r : Ra} (s : SameA a r) {node now : Int} (h : arE a node now = 0) : SameA (freeA a node now) (rFreeA r node now) := by
  obtain ⟨_, h1, h2, h3⟩ := arE_ok h
  unfold freeA rFreeA
  rw [if_pos h]
  refine ⟨s.l, rfl, fun hh => ⟨(s.t hh).1, ?_⟩, fun hh => ?_⟩
  · have hh : r.has = true := hh
    show (if node = a.own then now else a.unt) = (if r.has = true ∧ r.hol = node then now else r.unt)
    obtain ⟨e1, e2⟩ := s.t hh
    rw [e1, e2]
    by_cases e : node = r.hol
    · rw [if_pos e, if_pos ⟨hh, e.symm⟩]
    · rw [if_neg e, if_neg (fun h => e h.2.symm)]
  · have hh : r.has = false := hh
    show (if node = a.own then now else a.unt) ≤ now
    have := s.f hh
    split <;> omega
theorem SameA.freeNo {a : Ar} {r : Ra} (s : SameA a r) {node now : Int} (h : ¬ arE a node now = 0) : SameA (freeA a node now) r := by
  unfold freeA
  rw [if_neg h]
  exact s

/-! ### the reference's functions -/
def tiB (t : Int) : Bool := decide (0 ≤ t ∧ t ≤ 1000000)
theorem rtime_any (t : Int) (w : World) : Calls Tryd.prog 24 #[.int .i64 t] w fun e w' => e = .returned (.bool (tiB t)) ∧ w' = w := by
  by_cases h0 : 0 ≤ t
  · by_cases h1 : t ≤ 1000000
    · have e : tiB t = true := decide_eq_true ⟨h0, h1⟩
      rw [e]
      clear e
      go_enter Tryd.func24, Tryd.ntmps24
      go_wp2_with fail
      go_ret
      exact ⟨rfl, rfl⟩
    · have e : tiB t = false := decide_eq_false (by omega)
      rw [e]
      clear e
      go_enter Tryd.func24, Tryd.ntmps24
      go_wp2_with fail
      go_ret
      exact ⟨rfl, rfl⟩
  · have e : tiB t = false := decide_eq_false (by omega)
    rw [e]
    clear e
    go_enter Tryd.func24, Tryd.ntmps24
    go_wp2_with fail
    go_ret
    exact ⟨rfl, rfl⟩
theorem tmE_cases (t now : Int) : (tiB now = false ∧ tmE t now = 1) ∨ (tiB now = true ∧ now < t ∧ tmE t now = 6) ∨ (tiB now = true ∧ ¬ now < t ∧ tmE t now = 0) := by
  unfold tiB tmE
  by_cases h : 0 ≤ now ∧ now ≤ 1000000
  · rw [decide_eq_true h, if_neg (by omega)]
    by_cases h2 : now < t
    · rw [if_pos h2]; exact .inr (.inl ⟨rfl, h2, rfl⟩)
    · rw [if_neg h2]; exact .inr (.inr ⟨rfl, h2, rfl⟩)
  · rw [decide_eq_false h, if_pos (by omega)]
    exact .inl ⟨rfl, rfl⟩
set_option maxHeartbeats 4000000 in
theorem rvTime_any (b : Nat) (r : Rv) (now : Int) (w : World) (h : RvAt w b r) :
    Calls Tryd.prog 8 #[.pointer (some ⟨b, 0, none⟩), .int .i64 now] w fun e w' => e = .returned (.int .i64 (tmE r.now now)) ∧ w' = w := by
  obtain ⟨⟨_, _, _, c3, _⟩, _⟩ := rv_cells h
  have hT := rtime_any now w
  generalize r.now = t at c3 ⊢
  clear h
  rcases tmE_cases t now with ⟨h1, h2⟩ | ⟨h1, h3, h2⟩ | ⟨h1, h3, h2⟩
  all_goals
    rw [h1] at hT
    rw [h2]
    clear h1 h2
    go_enter Tryd.func8, Tryd.ntmps8
    go_wp2_with (go_at_call 24; go_must (refine hT.mono ?_; rintro e W2 ⟨rfl, hW2⟩; rw [hW2]; clear hW2 W2))
    go_ret
    exact ⟨rfl, rfl⟩
set_option maxHeartbeats 4000000 in
theorem rMay_any (b : Nat) (r : Ra) (node now : Int) (w : World) (h : RaAt w b r) :
    Calls Tryd.prog 25 #[.pointer (some ⟨b, 0, none⟩), .int .i64 node, .int .i64 now] w fun e w' => e = .returned (.int .i64 (rMay r node now)) ∧ w' = w := by
  obtain ⟨⟨_, c1, _⟩, _⟩ := ra_cells h
  have hT := rtime_any now w
  unfold rMay
  generalize r.now = t at c1 ⊢
  clear h
  by_cases hn : node = 0 ∨ node = 1
  · rw [if_neg (by omega)]
    rcases tmE_cases t now with ⟨h1, h2⟩ | ⟨h1, h3, h2⟩ | ⟨h1, h3, h2⟩
    all_goals
      rw [h1] at hT
      rw [h2]
      clear h1 h2
      rcases hn with rfl | rfl
      all_goals
        go_enter Tryd.func25, Tryd.ntmps25
        go_wp2_with (go_at_call 24; go_must (refine hT.mono ?_; rintro e W2 ⟨rfl, hW2⟩; rw [hW2]; clear hW2 W2))
        go_ret
        exact ⟨rfl, rfl⟩
  · rw [if_pos (by omega)]
    have h1 : (node != 0) = true := by simp; omega
    have h2 : (node != 1) = true := by simp; omega
    generalize tiB now = B at hT
    clear hn
    go_enter Tryd.func25, Tryd.ntmps25
    go_wp2_with (go_at_call 24; go_must (refine hT.mono ?_; rintro e W2 ⟨rfl, hW2⟩; rw [hW2]; clear hW2 W2))
    go_ret
    exact ⟨rfl, rfl⟩
theorem ra_ask {w : World} {b : Nat} {r : Ra} (h : RaAt w b r) (node now : Int) : RaAt ((((w.setCell ⟨b, 1, none⟩ (.int .i64 now)).setCell ⟨b, 2, none⟩ (.bool true)).setCell ⟨b, 3, none⟩ (.int .i64 node)).setCell ⟨b, 4, none⟩ (.int .i64 (now + r.lease))) b (rAskA r node now) :=
  heap_setCell_same _ b 4 _ _ _ (heap_setCell_same _ b 3 _ _ _ (heap_setCell_same _ b 2 _ _ _ (heap_setCell_same _ b 1 _ _ _ h)))
set_option maxHeartbeats 8000000 in
theorem rAsk_ok (b : Nat) (r : Ra) (node now : Int) (w : World) (h : RaAt w b r) (hm : rMay r node now = 0) (hc : ¬ (r.has = true ∧ r.hol ≠ node ∧ now < r.unt)) (hl : 0 ≤ r.lease) (hl2 : r.lease ≤ 1000000) :
    Calls Tryd.prog 9 #[.pointer (some ⟨b, 0, none⟩), .int .i64 node, .int .i64 now] w fun e w' => e = .returned (.tuple #[.int .i64 (now + r.lease), .int .i64 0]) ∧ RaAt w' b (rAskA r node now) ∧ Turn (fun i => i = b) w w' := by
  obtain ⟨⟨c0, c1, c2, c3, c4⟩, f1, f2, f3, f4⟩ := ra_cells h
  have hM := rMay_any b r node now w h
  rw [hm] at hM
  have hb : 0 ≤ now ∧ now ≤ 1000000 := by
    unfold rMay at hm
    split at hm
    · cases hm
    · obtain ⟨q1, q2, _⟩ := tmE_ok hm; exact ⟨q1, q2⟩
  obtain ⟨n0, n1⟩ := hb
  have HA := ra_ask h node now
  have HAT : Hid _ := HA
  have HT : Hid (Turn (fun i => i = b) w ((((w.setCell ⟨b, 1, none⟩ (.int .i64 now)).setCell ⟨b, 2, none⟩ (.bool true)).setCell ⟨b, 3, none⟩ (.int .i64 node)).setCell ⟨b, 4, none⟩ (.int .i64 (now + r.lease)))) := Turn.of_only (((((Only.refl _ _).setCell _ _).setCell _ _).setCell _ _).setCell _ _) rfl
  generalize rAskA r node now = R at HA HAT ⊢
  have hw : (r.has = false) ∨ (r.has = true ∧ (r.hol != node) = false) ∨ (r.has = true ∧ (r.hol != node) = true ∧ ¬ now < r.unt) := by
    by_cases e1 : r.has = true
    · by_cases e2 : r.hol = node
      · exact .inr (.inl ⟨e1, by simpa using e2⟩)
      · exact .inr (.inr ⟨e1, by simpa using e2, fun h2 => hc ⟨e1, e2, h2⟩⟩)
    · exact .inl (by simpa using e1)
  generalize r.lease = L at c0 hl hl2 HT HAT ⊢
  generalize r.now = t at c1
  generalize r.unt = un at c4 hw
  generalize r.hol = ho at c3 hw
  generalize r.has = ha at c2 hw
  clear h hm hc HA
  rcases hw with rfl | ⟨rfl, h1⟩ | ⟨rfl, h1, h2⟩
  all_goals
    go_enter Tryd.func9, Tryd.ntmps9
    go_wp2_with (go_at_call 25; go_must (refine hM.mono ?_; rintro e W2 ⟨rfl, hW2⟩; rw [hW2]; clear hW2 W2))
    go_ret2
    exact ⟨rfl, HAT.out, HT.out⟩
set_option maxHeartbeats 8000000 in
theorem rAsk_no (b : Nat) (r : Ra) (node now : Int) (w : World) (h : RaAt w b r) (hz : ¬ rAskE r node now = 0) :
    Calls Tryd.prog 9 #[.pointer (some ⟨b, 0, none⟩), .int .i64 node, .int .i64 now] w fun e w' => e = .returned (.tuple #[.int .i64 0, .int .i64 (rAskE r node now)]) ∧ w' = w := by
  obtain ⟨⟨c0, c1, c2, c3, c4⟩, f1, f2, f3, f4⟩ := ra_cells h
  have hM := rMay_any b r node now w h
  by_cases hm : rMay r node now = 0
  · have hc : r.has = true ∧ r.hol ≠ node ∧ now < r.unt := by
      by_cases hc : r.has = true ∧ r.hol ≠ node ∧ now < r.unt
      · exact hc
      · exact absurd (by unfold rAskE; rw [if_pos hm, if_neg hc]) hz
    have e : rAskE r node now = 7 := by unfold rAskE; rw [if_pos hm, if_pos hc]
    obtain ⟨h1, h2, h3⟩ := hc
    have h2' : (r.hol != node) = true := by simpa using h2
    rw [hm] at hM
    rw [e]
    rw [h1] at c2
    clear h hz hm e h1 h2
    go_enter Tryd.func9, Tryd.ntmps9
    go_wp2_with (go_at_call 25; go_must (refine hM.mono ?_; rintro e W2 ⟨rfl, hW2⟩; rw [hW2]; clear hW2 W2))
    go_ret2
    exact ⟨rfl, rfl⟩
  · have e : rAskE r node now = rMay r node now := by unfold rAskE; rw [if_neg hm]
    rw [e]
    generalize rMay r node now = z at hM hm ⊢
    have h1 : (z == 0) = false := by simpa using hm
    have h2 : (z != 0) = true := by simpa using hm
    clear h hz hm e
    go_enter Tryd.func9, Tryd.ntmps9
    go_wp2_with (go_at_call 25; go_must (refine hM.mono ?_; rintro e W2 ⟨rfl, hW2⟩; rw [hW2]; clear hW2 W2))
    go_ret2
    exact ⟨rfl, rfl⟩
theorem ra_free1 {w : World} {b : Nat} {r : Ra} (h : RaAt w b r) (node now : Int) (hc : ¬ (r.has = true ∧ r.hol = node)) : RaAt (w.setCell ⟨b, 1, none⟩ (.int .i64 now)) b (rFreeA r node now) := by
  have e : rFreeA r node now = { r with now := now } := by unfold rFreeA; rw [if_neg hc]
  rw [e]
  exact heap_setCell_same _ b 1 _ _ _ h
theorem ra_free2 {w : World} {b : Nat} {r : Ra} (h : RaAt w b r) (node now : Int) (hc : r.has = true ∧ r.hol = node) : RaAt ((w.setCell ⟨b, 1, none⟩ (.int .i64 now)).setCell ⟨b, 4, none⟩ (.int .i64 now)) b (rFreeA r node now) := by
  have e : rFreeA r node now = { r with now := now, unt := now } := by unfold rFreeA; rw [if_pos hc]
  rw [e]
  exact heap_setCell_same _ b 4 _ _ _ (heap_setCell_same _ b 1 _ _ _ h)
set_option maxHeartbeats 8000000 in
theorem rFree_ok (b : Nat) (r : Ra) (node now : Int) (w : World) (h : RaAt w b r) (hm : rMay r node now = 0) :
    Calls Tryd.prog 12 #[.pointer (some ⟨b, 0, none⟩), .int .i64 node, .int .i64 now] w fun e w' => e = .returned (.int .i64 0) ∧ RaAt w' b (rFreeA r node now) ∧ Turn (fun i => i = b) w w' := by
  obtain ⟨⟨c0, c1, c2, c3, c4⟩, f1, f2, f3, f4⟩ := ra_cells h
  have hM := rMay_any b r node now w h
  rw [hm] at hM
  have HR : Hid (¬ (r.has = true ∧ r.hol = node) → RaAt (w.setCell ⟨b, 1, none⟩ (.int .i64 now)) b (rFreeA r node now)) := ra_free1 h node now
  have HS : Hid (r.has = true ∧ r.hol = node → RaAt ((w.setCell ⟨b, 1, none⟩ (.int .i64 now)).setCell ⟨b, 4, none⟩ (.int .i64 now)) b (rFreeA r node now)) := ra_free2 h node now
  have hw : (r.has = false) ∨ (r.has = true ∧ (r.hol == node) = false) ∨ (r.has = true ∧ (r.hol == node) = true) := by
    by_cases e1 : r.has = true
    · by_cases e2 : r.hol = node
      · exact .inr (.inr ⟨e1, by simpa using e2⟩)
      · exact .inr (.inl ⟨e1, by simpa using e2⟩)
    · exact .inl (by simpa using e1)
  generalize rFreeA r node now = R at HR HS ⊢
  generalize r.hol = ho at c3 hw HR HS
  generalize r.has = ha at c2 hw HR HS
  clear h hm
  rcases hw with rfl | ⟨rfl, h1⟩ | ⟨rfl, h1⟩
  · have HX := hR1 (HR.out (by simp))
    clear HR HS
    go_enter Tryd.func12, Tryd.ntmps12
    go_wp2_with (go_at_call 25; go_must (refine hM.mono ?_; rintro e W2 ⟨rfl, hW2⟩; rw [hW2]; clear hW2 W2))
    go_ret
    exact ⟨rfl, HX.out, Turn.of_only ((Only.refl _ _).setCell _ _) rfl⟩
  · have HX := hR1 (HR.out (by rintro ⟨_, e⟩; rw [e] at h1; simp at h1))
    clear HR HS
    go_enter Tryd.func12, Tryd.ntmps12
    go_wp2_with (go_at_call 25; go_must (refine hM.mono ?_; rintro e W2 ⟨rfl, hW2⟩; rw [hW2]; clear hW2 W2))
    go_ret
    exact ⟨rfl, HX.out, Turn.of_only ((Only.refl _ _).setCell _ _) rfl⟩
  · have HX := hR1 (HS.out ⟨rfl, by simpa using h1⟩)
    clear HR HS
    go_enter Tryd.func12, Tryd.ntmps12
    go_wp2_with (go_at_call 25; go_must (refine hM.mono ?_; rintro e W2 ⟨rfl, hW2⟩; rw [hW2]; clear hW2 W2))
    go_ret
    exact ⟨rfl, HX.out, Turn.of_only (((Only.refl _ _).setCell _ _).setCell _ _) rfl⟩
set_option maxHeartbeats 8000000 in
theorem rFree_no (b : Nat) (r : Ra) (node now : Int) (w : World) (h : RaAt w b r) (hm : ¬ rMay r node now = 0) :
    Calls Tryd.prog 12 #[.pointer (some ⟨b, 0, none⟩), .int .i64 node, .int .i64 now] w fun e w' => e = .returned (.int .i64 (rMay r node now)) ∧ w' = w := by
  have hM := rMay_any b r node now w h
  generalize rMay r node now = z at hM hm ⊢
  have h2 : (z != 0) = true := by simpa using hm
  clear h hm
  go_enter Tryd.func12, Tryd.ntmps12
  go_wp2_with (go_at_call 25; go_must (refine hM.mono ?_; rintro e W2 ⟨rfl, hW2⟩; rw [hW2]; clear hW2 W2))
  go_ret
  exact ⟨rfl, rfl⟩
end Go.Proofs.YtempphlbgeogiaaDoor
