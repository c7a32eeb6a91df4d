/- The arbiter of package elect: moved, Ask, Free. -/
import Derived.Test.YtempphlbgeogiaaDoorElAt
namespace Go.Proofs.YtempphlbgeogiaaDoor
open Go.RowKit
set_option linter.unusedVariables false

set_option maxHeartbeats 4000000 in
theorem moved_node (b : Nat) (a : Ar) (node now : Int) (w : World) (h : ArAt w b a) (hn : ¬ (node = 0 ∨ node = 1)) :
    Calls Tryd.prog 26 #[.pointer (some ⟨b, 0, none⟩), .int .i64 node, .int .i64 now] w fun e w' => e = .returned (.tuple #[.agg #[.int .i64 a.now], .iface 55 (.int .i64 1)]) ∧ Below w.heap.size w w' := by
  obtain ⟨c0, c1, c2, c3⟩ := ar_cells h
  have HL := h.lt
  generalize a.now = t at c0 ⊢
  have hd : decide (node = 0 ∨ node = 1) = false := decide_eq_false hn
  clear h hn c1 c2 c3
  go_enter Tryd.func26, Tryd.ntmps26
  go_wp2_with (go_at_call 22; go_must (refine (isNode_any node _).mono ?_; rintro e W2 ⟨rfl, hW2⟩; rw [hW2, hd]; clear hW2 W2))
  exact bodyPost_ret (v := .tuple #[.agg #[.int .i64 t], .iface 55 (.int .i64 1)]) (by simp [results, Tryd.results26, go_sem]) rfl ⟨rfl, ((Below.refl _ _).alloc (by simp) _).alloc (by simp) _⟩
set_option maxHeartbeats 4000000 in
theorem moved_bad (b : Nat) (a : Ar) (node now z : Int) (w : World) (h : ArAt w b a) (hn : node = 0 ∨ node = 1) (hz : tmE a.now now = z) (h0 : ¬ z = 0) :
    Calls Tryd.prog 26 #[.pointer (some ⟨b, 0, none⟩), .int .i64 node, .int .i64 now] w fun e w' => e = .returned (.tuple #[.agg #[.int .i64 a.now], .iface 55 (.int .i64 z)]) ∧ Below w.heap.size w w' := by
  obtain ⟨c0, c1, c2, c3⟩ := ar_cells h
  have HL := h.lt
  generalize a.now = t at c0 hz ⊢
  have hd : decide (node = 0 ∨ node = 1) = true := decide_eq_true hn
  have hM : Hid (∀ (g : Nat) (W : World), W.cell? ⟨g, 0, none⟩ = some (.int .i64 t) → Calls Tryd.prog 27 #[.pointer (some ⟨g, 0, none⟩), .int .i64 now] W fun e w' => e = .returned (.iface 55 (.int .i64 z)) ∧ w' = W) := fun g W hc => mv_bad g t now z W hz h0 hc
  clear h hn c1 c2 c3 hz h0
  go_enter Tryd.func26, Tryd.ntmps26
  go_wp2_with (first
    | (go_at_call 22; go_must (refine (isNode_any node _).mono ?_; rintro e W2 ⟨rfl, hW2⟩; rw [hW2, hd]; clear hW2 W2))
    | (go_at_call 27; go_must (refine (hM.out _ _ (by simp)).mono ?_; rintro e W2 ⟨rfl, hW2⟩; rw [hW2]; clear hW2 W2)))
  exact bodyPost_ret (v := .tuple #[.agg #[.int .i64 t], .iface 55 (.int .i64 z)]) (by simp [results, Tryd.results26, go_sem]) rfl ⟨rfl, ((Below.refl _ _).alloc (by simp) _).alloc (by simp) _⟩
set_option maxHeartbeats 4000000 in
theorem moved_ok (b : Nat) (a : Ar) (node now : Int) (w : World) (h : ArAt w b a) (hz : arE a node now = 0) :
    Calls Tryd.prog 26 #[.pointer (some ⟨b, 0, none⟩), .int .i64 node, .int .i64 now] w fun e w' => e = .returned (.tuple #[.agg #[.int .i64 now], .nilIface]) ∧ Below w.heap.size w w' := by
  obtain ⟨c0, c1, c2, c3⟩ := ar_cells h
  have HL := h.lt
  obtain ⟨hn, g1, g2, g3⟩ := arE_ok hz
  have hz2 := tmE_of g1 g2 g3
  generalize a.now = t at c0 hz2
  have hd : decide (node = 0 ∨ node = 1) = true := decide_eq_true hn
  have hM : Hid (∀ (g : Nat) (W : World), W.cell? ⟨g, 0, none⟩ = some (.int .i64 t) → W.frozen? ⟨g, 0, none⟩ = false → Calls Tryd.prog 27 #[.pointer (some ⟨g, 0, none⟩), .int .i64 now] W fun e w' => e = .returned .nilIface ∧ w' = W.setCell ⟨g, 0, none⟩ (.int .i64 now)) := fun g W hc hf => mv_ok g t now W hz2 hc hf
  clear h hn c1 c2 c3 hz hz2 g1 g2 g3
  go_enter Tryd.func26, Tryd.ntmps26
  go_wp2_with (first
    | (go_at_call 22; go_must (refine (isNode_any node _).mono ?_; rintro e W2 ⟨rfl, hW2⟩; rw [hW2, hd]; clear hW2 W2))
    | (go_at_call 27; go_must (refine (hM.out _ _ (by simp) (by simp)).mono ?_; rintro e W2 ⟨rfl, hW2⟩; rw [hW2]; clear hW2 W2)))
  exact bodyPost_ret (v := .tuple #[.agg #[.int .i64 now], .nilIface]) (by simp [results, Tryd.results26, go_sem]) rfl ⟨rfl, by repeat (first | exact Below.refl _ _ | refine Below.setCell ?_ (by simp) _ | refine Below.alloc ?_ (by simp) _)⟩
theorem moved_no (b : Nat) (a : Ar) (node now z : Int) (w : World) (h : ArAt w b a) (hz : arE a node now = z) (h0 : ¬ z = 0) :
    Calls Tryd.prog 26 #[.pointer (some ⟨b, 0, none⟩), .int .i64 node, .int .i64 now] w fun e w' => e = .returned (.tuple #[.agg #[.int .i64 a.now], .iface 55 (.int .i64 z)]) ∧ Below w.heap.size w w' := by
  unfold arE at hz
  split at hz
  · rename_i hn
    subst hz
    exact moved_node b a node now w h hn
  · rename_i hn
    exact moved_bad b a node now z w h (by omega) hz h0

set_option maxHeartbeats 4000000 in
theorem ask_no (b : Nat) (a : Ar) (node now z : Int) (w : World) (h : ArAt w b a) (hz : arE a node now = z) (h0 : ¬ z = 0) :
    Calls Tryd.prog 10 #[.pointer (some ⟨b, 0, none⟩), .int .i64 node, .int .i64 now] w fun e w' => e = .returned (.tuple #[.int .i64 0, .iface 55 (.int .i64 z)]) ∧ Below w.heap.size w w' := by
  have hm := moved_no b a node now z w h hz h0
  generalize a.now = t at hm
  clear h hz
  go_enter Tryd.func10, Tryd.ntmps10
  go_wp2_with (go_at_call 26; go_must (refine hm.mono ?_; rintro e W2 ⟨rfl, b2⟩))
  go_ret2
  exact ⟨rfl, b2.alloc b2.size _⟩
set_option maxHeartbeats 4000000 in
theorem ask_clash (b : Nat) (a : Ar) (node now : Int) (w : World) (h : ArAt w b a) (hz : arE a node now = 0) (h1 : node ≠ a.own) (h2 : now < a.unt) :
    Calls Tryd.prog 10 #[.pointer (some ⟨b, 0, none⟩), .int .i64 node, .int .i64 now] w fun e w' => e = .returned (.tuple #[.int .i64 0, .iface 55 (.int .i64 7)]) ∧ Below w.heap.size w w' := by
  have hm := moved_ok b a node now w h hz
  have hcs : Hid (∀ W, Below w.heap.size w W → W.cell? ⟨b, 2, none⟩ = some (.int .i64 a.own) ∧ W.cell? ⟨b, 3, none⟩ = some (.int .i64 a.unt)) := fun W bW => by
    obtain ⟨_, _, c2, c3⟩ := ar_cells (h.below bW)
    exact ⟨c2, c3⟩
  have hn1 : (node != a.own) = true := by simpa using h1
  have HL := h.lt
  generalize a.own = ow at hcs hn1
  generalize a.unt = un at hcs h2
  clear h hz h1
  go_enter Tryd.func10, Tryd.ntmps10
  go_upto_region 2 with (go_at_call 26; go_must (refine hm.mono ?_; rintro e W2 ⟨rfl, b2⟩))
  have HB : Hid _ := b2.alloc b2.size (.cells #[.int .i64 now] 57)
  obtain ⟨W3, hW3⟩ : ∃ W3, W2.alloc (.cells #[.int .i64 now] 57) = W3 := ⟨_, rfl⟩
  rw [hW3] at HB ⊢
  obtain ⟨c2, c3⟩ := hcs.out W3 HB.out
  clear hW3 b2 hm hcs
  go_wp2_with fail
  go_ret2
  exact ⟨rfl, HB.out⟩
theorem ar_set {w : World} {b : Nat} {x y z u : Value} {T : TypeId} (h : w.heap[b]? = some (.cells #[x, y, z, u] T (0, 0))) (x' z' u' : Value) :
    ((w.setCell ⟨b, 0, none⟩ x').setCell ⟨b, 2, none⟩ z').setCell ⟨b, 3, none⟩ u' |>.heap[b]? = some (.cells #[x', y, z', u'] T (0, 0)) :=
  heap_setCell_same _ b 3 _ _ u' (heap_setCell_same _ b 2 _ _ z' (heap_setCell_same _ b 0 _ _ x' h))
set_option maxHeartbeats 8000000 in
theorem ask_ok (b : Nat) (a : Ar) (node now : Int) (w : World) (h : ArAt w b a) (ok : ArOk a) (hz : arE a node now = 0) (hc : ¬ (node ≠ a.own ∧ now < a.unt)) :
    Calls Tryd.prog 10 #[.pointer (some ⟨b, 0, none⟩), .int .i64 node, .int .i64 now] w fun e w' => e = .returned (.tuple #[.int .i64 (now + a.lease), .nilIface]) ∧ ArAt w' b { a with now := now, own := node, unt := now + a.lease } ∧ Turn (fun i => i = b) w w' := by
  have hm := moved_ok b a node now w h hz
  have HAT : Hid (ArAt w b a) := h
  have HL := h.lt
  obtain ⟨_, g1, g2, _⟩ := arE_ok hz
  have l1 := ok.l1
  have l2 := ok.l2
  have HQ : Hid True := trivial
  obtain ⟨B, hn1, hB⟩ : ∃ B, (node != a.own) = B ∧ (B = false ∨ (B = true ∧ ¬ now < a.unt)) := by
    cases e : (node != a.own)
    · exact ⟨false, rfl, .inl rfl⟩
    · have : node ≠ a.own := by simpa using e
      exact ⟨true, rfl, .inr ⟨rfl, by omega⟩⟩
  clear h hz hc ok
  rcases hB with rfl | ⟨rfl, h2⟩
  all_goals
    go_enter Tryd.func10, Tryd.ntmps10
    go_upto_region 2 with (go_at_call 26; go_must (refine hm.mono ?_; rintro e W2 ⟨rfl, b2⟩))
    have HB : Hid _ := b2.alloc b2.size (.cells #[.int .i64 now] 57)
    have q0 := one_cell (heap_alloc_new W2 (.cells #[.int .i64 now] 57))
    have hs2 := b2.size
    have hs3 : W2.heap.size < (W2.alloc (.cells #[.int .i64 now] 57)).heap.size := by simp
    obtain ⟨W3, hW3⟩ : ∃ W3, W2.alloc (.cells #[.int .i64 now] 57) = W3 := ⟨_, rfl⟩
    obtain ⟨g, hg⟩ : ∃ g, W2.heap.size = g := ⟨_, rfl⟩
    rw [hg] at q0 hs2 hs3
    rw [hW3] at HB q0 hs3
    simp only [hW3, hg]
    obtain ⟨d0, df⟩ := q0
    obtain ⟨c0, c1, c2, c3⟩ := ar_cells (HAT.out.below HB.out)
    obtain ⟨f0, f1, f2, f3⟩ := ar_frees (HAT.out.below HB.out)
    have hbg : b ≠ g := by omega
    have HAT3 : Hid (ArAt W3 b a) := HAT.out.below HB.out
    clear hW3 b2 hm HAT hg
    go_wp2_with fail
    go_ret2
    exact ⟨rfl, ar_set HAT3.out _ _ _, ((Turn.of_below HB.out (fun i => i = b)).trans (Turn.of_only ((((Only.refl _ _).setCell _ _).setCell _ _).setCell _ _) rfl))⟩
theorem ask_any (b : Nat) (a : Ar) (node now : Int) (w : World) (h : ArAt w b a) (ok : ArOk a) :
    Calls Tryd.prog 10 #[.pointer (some ⟨b, 0, none⟩), .int .i64 node, .int .i64 now] w fun e w' => e = .returned (.tuple #[.int .i64 (askI a node now), elV (askE a node now)]) ∧ ArAt w' b (askA a node now) ∧ Turn (fun i => i = b) w w' := by
  by_cases hz : arE a node now = 0
  · by_cases hc : node ≠ a.own ∧ now < a.unt
    · have he : askE a node now = 7 := by unfold askE; rw [if_pos hz, if_pos hc]
      refine (ask_clash b a node now w h hz hc.1 hc.2).mono ?_
      rintro e w' ⟨rfl, h1⟩
      unfold askI askA
      rw [he]
      exact ⟨rfl, h.below h1, Turn.of_below h1 _⟩
    · have he : askE a node now = 0 := by unfold askE; rw [if_pos hz, if_neg hc]
      refine (ask_ok b a node now w h ok hz hc).mono ?_
      rintro e w' ⟨rfl, h1, h2⟩
      unfold askI askA
      rw [he]
      exact ⟨rfl, h1, h2⟩
  · have he : askE a node now = arE a node now := by unfold askE; rw [if_neg hz]
    refine (ask_no b a node now _ w h rfl hz).mono ?_
    rintro e w' ⟨rfl, h1⟩
    unfold askI askA
    rw [he, if_neg hz, if_neg hz]
    refine ⟨?_, h.below h1, Turn.of_below h1 _⟩
    unfold elV
    rw [if_neg hz]
set_option maxHeartbeats 4000000 in
theorem free_no (b : Nat) (a : Ar) (node now z : Int) (w : World) (h : ArAt w b a) (hz : arE a node now = z) (h0 : ¬ z = 0) :
    Calls Tryd.prog 11 #[.pointer (some ⟨b, 0, none⟩), .int .i64 node, .int .i64 now] w fun e w' => e = .returned (.iface 55 (.int .i64 z)) ∧ Below w.heap.size w w' := by
  have hm := moved_no b a node now z w h hz h0
  generalize a.now = t at hm
  clear h hz
  go_enter Tryd.func11, Tryd.ntmps11
  go_wp2_with (go_at_call 26; go_must (refine hm.mono ?_; rintro e W2 ⟨rfl, b2⟩))
  go_ret
  exact ⟨rfl, b2.alloc b2.size _⟩
theorem ar_set0 {w : World} {b : Nat} {x y z u : Value} {T : TypeId} (h : w.heap[b]? = some (.cells #[x, y, z, u] T (0, 0))) (x' : Value) :
    (w.setCell ⟨b, 0, none⟩ x').heap[b]? = some (.cells #[x', y, z, u] T (0, 0)) := heap_setCell_same _ b 0 _ _ x' h
theorem ar_set03 {w : World} {b : Nat} {x y z u : Value} {T : TypeId} (h : w.heap[b]? = some (.cells #[x, y, z, u] T (0, 0))) (x' u' : Value) :
    ((w.setCell ⟨b, 0, none⟩ x').setCell ⟨b, 3, none⟩ u').heap[b]? = some (.cells #[x', y, z, u'] T (0, 0)) := heap_setCell_same _ b 3 _ _ u' (heap_setCell_same _ b 0 _ _ x' h)
set_option maxHeartbeats 8000000 in
theorem free_ok (b : Nat) (a : Ar) (node now : Int) (w : World) (h : ArAt w b a) (hz : arE a node now = 0) :
    Calls Tryd.prog 11 #[.pointer (some ⟨b, 0, none⟩), .int .i64 node, .int .i64 now] w fun e w' => e = .returned .nilIface ∧ ArAt w' b { a with now := now, unt := if node = a.own then now else a.unt } ∧ Turn (fun i => i = b) w w' := by
  have hm := moved_ok b a node now w h hz
  have HAT : Hid (ArAt w b a) := h
  have HL := h.lt
  obtain ⟨B, hn1, hB⟩ : ∃ B, (node == a.own) = B ∧ Hid (B = true ↔ node = a.own) := ⟨_, rfl, by simp [Hid]⟩
  obtain ⟨U, hU⟩ : ∃ U, Hid ((if node = a.own then now else a.unt) = U) := ⟨_, rfl⟩
  rw [hU.out]
  clear h hz
  cases B
  all_goals
    go_enter Tryd.func11, Tryd.ntmps11
    go_upto_region 2 with (go_at_call 26; go_must (refine hm.mono ?_; rintro e W2 ⟨rfl, b2⟩))
    have HB : Hid _ := b2.alloc b2.size (.cells #[.int .i64 now] 57)
    have q0 := one_cell (heap_alloc_new W2 (.cells #[.int .i64 now] 57))
    have hs2 := b2.size
    have hs3 : W2.heap.size < (W2.alloc (.cells #[.int .i64 now] 57)).heap.size := by simp
    obtain ⟨W3, hW3⟩ : ∃ W3, W2.alloc (.cells #[.int .i64 now] 57) = W3 := ⟨_, rfl⟩
    obtain ⟨g, hg⟩ : ∃ g, W2.heap.size = g := ⟨_, rfl⟩
    rw [hg] at q0 hs2 hs3
    rw [hW3] at HB q0 hs3
    simp only [hW3, hg]
    obtain ⟨d0, df⟩ := q0
    obtain ⟨c0, c1, c2, c3⟩ := ar_cells (HAT.out.below HB.out)
    obtain ⟨f0, f1, f2, f3⟩ := ar_frees (HAT.out.below HB.out)
    have hbg : b ≠ g := by omega
    have HAT3 : Hid (ArAt W3 b a) := HAT.out.below HB.out
    clear hW3 b2 hm HAT hg
    go_wp2_with fail
    go_ret
  · refine ⟨rfl, ?_, ((Turn.of_below HB.out (fun i => i = b)).trans (Turn.of_only ((Only.refl _ _).setCell _ _) rfl))⟩
    have e : a.unt = U := (if_neg (fun e => by have := hB.out.2 e; cases this)).symm.trans hU.out
    rw [← e]
    exact ar_set0 HAT3.out _
  · refine ⟨rfl, ?_, ((Turn.of_below HB.out (fun i => i = b)).trans (Turn.of_only (((Only.refl _ _).setCell _ _).setCell _ _) rfl))⟩
    have e : now = U := (if_pos (hB.out.1 (by first | rfl | trivial))).symm.trans hU.out
    rw [← e]
    exact ar_set03 HAT3.out _ _
theorem free_any (b : Nat) (a : Ar) (node now : Int) (w : World) (h : ArAt w b a) :
    Calls Tryd.prog 11 #[.pointer (some ⟨b, 0, none⟩), .int .i64 node, .int .i64 now] w fun e w' => e = .returned (elV (arE a node now)) ∧ ArAt w' b (freeA a node now) ∧ Turn (fun i => i = b) w w' := by
  by_cases hz : arE a node now = 0
  · refine (free_ok b a node now w h hz).mono ?_
    rintro e w' ⟨rfl, h1, h2⟩
    unfold freeA elV
    rw [if_pos hz, if_pos hz]
    exact ⟨rfl, h1, h2⟩
  · refine (free_no b a node now _ w h rfl hz).mono ?_
    rintro e w' ⟨rfl, h1⟩
    unfold freeA elV
    rw [if_neg hz, if_neg hz]
    exact ⟨rfl, h.below h1, Turn.of_below h1 _⟩
end Go.Proofs.YtempphlbgeogiaaDoor
