/- The reference's list of pairs (portref2.T) in memory ('RV', 'RT'); what before, Inside and At of it return. -/
import Derived.Test.YtdpnmhfhjcebbaaDoorPrRow
import Derived.Test.YtdpnmhfhjcebbaaDoorPlayThin
import Derived.Test.YtdpnmhfhjcebbaaDoorRefNum
import Derived.Test.YtdpnmhfhjcebbaaDoorAddrHas
import Derived.Test.YtdpnmhfhjcebbaaDoorEqP
namespace Go.Proofs.YtdpnmhfhjcebbaaDoor
open Go.RowKit
set_option linter.unusedVariables false
set_option maxRecDepth 4000

/-- The reference's list lies at block mb, its row is the slice v, over blocks of F. -/
structure RV (w : World) (F : Nat → Prop) (mb : Nat) (v : Value) (L : List Pr) : Prop where
  blk : w.heap[mb]? = some (.cells #[v] 30 (0, 0))
  row : OwnR w 0 v L
  own : F mb
  rown : ∀ k, v.ownBlock = some k → F k ∧ k ≠ mb
def RT (w : World) (F : Nat → Prop) (mb : Nat) (L : List Pr) : Prop := ∃ v, RV w F mb v L
section
variable {w w' : World} {F G : Nat → Prop} {mb : Nat} {v : Value} {L : List Pr}
theorem RV.lt (h : RV w F mb v L) : mb < w.heap.size := by
  rcases Nat.lt_or_ge mb w.heap.size with h1 | h1
  · exact h1
  · have := h.blk; simp [Array.getElem?_eq_none h1] at this
theorem RV.cell (h : RV w F mb v L) : w.cell? ⟨mb, 0, none⟩ = some v := by rw [cell_of_row w mb _ _ _ _ h.blk]; rfl
theorem RV.free (h : RV w F mb v L) : w.frozen? ⟨mb, 0, none⟩ = false := frozen_of_row w mb 0 _ _ h.blk
theorem RV.keep (h : RV w F mb v L) (hk : ∀ k, F k → w'.heap[k]? = w.heap[k]?) : RV w' F mb v L :=
  ⟨(hk mb h.own).trans h.blk, h.row.blk (fun k e => hk k (h.rown k e).1), h.own, h.rown⟩
theorem RV.below (h : RV w F mb v L) (hb : Below w.heap.size w w') : RV w' F mb v L :=
  ⟨(hb.block mb h.lt).trans h.blk, h.row.below hb, h.own, h.rown⟩
theorem RV.mono (h : RV w F mb v L) (hG : ∀ k, F k → G k) : RV w G mb v L := ⟨h.blk, h.row, hG _ h.own, fun k e => ⟨hG k (h.rown k e).1, (h.rown k e).2⟩⟩
end
theorem RT.new (w : World) : RV (w.alloc (.cells #[.slice none 0 0] 30)) (fun k => k = w.heap.size) w.heap.size (.slice none 0 0) [] :=
  ⟨heap_alloc_new w _, OwnR.nil _ _, rfl, fun k hk => by cases hk⟩

/-! ### before, Inside -/
def befB (a l b m : Int) : Bool := decide (a < b) || (decide (a = b) && decide (l < m))
set_option maxHeartbeats 4000000 in
theorem before_any (a l b m : Int) (w : World) :
    Calls Tryd.prog 22 #[.agg #[.int .i64 a, .int .i64 l], .agg #[.int .i64 b, .int .i64 m]] w fun e w' => e = .returned (.bool (befB a l b m)) ∧ Below w.heap.size w w' := by
  obtain ⟨c0, c1, c2, c3, b1, z1⟩ := boxed2 (w := w) (a := a) (l := l) (b := b) (m := m) (t := 25) (Below.refl _ _)
  have HB : Hid (Below w.heap.size w ((w.alloc (.cells #[.int .i64 a, .int .i64 l] 25)).alloc (.cells #[.int .i64 b, .int .i64 m] 25))) := b1
  clear b1 c0 c1 c2 c3 z1
  by_cases h1 : a < b
  · have e : befB a l b m = true := by unfold befB; rw [decide_eq_true h1]; rfl
    rw [e]
    clear e
    go_enter Tryd.func22, Tryd.ntmps22
    go_wp2_with fail
    go_ret
    exact ⟨rfl, HB.out⟩
  · by_cases h2 : a = b
    · subst h2
      by_cases h3 : l < m
      · have e : befB a l a m = true := by unfold befB; simp [h3]
        rw [e]
        clear e
        go_enter Tryd.func22, Tryd.ntmps22
        go_wp2_with fail
        go_ret
        exact ⟨rfl, HB.out⟩
      · have e : befB a l a m = false := by unfold befB; simp [h3]
        rw [e]
        clear e
        go_enter Tryd.func22, Tryd.ntmps22
        go_wp2_with fail
        go_ret
        exact ⟨rfl, HB.out⟩
    · have e : befB a l b m = false := by unfold befB; simp [h1, h2]
      rw [e]
      clear e
      go_enter Tryd.func22, Tryd.ntmps22
      go_wp2_with fail
      go_ret
      exact ⟨rfl, HB.out⟩
set_option maxHeartbeats 4000000 in
theorem refInside_any (a l b m : Int) (w : World) :
    Calls Tryd.prog 30 #[.agg #[.int .i64 a, .int .i64 l], .agg #[.int .i64 b, .int .i64 m]] w fun e w' => e = .returned (.bool (insB a l b m)) ∧ Below w.heap.size w w' := by
  have hh := fun w => refHas_any b m a w
  have hp := fun w => refPrefix_any a l w
  unfold insB
  generalize hasB b m a = t at hh ⊢
  generalize prefE a l = n at hp ⊢
  by_cases h0 : n = 0
  · subst h0
    rcases t with _ | _
    all_goals
      go_enter Tryd.func30, Tryd.ntmps30
      go_wp2_with (first
        | (go_at_call 8; refine (hp _).mono ?_; rintro e w2 ⟨rfl, hb2⟩; obtain ⟨e0, e1, e2, e3⟩ := boxed2' c0 c1 c2 c3 z1 hb2)
        | (go_at_call 38; refine (hh _).mono ?_; rintro e w1 ⟨rfl, hb1⟩; obtain ⟨c0, c1, c2, c3, b1, z1⟩ := boxed2 hb1))
      go_ret
      refine ⟨?_, b1.trans (hb2.mono (by omega))⟩
      simp
  · rcases t with _ | _
    all_goals
      go_enter Tryd.func30, Tryd.ntmps30
      go_wp2_with (first
        | (go_at_call 8; refine (hp _).mono ?_; rintro e w2 ⟨rfl, hb2⟩; obtain ⟨e0, e1, e2, e3⟩ := boxed2' c0 c1 c2 c3 z1 hb2)
        | (go_at_call 38; refine (hh _).mono ?_; rintro e w1 ⟨rfl, hb1⟩; obtain ⟨c0, c1, c2, c3, b1, z1⟩ := boxed2 hb1))
      go_ret
      refine ⟨?_, b1.trans (hb2.mono (by omega))⟩
      simp [h0]

/-! ### At -/
/-- Where a prefix stands. -/
def Ats (L : List Pr) (a l r : Int) : Prop := (∃ (k : Nat) (h : k < L.length), r = (k : Int) ∧ L[k].a = a ∧ L[k].l = l) ∨ (r = -1 ∧ ∀ x ∈ L, ¬ (x.a = a ∧ x.l = l))
def AtR (L : List Pr) (a l : Int) (w : World) (e : Ending) (w' : World) : Prop := ∃ r, e = .returned (.int .i64 r) ∧ Ats L a l r ∧ Below w.heap.size w w'
set_option maxHeartbeats 8000000 in
theorem refAt_any (F : Nat → Prop) (mb : Nat) (v : Value) (L : List Pr) (a l : Int) (w : World) (h : RV w F mb v L) :
    Calls Tryd.prog 21 #[.pointer (some ⟨mb, 0, none⟩), .agg #[.int .i64 a, .int .i64 l]] w (AtR L a l w) := by
  obtain ⟨av, cv, hv⟩ := h.row.len
  obtain ⟨N, hN⟩ : ∃ N, L.length = N := ⟨_, rfl⟩
  rw [hN] at hv
  subst hv
  have hB : Below w.heap.size w (w.alloc (.cells #[.int .i64 a, .int .i64 l] 25)) := (Below.refl _ _).alloc (Nat.le_refl _) _
  have hpa := PairAt.new w a l 25
  have H : Hid (RV w F mb (.slice av N cv) L) := h
  have HN : Hid (L.length = N) := hN
  have H1 : Hid (RV (w.alloc (.cells #[.int .i64 a, .int .i64 l] 25)) F mb (.slice av N cv) L) := h.below hB
  have hg := Tryd.prefGuard
  clear h hN
  have HB : Hid (Below w.heap.size w (w.alloc (.cells #[.int .i64 a, .int .i64 l] 25))) := hB
  have HP : Hid (PairAt (w.alloc (.cells #[.int .i64 a, .int .i64 l] 25)) w.heap.size a l) := hpa
  clear hB hpa
  go_enter Tryd.func21, Tryd.ntmps21
  go_wp2_with fail
  generalize w.alloc (.cells #[.int .i64 a, .int .i64 l] 25) = w1 at HB HP H1 ⊢
  go_loopw [5] (fun i wr => ∃ k : Nat, k ≤ N ∧ i = .int .i64 (k : Int) ∧ Below w1.heap.size w1 wr ∧ Hid (∀ j (hj : j < L.length), j < k → ¬ (L[j].a = a ∧ L[j].l = l))) (fun i _ => ((N : Int) - intOf i).toNat)
  case atStart => exact ⟨0, by omega, rfl, Below.refl _ _, fun j _ hj => by omega⟩
  case round =>
    obtain ⟨k, hk, rfl, hb, hno⟩ := hrel
    have hcm := (H1.out.below hb).cell
    have HB2 : Hid (Below w.heap.size w wr) := HB.out.trans (hb.mono HB.out.size)
    by_cases hkn : k < N
    · have i1 : (k : Int) < (N : Int) := by omega
      have i2 : (0 : Int) ≤ (k : Int) := by omega
      have hps : 0 < L.length := by have := HN.out; omega
      obtain ⟨b1, o1, e1, hb1, hl1, hx1, hc1⟩ := (H1.out.below hb).row.prs.shape hps
      subst e1
      have hkp : k < L.length := by have := HN.out; omega
      obtain ⟨x0, x1, x2⟩ := hc1 k hkp
      obtain ⟨y0, y1, _, _⟩ := HP.out.below HP.out.lt hb
      obtain ⟨q, hq⟩ : ∃ q, L[k] = q := ⟨_, rfl⟩
      rw [hq] at x0 x1 x2
      have HQ : Hid (L[k] = q) := hq
      have hx1' : cv ≤ 9223372036854775807 := by unfold maxLen at hx1; omega
      have HBR : Hid (Below w1.heap.size w1 wr) := hb
      clear hc1 hx1 hb hps hq
      by_cases hqe : q.a = a ∧ q.l = l
      · have hne : ∀ w : World, (binOp .eql 25 (.agg #[.int .i64 q.a, .int .i64 q.l]) (.agg #[.int .i64 a, .int .i64 l])).run Tryd.prog w = .ok (.bool true) w := fun w => by rw [Tryd.prefEql]; simp [hqe.1, hqe.2]
        have HZ : Hid (∀ w', Below w.heap.size w w' → AtR L a l w (.returned (.int .i64 (k : Int))) w') := fun w' hw => ⟨k, rfl, .inl ⟨k, hkp, rfl, by rw [HQ.out]; exact hqe.1, by rw [HQ.out]; exact hqe.2⟩, hw⟩
        clear hqe
        go_upto_region 4 with fail
        go_region
        all_goals
          go_wp2_with fail
          go_ret
          exact HZ.out _ ⟨HB2.out.os, HB2.out.tape, HB2.out.output, HB2.out.size, HB2.out.block⟩
      · have hne : ∀ w : World, (binOp .eql 25 (.agg #[.int .i64 q.a, .int .i64 q.l]) (.agg #[.int .i64 a, .int .i64 l])).run Tryd.prog w = .ok (.bool false) w := fun w => by
          rw [Tryd.prefEql]
          have : (q.a == a && q.l == l) = false := by
            rw [Bool.and_eq_false_iff, beq_eq_false_iff_ne, beq_eq_false_iff_ne]; omega
          rw [this]
        have HZ : Hid (∀ j (hj : j < L.length), j < k + 1 → ¬ (L[j].a = a ∧ L[j].l = l)) := fun j hj hjk => by
          by_cases hjk' : j = k
          · subst hjk'; rw [HQ.out]; exact hqe
          · exact hno.out j hj (by omega)
        clear hqe
        go_upto_region 4 with fail
        go_region
        all_goals
          go_wp2_with fail
          go_roundw
          case rel => exact ⟨k + 1, by omega, by go_num, HBR.out.drew, HZ⟩
          case measure => simp [intOf]; omega
    · have hkn' : k = N := by omega
      subst hkn'
      have i1 : ¬ (k : Int) < (k : Int) := by omega
      have HZ : Hid (AtR L a l w (.returned (.int .i64 (-1))) wr) := ⟨-1, rfl, .inr ⟨rfl, fun x hx => by
        obtain ⟨j, hj, rfl⟩ := List.mem_iff_getElem.1 hx
        exact hno.out j hj (by have := HN.out; omega)⟩, HB2.out⟩
      clear hb
      go_wp2_with fail
      go_ret
      exact HZ.out
end Go.Proofs.YtdpnmhfhjcebbaaDoor
