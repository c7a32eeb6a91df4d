/- What slices.Grow of nil and slices.Concat of two slices of spans return. -/
import Derived.Test.YtdellfmkmbabhaaSpnAt
import Derived.Lib.AppendZerosOnto
namespace Go.Proofs.Ytdellfmkmbabhaa
open Go.RowKit
set_option linter.unusedVariables false

set_option maxHeartbeats 4000000 in
theorem growNil_any (n : Nat) (w : World) (hn : n ≤ 1000000) :
    Calls Try.prog 94 #[.slice none 0 0, .int .i64 n] w fun e w' => ∃ v, e = .returned v ∧ OwnSp w' w.heap.size v [] ∧ Below w.heap.size w w' := by
  have h1 : ¬ ((n : Int) < 0) := by omega
  rcases Nat.eq_zero_or_pos n with rfl | hp
  · go_enter Try.func94, Try.ntmps94
    go_wp2
    go_ret
    exact ⟨_, rfl, OwnSp.nil _ _, Below.refl _ _⟩
  · obtain ⟨i0, hi, hz0, hz1, hz2⟩ := info_parts Try.infoSp
    have hp' : (0 : Int) < (n : Int) := by omega
    have hold : (Builtin.firstCells i0.size 0 (.slice none 0 0)).run Try.prog w.drew = .ok ([] : List Value).toArray w.drew := by simp [Builtin.firstCells]
    have hr := fun ty => Lib.run_append_grow_zeros (P := Try.prog) w 32 3 ty 52 i0 (.agg #[.int .i64 0, .int .i64 0]) .i64 .i64 Try.underlying32 Try.underlying3 hi hz0 none 0 0 [] hold n hp (by rw [hz1]; decide) (by omega) (by omega) (by rw [hz2]; omega) (growslice_fits (by omega) (by rw [hz2]; omega))
    have hG := grownCap_ge w (0 + n) 0 52
    have hG2 := grownCap_le_maxLen w (0 + n) 0 52 (by unfold maxLen; omega)
    simp only [Nat.zero_add] at hr hG hG2
    obtain ⟨G, hGe⟩ : ∃ G, grownCap w n 0 52 = G := ⟨_, rfl⟩
    rw [hGe] at hG hG2
    simp only [hGe] at hr
    obtain ⟨C, hC⟩ : ∃ C : Array Value, ([] : List Value).toArray ++ Builtin.zeroCells (Value.agg #[Value.int .i64 0, .int .i64 0]).cells n ++ Builtin.zeroCells (Value.agg #[Value.int .i64 0, .int .i64 0]).cells (G - n) = C := ⟨_, rfl⟩
    simp only [hC] at hr
    have hCs : C.size = G * 2 := by
      rw [← hC]; simp [size_zeroCells, Value.cells]; omega
    have HW : Hid (OwnSp (w.drew.alloc (.cells C 52)) w.heap.size (.slice (some ⟨w.heap.size, 0, none⟩) 0 G) []) := by
      refine ⟨rfl, .inr ⟨w.heap.size, G, C, rfl, Nat.le_refl _, ?_, by simp, hG2, hCs, by simp [spCells]⟩⟩
      have := heap_alloc_new w.drew (.cells C 52)
      exact this
    have HB : Hid (Below w.heap.size w (w.drew.alloc (.cells C 52))) := (show Below w.heap.size w w.drew from ⟨rfl, rfl, rfl, Nat.le_refl _, fun _ _ => rfl⟩).alloc (Nat.le_refl _) _
    unfold maxLen at hG2
    clear hC hCs hold hGe hi hz0 hz1 hz2
    go_enter Try.func94, Try.ntmps94
    go_wp2_with (at_builtin; refine Lib.wpList_append_run _ rfl _ _ _ _ rfl _ _ rfl rfl _ _ (hr _) ?_)
    go_ret
    exact ⟨_, rfl, HW.out, HB.out⟩
set_option maxHeartbeats 4000000 in
theorem concat_any (va vb : Value) (a b : List Sp) (B : Nat) (w : World) (ha : Spns w va a) (hb : Spns w vb b) (hB : B < w.heap.size) (c0 : w.cell? ⟨B, 0, none⟩ = some va) (c1 : w.cell? ⟨B, 1, none⟩ = some vb) (hna : a.length ≤ 200) (hnb : b.length ≤ 200) :
    Calls Try.prog 86 #[.slice (some ⟨B, 0, none⟩) 2 2] w fun e w' => ∃ v, e = .returned v ∧ OwnSp w' w.heap.size v (a ++ b) ∧ Below w.heap.size w w' := by
  obtain ⟨aa, ca, rfl⟩ := ha.len
  obtain ⟨ab, cb, rfl⟩ := hb.len
  have HA : Hid (Spns w (.slice aa a.length ca) a) := ha
  have HB : Hid (Spns w (.slice ab b.length cb) b) := hb
  obtain ⟨n, hn⟩ : ∃ n, a.length = n := ⟨_, rfl⟩
  obtain ⟨m, hm⟩ : ∃ m, b.length = m := ⟨_, rfl⟩
  rw [hn] at c0 hna HA
  rw [hm] at c1 hnb HB
  have HN : Hid (a.length = n ∧ b.length = m) := ⟨hn, hm⟩
  have hg := fun w => growNil_any (n + m) w (by omega)
  have hnm : ((n + m : Nat) : Int) = (n : Int) + (m : Int) := by omega
  simp only [hnm] at hg
  have hneg : ¬ ((n : Int) + (m : Int) < 0) := by omega
  clear ha hb hn hm hnm
  go_enter Try.func86, Try.ntmps86
  go_wp2_with fail
  refine wp_loop_rounds 3 ?_
  rw [rounds_succ]
  go_wp2_with fail
  rw [rounds_succ]
  go_wp2_with fail
  rw [rounds_succ]
  go_wp2_with (go_at_call 94; refine (hg _).mono ?_; rintro e w1 ⟨v1, rfl, own1, b1⟩)
  have hA1 := HA.out.below b1
  have hB1 := HB.out.below b1
  have d0 : w1.cell? ⟨B, 0, none⟩ = some (.slice aa n ca) := (b1.cell (p := ⟨B, 0, none⟩) hB).trans c0
  have d1 : w1.cell? ⟨B, 1, none⟩ = some (.slice ab m cb) := (b1.cell (p := ⟨B, 1, none⟩) hB).trans c1
  have hz1 := b1.size
  clear c0 c1 hg
  refine wp_loop_rounds 3 ?_
  rw [rounds_succ]
  go_wp2_with (at_builtin; refine wpList_append_spns rfl (.tmp 31) (.tmp 32) rfl w.heap.size v1 [] rfl own1 (.slice aa n ca) a rfl hA1 (by have := HN.out; simp; omega) hz1 ?_; intro v2 w2 own2 grow2 lie2)
  have b2 := grown_below grow2 hz1 (fun k hk => (own1.block k hk).1)
  have e0 : w2.cell? ⟨B, 1, none⟩ = some (.slice ab m cb) := (b2.cell (p := ⟨B, 1, none⟩) hB).trans d1
  have hB2 := HB.out.below (b1.trans b2)
  have hz2 := (b1.trans b2).size
  rw [List.nil_append] at own2
  rw [rounds_succ]
  go_wp2_with (at_builtin; refine wpList_append_spns rfl (.tmp 31) (.tmp 32) rfl w.heap.size v2 a rfl own2 (.slice ab m cb) b rfl hB2 (by have := HN.out; omega) hz2 ?_; intro v3 w3 own3 grow3 lie3)
  have b3 := grown_below grow3 hz2 (fun k hk => (own2.block k hk).1)
  rw [rounds_succ]
  go_wp2_with fail
  go_ret
  exact ⟨_, rfl, own3, (b1.trans b2).trans b3⟩
end Go.Proofs.Ytdellfmkmbabhaa
