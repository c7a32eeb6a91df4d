/- What the closures of 'asked' return (package plan): what a rule asks for on a side. -/
import Derived.Test.YtdellfmkmbabhaaPlanFit
import Derived.Test.YtdellfmkmbabhaaAddrNum
import Derived.Test.YtdellfmkmbabhaaRlV
import Derived.Test.YtdellfmkmbabhaaRuleEq
import Derived.Deep.DeepMust
namespace Go.Proofs.Ytdellfmkmbabhaa
open Go.RowKit
set_option linter.unusedVariables false
set_option maxRecDepth 10000

theorem Spns.one (w : World) (a b : Int) (t : TypeId) : Spns (w.alloc (.cells #[.int .i64 a, .int .i64 b] t)) (.slice (some ⟨w.heap.size, 0, none⟩) 1 1) [(a, b)] := by
  have h := heap_alloc_new w (.cells #[.int .i64 a, .int .i64 b] t)
  refine .inr ⟨w.heap.size, 0, 1, 1, rfl, Nat.le_refl _, by unfold maxLen; omega, rfl, by simp, fun i hi => ?_⟩
  match i, hi with
  | 0, _ => exact ⟨by rw [cell_of_row _ _ _ _ _ _ h]; rfl, by rw [cell_of_row _ _ _ _ _ _ h]; rfl⟩
/-- What is returned: spans, in memory; below block D, or in a new one. -/
def GivesSp (D : Nat) (w : World) (l : List Sp) (e : Ending) (w' : World) : Prop := ∃ a c, e = .returned (.slice a l.length c) ∧ Spns w' (.slice a l.length c) l ∧ Below w.heap.size w w' ∧ (l ≠ [] → ∀ b off, a = some ⟨b, off, none⟩ → b < D ∨ w.heap.size ≤ b)
theorem new_blk {n : Nat} (D : Nat) : ∀ b off, some (⟨n, 0, none⟩ : Addr) = some ⟨b, off, none⟩ → b < D ∨ n ≤ b := fun b off h => by
  have := Option.some.inj h
  simp at this
  omega
theorem only_any (n : Int) (w : World) : Calls Try.prog 44 #[.int .i64 n] w (GivesSp 0 w (if n = 0 then [] else [(n, n)])) := by
  by_cases h : n = 0
  · rw [if_pos h]
    have h0 : (n == 0) = true := by simpa using h
    go_enter Try.func44, Try.ntmps44
    go_wp2
    go_ret
    exact ⟨none, 0, rfl, Spns.nil _ _ _, Below.refl _ _, fun h => absurd rfl h⟩
  · rw [if_neg h]
    have h0 : (n == 0) = false := by simpa using h
    have hs := Spns.one w n n 52
    have hb : Below w.heap.size w (w.alloc (.cells #[.int .i64 n, .int .i64 n] 52)) := (Below.refl _ _).alloc (Nat.le_refl _) _
    clear h
    go_enter Try.func44, Try.ntmps44
    go_wp2
    go_ret
    exact ⟨_, _, rfl, hs, hb, fun _ => new_blk _⟩
theorem inside_any (a l : Int) (w : World) (h : prefE a l = 0) : Calls Try.prog 47 #[.agg #[.int .i64 a, .int .i64 l]] w (GivesSp 0 w [(a, a + pw (32 - l) - 1)]) := by
  obtain ⟨z, hz⟩ : ∃ z, a + pw (32 - l) - 1 = z := ⟨_, rfl⟩
  have he := fun w => ends_ok a l w h
  rw [hz] at he ⊢
  clear h hz
  go_enter Try.func47, Try.ntmps47
  go_upto_region 2 with (go_at_call 61; go_must (refine (he _).mono ?_; rintro e w1 ⟨rfl, b1⟩))
  have b0 : Below w.heap.size w (w.alloc (.cells #[.int .i64 a, .int .i64 l] 31)) := (Below.refl _ _).alloc (Nat.le_refl _) _
  have HB := hidE (b0.trans (b1.mono b0.size))
  have hs := Spns.one w1 a z 52
  have hb2 : Below w1.heap.size w1 (w1.alloc (.cells #[.int .i64 a, .int .i64 z] 52)) := (Below.refl _ _).alloc (Nat.le_refl _) _
  have HR := hidE (show GivesSp 0 w [(a, z)] (.returned (.slice (some ⟨w1.heap.size, 0, none⟩) 1 1)) (w1.alloc (.cells #[.int .i64 a, .int .i64 z] 52)) from ⟨_, _, rfl, hs, HB.out.trans (hb2.mono HB.out.size), fun _ b off h => by have := new_blk (n := w1.heap.size) 0 b off h; have := HB.out.size; omega⟩)
  clear b0 b1 hs hb2 he
  go_wp2
  go_ret
  exact HR.out
/-- What a closure of 'asked' does. -/
def Asks (fn side : Nat) : Prop := ∀ (r : Rl) (fv tv : Value) (w0 w : World), ruE r = 0 → Spns w0 fv r.fr → Spns w0 tv r.tl → Below w0.heap.size w0 w → Calls Try.prog fn #[rlV r fv tv] w (GivesSp w0.heap.size w (askS r side))
theorem GivesSp.mono {D : Nat} {w w1 : World} {l : List Sp} (hb : Below w.heap.size w w1) {e : Ending} {w2 : World} (h : GivesSp 0 w1 l e w2) : GivesSp D w l e w2 := by
  obtain ⟨a, c, h1, h2, h3, h4⟩ := h
  refine ⟨a, c, h1, h2, hb.trans (h3.mono hb.size), fun hl b off ha => ?_⟩
  have := h4 hl b off ha
  have := hb.size
  omega
set_option maxHeartbeats 2000000 in
theorem ask_0 : Asks 43 0 := by
  intro r fv tv w0 w hr hf0 ht0 hb0
  have hf := hf0.below hb0
  have ht := ht0.below hb0
  obtain ⟨_, _, p1, p2, _, _, _, _⟩ := ru_parts hr
  have b0 : Below w.heap.size w (w.alloc (.cells #[.bool r.pass, .bool r.quick, .bool r.keep, .int .i64 r.way, .int .i64 r.kind, .int .i64 r.sa, .int .i64 r.sl, .int .i64 r.da, .int .i64 r.dl, fv, tv] 34)) := (Below.refl _ _).alloc (Nat.le_refl _) _
  have hA := RlAt.new w r fv tv
  obtain ⟨c0, c1, c2, c3, c4, c5, c6, c7, c8, c9, c10⟩ := hA.cells
  unfold rlV
  have hc := only_any r.way (w.alloc (.cells #[.bool r.pass, .bool r.quick, .bool r.keep, .int .i64 r.way, .int .i64 r.kind, .int .i64 r.sa, .int .i64 r.sl, .int .i64 r.da, .int .i64 r.dl, fv, tv] 34))
  rw [show askS r 0 = if r.way = 0 then [] else [(r.way, r.way)] from rfl]
  generalize (if r.way = 0 then [] else [(r.way, r.way)]) = l at hc ⊢
  have HM := hidE (fun e w2 => GivesSp.mono (D := w0.heap.size) (l := l) b0 (e := e) (w2 := w2))
  unfold GivesSp at hc
  clear hA b0 hf ht hf0 ht0 hb0 hr p1 p2
  go_enter Try.func43, Try.ntmps43
  go_wp2_with (go_at_call 44; go_must (refine hc.mono ?_; rintro e w2 ⟨a, c, rfl, s2, b2, k2⟩))
  go_ret
  exact HM.out _ _ ⟨a, c, rfl, s2, b2, k2⟩
set_option maxHeartbeats 2000000 in
theorem ask_1 : Asks 45 1 := by
  intro r fv tv w0 w hr hf0 ht0 hb0
  have hf := hf0.below hb0
  have ht := ht0.below hb0
  obtain ⟨_, _, p1, p2, _, _, _, _⟩ := ru_parts hr
  have b0 : Below w.heap.size w (w.alloc (.cells #[.bool r.pass, .bool r.quick, .bool r.keep, .int .i64 r.way, .int .i64 r.kind, .int .i64 r.sa, .int .i64 r.sl, .int .i64 r.da, .int .i64 r.dl, fv, tv] 34)) := (Below.refl _ _).alloc (Nat.le_refl _) _
  have hA := RlAt.new w r fv tv
  obtain ⟨c0, c1, c2, c3, c4, c5, c6, c7, c8, c9, c10⟩ := hA.cells
  unfold rlV
  have hc := only_any r.kind (w.alloc (.cells #[.bool r.pass, .bool r.quick, .bool r.keep, .int .i64 r.way, .int .i64 r.kind, .int .i64 r.sa, .int .i64 r.sl, .int .i64 r.da, .int .i64 r.dl, fv, tv] 34))
  rw [show askS r 1 = if r.kind = 0 then [] else [(r.kind, r.kind)] from rfl]
  generalize (if r.kind = 0 then [] else [(r.kind, r.kind)]) = l at hc ⊢
  have HM := hidE (fun e w2 => GivesSp.mono (D := w0.heap.size) (l := l) b0 (e := e) (w2 := w2))
  unfold GivesSp at hc
  clear hA b0 hf ht hf0 ht0 hb0 hr p1 p2
  go_enter Try.func45, Try.ntmps45
  go_wp2_with (go_at_call 44; go_must (refine hc.mono ?_; rintro e w2 ⟨a, c, rfl, s2, b2, k2⟩))
  go_ret
  exact HM.out _ _ ⟨a, c, rfl, s2, b2, k2⟩
set_option maxHeartbeats 2000000 in
theorem ask_2 : Asks 46 2 := by
  intro r fv tv w0 w hr hf0 ht0 hb0
  have hf := hf0.below hb0
  have ht := ht0.below hb0
  obtain ⟨_, _, p1, p2, _, _, _, _⟩ := ru_parts hr
  have b0 : Below w.heap.size w (w.alloc (.cells #[.bool r.pass, .bool r.quick, .bool r.keep, .int .i64 r.way, .int .i64 r.kind, .int .i64 r.sa, .int .i64 r.sl, .int .i64 r.da, .int .i64 r.dl, fv, tv] 34)) := (Below.refl _ _).alloc (Nat.le_refl _) _
  have hA := RlAt.new w r fv tv
  obtain ⟨c0, c1, c2, c3, c4, c5, c6, c7, c8, c9, c10⟩ := hA.cells
  unfold rlV
  have hc := inside_any r.sa r.sl (w.alloc (.cells #[.bool r.pass, .bool r.quick, .bool r.keep, .int .i64 r.way, .int .i64 r.kind, .int .i64 r.sa, .int .i64 r.sl, .int .i64 r.da, .int .i64 r.dl, fv, tv] 34)) p1
  rw [show askS r 2 = [(r.sa, r.sa + pw (32 - r.sl) - 1)] from rfl]
  generalize [(r.sa, r.sa + pw (32 - r.sl) - 1)] = l at hc ⊢
  have HM := hidE (fun e w2 => GivesSp.mono (D := w0.heap.size) (l := l) b0 (e := e) (w2 := w2))
  unfold GivesSp at hc
  clear hA b0 hf ht hf0 ht0 hb0 hr p1 p2
  go_enter Try.func46, Try.ntmps46
  go_wp2_with (go_at_call 47; go_must (refine hc.mono ?_; rintro e w2 ⟨a, c, rfl, s2, b2, k2⟩))
  go_ret
  exact HM.out _ _ ⟨a, c, rfl, s2, b2, k2⟩
set_option maxHeartbeats 2000000 in
theorem ask_3 : Asks 48 3 := by
  intro r fv tv w0 w hr hf0 ht0 hb0
  have hf := hf0.below hb0
  have ht := ht0.below hb0
  obtain ⟨_, _, p1, p2, _, _, _, _⟩ := ru_parts hr
  have b0 : Below w.heap.size w (w.alloc (.cells #[.bool r.pass, .bool r.quick, .bool r.keep, .int .i64 r.way, .int .i64 r.kind, .int .i64 r.sa, .int .i64 r.sl, .int .i64 r.da, .int .i64 r.dl, fv, tv] 34)) := (Below.refl _ _).alloc (Nat.le_refl _) _
  have hA := RlAt.new w r fv tv
  obtain ⟨c0, c1, c2, c3, c4, c5, c6, c7, c8, c9, c10⟩ := hA.cells
  unfold rlV
  rw [show askS r 3 = r.fr from rfl]
  obtain ⟨a, c, hv⟩ := hf.len
  have HR := hidE (show GivesSp w0.heap.size w r.fr (.returned (.slice a r.fr.length c)) (w.alloc (.cells #[.bool r.pass, .bool r.quick, .bool r.keep, .int .i64 r.way, .int .i64 r.kind, .int .i64 r.sa, .int .i64 r.sl, .int .i64 r.da, .int .i64 r.dl, fv, tv] 34)) from ⟨a, c, rfl, by rw [← hv]; exact hf.below b0, b0, fun hl b off ha => .inl (by have h0 := hf0; rw [hv] at h0; obtain ⟨b', off', e', hb', _⟩ := h0.shape (List.length_pos_iff.2 hl); rw [ha] at e'; have := Option.some.inj e'; simp at this; omega)⟩)
  subst hv
  generalize r.fr.length = n at HR c9 ⊢
  clear hA b0 hf ht hf0 ht0 hb0 hr p1 p2
  go_enter Try.func48, Try.ntmps48
  go_wp2
  go_ret
  exact HR.out
set_option maxHeartbeats 2000000 in
theorem ask_4 : Asks 49 4 := by
  intro r fv tv w0 w hr hf0 ht0 hb0
  have hf := hf0.below hb0
  have ht := ht0.below hb0
  obtain ⟨_, _, p1, p2, _, _, _, _⟩ := ru_parts hr
  have b0 : Below w.heap.size w (w.alloc (.cells #[.bool r.pass, .bool r.quick, .bool r.keep, .int .i64 r.way, .int .i64 r.kind, .int .i64 r.sa, .int .i64 r.sl, .int .i64 r.da, .int .i64 r.dl, fv, tv] 34)) := (Below.refl _ _).alloc (Nat.le_refl _) _
  have hA := RlAt.new w r fv tv
  obtain ⟨c0, c1, c2, c3, c4, c5, c6, c7, c8, c9, c10⟩ := hA.cells
  unfold rlV
  have hc := inside_any r.da r.dl (w.alloc (.cells #[.bool r.pass, .bool r.quick, .bool r.keep, .int .i64 r.way, .int .i64 r.kind, .int .i64 r.sa, .int .i64 r.sl, .int .i64 r.da, .int .i64 r.dl, fv, tv] 34)) p2
  rw [show askS r 4 = [(r.da, r.da + pw (32 - r.dl) - 1)] from rfl]
  generalize [(r.da, r.da + pw (32 - r.dl) - 1)] = l at hc ⊢
  have HM := hidE (fun e w2 => GivesSp.mono (D := w0.heap.size) (l := l) b0 (e := e) (w2 := w2))
  unfold GivesSp at hc
  clear hA b0 hf ht hf0 ht0 hb0 hr p1 p2
  go_enter Try.func49, Try.ntmps49
  go_wp2_with (go_at_call 47; go_must (refine hc.mono ?_; rintro e w2 ⟨a, c, rfl, s2, b2, k2⟩))
  go_ret
  exact HM.out _ _ ⟨a, c, rfl, s2, b2, k2⟩
set_option maxHeartbeats 2000000 in
theorem ask_5 : Asks 50 5 := by
  intro r fv tv w0 w hr hf0 ht0 hb0
  have hf := hf0.below hb0
  have ht := ht0.below hb0
  obtain ⟨_, _, p1, p2, _, _, _, _⟩ := ru_parts hr
  have b0 : Below w.heap.size w (w.alloc (.cells #[.bool r.pass, .bool r.quick, .bool r.keep, .int .i64 r.way, .int .i64 r.kind, .int .i64 r.sa, .int .i64 r.sl, .int .i64 r.da, .int .i64 r.dl, fv, tv] 34)) := (Below.refl _ _).alloc (Nat.le_refl _) _
  have hA := RlAt.new w r fv tv
  obtain ⟨c0, c1, c2, c3, c4, c5, c6, c7, c8, c9, c10⟩ := hA.cells
  unfold rlV
  rw [show askS r 5 = r.tl from rfl]
  obtain ⟨a, c, hv⟩ := ht.len
  have HR := hidE (show GivesSp w0.heap.size w r.tl (.returned (.slice a r.tl.length c)) (w.alloc (.cells #[.bool r.pass, .bool r.quick, .bool r.keep, .int .i64 r.way, .int .i64 r.kind, .int .i64 r.sa, .int .i64 r.sl, .int .i64 r.da, .int .i64 r.dl, fv, tv] 34)) from ⟨a, c, rfl, by rw [← hv]; exact ht.below b0, b0, fun hl b off ha => .inl (by have h0 := ht0; rw [hv] at h0; obtain ⟨b', off', e', hb', _⟩ := h0.shape (List.length_pos_iff.2 hl); rw [ha] at e'; have := Option.some.inj e'; simp at this; omega)⟩)
  subst hv
  generalize r.tl.length = n at HR c10 ⊢
  clear hA b0 hf ht hf0 ht0 hb0 hr p1 p2
  go_enter Try.func50, Try.ntmps50
  go_wp2
  go_ret
  exact HR.out
end Go.Proofs.Ytdellfmkmbabhaa
