/- What hasRoom and Count of package heavy return. -/
import Derived.Test.YtchailjgikjhlaaDoorHvAt
import Derived.Test.YtchailjgikjhlaaDoorQuietX
import Derived.Deep.DeepCutAuto
namespace Go.Proofs.YtchailjgikjhlaaDoor
open Go.RowKit Go.Maps
set_option linter.unusedVariables false

set_option maxRecDepth 100000 in
set_option maxHeartbeats 8000000 in
theorem room_any (b m : Nat) (h : Hv) (key : Int) (w : World) (k : HvAt w b m h) (hk : WfK key) :
    Calls Tryd.prog 17 #[.pointer (some ⟨b, 0, none⟩), .int .i64 key] w fun e w' => e = .returned (.bool (roomB h key)) ∧ Below w.heap.size w w' := by
  have hlk : ∀ u : Ext w, (Instr.lookup 48 (.map (some m)) (.int .i64 key) false).run Tryd.prog u.W = .ok (.int .i64 (getC h.l key)) u.W := fun u => (k.below u.h).map.look hk
  have hln : ∀ (u : Ext w) (ty : TypeId), (Builtin.len_ #[48] ty #[.map (some m)]).run Tryd.prog u.W = .ok (.int .i64 (h.l.length : Int)) u.W := fun u ty => (k.below u.h).map.len ty
  obtain ⟨c0, c1, c2, c3⟩ := hv_cells k.blk
  have c0 := Ext.cell c0
  have c1 := Ext.cell c1
  unfold roomB
  generalize getC h.l key = g at hlk ⊢
  generalize h.l.length = n at hln ⊢
  generalize h.n = mx at c0 ⊢
  clear k c2 c3
  by_cases h1 : 0 < g
  · rw [show (decide (0 < g) || decide ((n : Int) < mx)) = true by rw [decide_eq_true h1]; rfl]
    go_enter Tryd.func17, Tryd.ntmps17
    go_upto_region 1 with fail
    refine wp_region_ext (by kernel_rfl) (by kernel_rfl) ?_
    repeat (go_big_quiet_step (fail))
    refine wpQuiet_nil ?_
    rintro _ ⟨u, rfl⟩
    have HF := hidE u.h
    obtain ⟨W2, hW2⟩ : ∃ X9, u.W = X9 := ⟨_, rfl⟩
    rw [hW2] at HF ⊢
    clear hW2 hlk hln c0 c1
    go_wp2_with fail
    go_ret
    exact ⟨rfl, HF.out⟩
  · have hd : decide (g > 0) = false := decide_eq_false h1
    by_cases h2 : (n : Int) < mx
    · rw [show (decide (0 < g) || decide ((n : Int) < mx)) = true by rw [decide_eq_true h2, Bool.or_true]]
      go_enter Tryd.func17, Tryd.ntmps17
      go_upto_region 1 with fail
      refine wp_region_ext (by kernel_rfl) (by kernel_rfl) ?_
      repeat (go_big_quiet_step (fail))
      refine wpQuiet_nil ?_
      rintro _ ⟨u, rfl⟩
      have HF := hidE u.h
      obtain ⟨W2, hW2⟩ : ∃ X9, u.W = X9 := ⟨_, rfl⟩
      rw [hW2] at HF ⊢
      clear hW2 hlk hln c0 c1
      go_wp2_with fail
      go_ret
      exact ⟨rfl, HF.out⟩
    · rw [show (decide (0 < g) || decide ((n : Int) < mx)) = false by rw [decide_eq_false h1, decide_eq_false h2]; rfl]
      go_enter Tryd.func17, Tryd.ntmps17
      go_upto_region 1 with fail
      refine wp_region_ext (by kernel_rfl) (by kernel_rfl) ?_
      repeat (go_big_quiet_step (fail))
      refine wpQuiet_nil ?_
      rintro _ ⟨u, rfl⟩
      have HF := hidE u.h
      obtain ⟨W2, hW2⟩ : ∃ X9, u.W = X9 := ⟨_, rfl⟩
      rw [hW2] at HF ⊢
      clear hW2 hlk hln c0 c1
      go_wp2_with fail
      go_ret
      exact ⟨rfl, HF.out⟩
theorem ct_cells {w : World} {b : Nat} {x y z : Value} (h : w.heap[b]? = some (.cells #[x, y, z] 37 (0, 0))) : w.cell? ⟨b, 0, none⟩ = some x ∧ w.cell? ⟨b, 1, none⟩ = some y ∧ w.cell? ⟨b, 2, none⟩ = some z := by
  refine ⟨?_, ?_, ?_⟩ <;> (rw [cell_of_row w b _ _ _ _ h]; rfl)
theorem ct_frees {w : World} {b : Nat} {x y z : Value} (h : w.heap[b]? = some (.cells #[x, y, z] 37 (0, 0))) : w.frozen? ⟨b, 0, none⟩ = false ∧ w.frozen? ⟨b, 1, none⟩ = false ∧ w.frozen? ⟨b, 2, none⟩ = false :=
  ⟨frozen_of_row w b 0 _ _ h, frozen_of_row w b 1 _ _ h, frozen_of_row w b 2 _ _ h⟩
theorem ct_set {w : World} {b : Nat} {x y z : Value} (h : w.heap[b]? = some (.cells #[x, y, z] 37 (0, 0))) (x' y' z' : Value) :
    ∃ w', ((w.setCell ⟨b, 0, none⟩ x').setCell ⟨b, 1, none⟩ y').setCell ⟨b, 2, none⟩ z' = w' ∧ w'.heap[b]? = some (.cells #[x', y', z'] 37 (0, 0)) ∧ Only b w w' := by
  refine ⟨_, rfl, ?_, (((Only.refl _ _).setCell _ _).setCell _ _).setCell _ _⟩
  exact heap_setCell_same _ b 2 _ _ z' (heap_setCell_same _ b 1 _ _ y' (heap_setCell_same _ b 0 _ _ x' h))
/-- A count as the program tells it. -/
def cntV (key many less : Int) : Value := .agg #[.int .i64 key, .int .i64 many, .int .i64 less]
set_option maxRecDepth 100000 in
set_option maxHeartbeats 8000000 in
theorem count_any (b m : Nat) (h : Hv) (key : Int) (w : World) (k : HvAt w b m h) (hk : WfK key) :
    Calls Tryd.prog 8 #[.pointer (some ⟨b, 0, none⟩), .int .i64 key] w fun e w' => e = .returned (cntV key (getC h.l key) h.less) ∧ Below w.heap.size w w' := by
  have k1 := k.below ((Below.refl _ _).alloc (Nat.le_refl _) (.cells #[.int .i64 0, .int .i64 0, .int .i64 0] 37))
  have x1 := heap_alloc_new w (.cells #[.int .i64 0, .int .i64 0, .int .i64 0] 37)
  have b1 : Below w.heap.size w (w.alloc (.cells #[.int .i64 0, .int .i64 0, .int .i64 0] 37)) := (Below.refl _ _).alloc (Nat.le_refl _) _
  have hblt := k.lt
  have hmlt := k.map.lt
  obtain ⟨W1, hW1⟩ : ∃ W1, w.alloc (.cells #[.int .i64 0, .int .i64 0, .int .i64 0] 37) = W1 := ⟨_, rfl⟩
  rw [hW1] at k1 x1 b1
  unfold cntV
  obtain ⟨g, hg⟩ : ∃ g, getC h.l key = g := ⟨_, rfl⟩
  have hlk : (Instr.lookup 48 (.map (some m)) (.int .i64 key) false).run Tryd.prog W1.drew = .ok (.int .i64 g) W1.drew := by
    rw [← hg]; exact (k1.keep (w' := W1.drew) rfl rfl).map.look hk
  rw [hg]
  obtain ⟨c0, c1, c2, c3⟩ := hv_cells k1.blk
  have f0 := frozen_of_row W1 w.heap.size 0 _ _ x1
  have f1 := frozen_of_row W1 w.heap.size 1 _ _ x1
  have f2 := frozen_of_row W1 w.heap.size 2 _ _ x1
  have d0 : W1.cell? ⟨w.heap.size, 0, none⟩ = some (.int .i64 0) := by rw [cell_of_row W1 _ _ _ _ _ x1]; rfl
  have d1 : W1.cell? ⟨w.heap.size, 1, none⟩ = some (.int .i64 0) := by rw [cell_of_row W1 _ _ _ _ _ x1]; rfl
  have d2 : W1.cell? ⟨w.heap.size, 2, none⟩ = some (.int .i64 0) := by rw [cell_of_row W1 _ _ _ _ _ x1]; rfl
  obtain ⟨less, hless⟩ : ∃ less, h.less = less := ⟨_, rfl⟩
  rw [hless] at c2 ⊢
  have HB := hidE b1
  have HX := hidE x1
  clear k k1 hg hk hless c0 c3 b1 x1
  go_enter Tryd.func8, Tryd.ntmps8
  go_upto_region 1 with fail
  try rw [hW1]
  clear hW1
  go_region
  obtain ⟨W4, hW4, x4, o4⟩ := ct_set HX.out (.int .i64 key) (.int .i64 g) (.int .i64 less)
  rw [hW4]
  have HB4 := hidE (o4.below (Nat.le_refl _) HB.out)
  have HX4 := hidE x4
  clear hW4 x4 o4 HB HX hlk c1 c2 d0 d1 d2 f0 f1 f2
  go_wp2_with fail
  obtain ⟨e0, e1, e2⟩ := ct_cells (w := W4.drew) HX4.out
  exact bodyPost_ret (v := .agg #[.int .i64 key, .int .i64 g, .int .i64 less]) (by simp [results, Tryd.results8, go_sem, e0, e1, e2]) rfl ⟨rfl, HB4.out.drew⟩
end Go.Proofs.YtchailjgikjhlaaDoor
