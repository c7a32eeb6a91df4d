/- A teller of package sync in memory ('TlAt'): all up to h were heard of, those from h + 1 to n are left, each with the time from which on it is due. What NewTeller, first, Left and Heard return. -/
import Derived.Test.YtkkefgoidjjehaaDoorSynMap
import Derived.Test.YtkkefgoidjjehaaDoorSynNr
import Derived.Test.YtkkefgoidjjehaaDoorMgB
import Derived.Deep.RegionHeld3
import Derived.Deep.DeepCutAuto
import Derived.Deep.DeepMust
namespace Go.Proofs.YtkkefgoidjjehaaDoor
open Go.RowKit Go.Maps
set_option linter.unusedVariables false

def utV (p : Nt) (d : Int) : Value := .agg #[.int .i64 p.what, .int .i64 p.seq, .int .i64 p.fl.key.kind, .int .i64 p.fl.key.src, .int .i64 p.fl.key.frm, .int .i64 p.fl.key.dst, .int .i64 p.fl.key.too, .int .i64 p.fl.st, .int .i64 p.fl.unt, .int .i64 p.fl.stp, .int .i64 p.fl.h0, .int .i64 p.fl.h1, .int .i64 p.fl.w0, .int .i64 p.fl.w1, .bool p.fl.d0, .bool p.fl.d1, .int .i64 p.fl.num, .int .i64 d]
def UtAt (w : World) (b : Nat) (p : Nt) (d : Int) : Prop := w.heap[b]? = some (.cells #[.int .i64 p.what, .int .i64 p.seq, .int .i64 p.fl.key.kind, .int .i64 p.fl.key.src, .int .i64 p.fl.key.frm, .int .i64 p.fl.key.dst, .int .i64 p.fl.key.too, .int .i64 p.fl.st, .int .i64 p.fl.unt, .int .i64 p.fl.stp, .int .i64 p.fl.h0, .int .i64 p.fl.h1, .int .i64 p.fl.w0, .int .i64 p.fl.w1, .bool p.fl.d0, .bool p.fl.d1, .int .i64 p.fl.num, .int .i64 d] 76 (0, 0))
/-- The numbers that are left. -/
def rngL (h n : Nat) : List Nat := (List.range (n - h)).map fun k => k + h + 1
theorem mem_rngL {h n j : Nat} : j ∈ rngL h n ↔ h < j ∧ j ≤ n := by
  unfold rngL
  rw [List.mem_map]
  constructor
  · rintro ⟨k, hk, rfl⟩
    have := List.mem_range.1 hk
    omega
  · rintro ⟨h1, h2⟩
    exact ⟨j - h - 1, List.mem_range.2 (by omega), by omega⟩
theorem rngL_len (h n : Nat) : (rngL h n).length = n - h := by simp [rngL]
theorem rngL_nodup (h n : Nat) : (rngL h n).Nodup := by
  unfold rngL
  rw [List.nodup_iff_pairwise_ne, List.pairwise_map]
  exact (List.nodup_iff_pairwise_ne.1 List.nodup_range).imp (fun h e => h (by omega))
def tlL (ds : Nat → Nat) (L : List Nat) : List (Lit × Value) := L.map fun x : Nat => (.int .i64 (x : Int), utV (nK x) (ds x : Int))
theorem tlL_filter (ds : Nat → Nat) (L : List Nat) (j : Nat) : (tlL ds L).filter (fun x => !x.1.sameKey (.int .i64 (j : Int))) = tlL ds (L.filter fun x => decide (x ≠ j)) := by
  unfold tlL
  rw [List.filter_map]
  congr 1
  apply List.filter_congr
  intro x hx
  simp only [Function.comp, same_int]
  by_cases h : x = j <;> simp [h]
theorem tlL_mem {ds : Nat → Nat} {L : List Nat} {j : Nat} (h : j ∈ L) : (Lit.int .i64 (j : Int), utV (nK j) (ds j : Int)) ∈ tlL ds L := List.mem_map.2 ⟨j, h, rfl⟩
theorem zeroUt (w : World) : (zeroValue 76).run Tryd.prog w = .ok (utV zeroN 0) w := by
  have h : (Tryd.prog.info? 76).map (fun i => i.zero) = some (some (utV zeroN 0)) := by kernel_rfl
  obtain ⟨i0, hi, hz0⟩ := Option.map_eq_some_iff.1 h
  simp [zeroValue, typeInfo, hi, hz0]
/-- A teller in memory. -/
def TlAt (w : World) (b m now h n : Nat) (ds : Nat → Nat) : Prop := w.heap[b]? = some (.cells #[.int .i64 (now : Int), .int .i64 3, .int .i64 (n : Int), .map (some m)] 74 (0, 0)) ∧ MapIs Tryd.prog 3 w m (tlL ds (rngL h n))
section
variable {w w' : World} {b m now h n : Nat} {ds : Nat → Nat}
theorem TlAt.lt (k : TlAt w b m now h n ds) : b < w.heap.size := (Array.getElem?_eq_some_iff.1 k.1).1
theorem TlAt.ne (k : TlAt w b m now h n ds) : b ≠ m := fun e => k.2.not_cells (e ▸ k.1)
theorem TlAt.blk (k : TlAt w b m now h n ds) (h1 : w'.heap[b]? = w.heap[b]?) (h2 : w'.heap[m]? = w.heap[m]?) : TlAt w' b m now h n ds := ⟨h1.trans k.1, k.2.block h2⟩
theorem TlAt.below (k : TlAt w b m now h n ds) (hb : Below w.heap.size w w') : TlAt w' b m now h n ds := k.blk (hb.block b k.lt) (hb.block m k.2.lt)
theorem TlAt.drew (k : TlAt w b m now h n ds) : TlAt w.drew b m now h n ds := ⟨k.1, k.2.block rfl⟩
theorem TlAt.turn {F : Nat → Prop} (k : TlAt w b m now h n ds) (t : Turn F w w') (h1 : ¬ F b) (h2 : ¬ F m) : TlAt w' b m now h n ds := k.blk (t.block b k.lt h1) (t.block m k.2.lt h2)
theorem tl_cells {x y z u : Value} {T : TypeId} (k : w.heap[b]? = some (.cells #[x, y, z, u] T (0, 0))) : (w.cell? ⟨b, 0, none⟩ = some x ∧ w.cell? ⟨b, 1, none⟩ = some y ∧ w.cell? ⟨b, 2, none⟩ = some z ∧ w.cell? ⟨b, 3, none⟩ = some u) ∧ w.frozen? ⟨b, 0, none⟩ = false ∧ w.frozen? ⟨b, 2, none⟩ = false := by
  refine ⟨⟨?_, ?_, ?_, ?_⟩, frozen_of_row w b 0 _ _ k, frozen_of_row w b 2 _ _ k⟩ <;> (rw [cell_of_row w b _ _ _ _ k]; rfl)
end
theorem hidT {p : Prop} (h : p) : Hid p := h
def Bth (b m : Nat) (i : Nat) : Prop := i = b ∨ i = m
set_option maxHeartbeats 4000000 in
theorem tlNew_any (ds : Nat → Nat) (w : World) :
    Calls Tryd.prog 11 #[.int .i64 3] w fun e w' => e = .returned (.tuple #[.pointer (some ⟨w.heap.size + 1, 0, none⟩), .nilIface]) ∧ TlAt w' (w.heap.size + 1) w.heap.size 0 0 0 ds ∧ Below w.heap.size w w' ∧ w'.heap.size = w.heap.size + 2 := by
  have hb := (Below.refl w.heap.size w).alloc (Nat.le_refl _) (.map #[] 0)
  have h1 : TlAt ((w.alloc (.map #[] 0)).alloc (.cells #[.int .i64 0, .int .i64 3, .int .i64 0, .map (some w.heap.size)] 74)) (w.heap.size + 1) w.heap.size 0 0 0 ds := by
    refine ⟨?_, (MapIs.made Tryd.prog 3 w).block (Below.heap_alloc _ _ _ (by simp))⟩
    have h := heap_alloc_new (w.alloc (.map #[] 0)) (.cells #[.int .i64 0, .int .i64 3, .int .i64 0, .map (some w.heap.size)] 74)
    rw [show (w.alloc (.map #[] 0)).heap.size = w.heap.size + 1 by simp] at h
    exact h
  have h2 := hb.alloc hb.size (.cells #[.int .i64 0, .int .i64 3, .int .i64 0, .map (some w.heap.size)] 74)
  have hmm := @run_makeMap Tryd.prog
  go_enter Tryd.func11, Tryd.ntmps11
  go_wp2_with fail
  go_ret2
  exact ⟨by simp, h1, h2, by simp⟩
set_option maxHeartbeats 4000000 in
theorem tlLeft_any (b m now h n : Nat) (ds : Nat → Nat) (w : World) (k : TlAt w b m now h n ds) (hh : h ≤ n) :
    Calls Tryd.prog 16 #[.pointer (some ⟨b, 0, none⟩)] w fun e w' => e = .returned (.int .i64 ((n : Int) - (h : Int))) ∧ w' = w := by
  have hl := fun ty => k.2.len Tryd.underlying70 ty
  rw [show ((tlL ds (rngL h n)).length : Int) = (n : Int) - (h : Int) by unfold tlL; rw [List.length_map, rngL_len]; omega] at hl
  obtain ⟨⟨c0, c1, c2, c3⟩, _⟩ := tl_cells k.1
  generalize (n : Int) - (h : Int) = z at hl ⊢
  clear k
  go_enter Tryd.func16, Tryd.ntmps16
  go_wp2_with fail
  go_ret
  exact ⟨rfl, rfl⟩
set_option maxHeartbeats 4000000 in
theorem tlFirst_any (b m now h n : Nat) (ds : Nat → Nat) (w : World) (k : TlAt w b m now h n ds) (hh : h ≤ n) (hn : n ≤ 1000) :
    Calls Tryd.prog 26 #[.pointer (some ⟨b, 0, none⟩)] w fun e w' => e = .returned (.int .i64 ((h : Int) + 1)) ∧ w' = w.drew := by
  have hl := fun (X : World) (hX : X.heap[m]? = w.heap[m]?) ty => (k.2.block hX).len Tryd.underlying70 ty
  rw [show ((tlL ds (rngL h n)).length : Int) = (n : Int) - (h : Int) by unfold tlL; rw [List.length_map, rngL_len]; omega] at hl
  have hl1 := fun ty => hl w rfl ty
  have hl2 := fun ty => hl w.drew rfl ty
  obtain ⟨⟨c0, c1, c2, c3⟩, _⟩ := tl_cells k.1
  have hz1 : 0 ≤ (n : Int) - (h : Int) := by omega
  have hz2 : (n : Int) - (h : Int) ≤ 1000 := by omega
  have HE : Hid ((n : Int) - ((n : Int) - (h : Int)) + 1 = (h : Int) + 1) := by show _ = _; omega
  have hn0 : (0 : Int) ≤ (n : Int) := by omega
  have hn1 : (n : Int) ≤ 1000 := by omega
  rw [← HE.out]
  generalize (n : Int) - (h : Int) = z at hl1 hl2 hz1 hz2 ⊢
  generalize (n : Int) = N at c2 hn0 hn1 ⊢
  clear k hl HE hh hn
  go_enter Tryd.func26, Tryd.ntmps26
  go_upto_region 1 with fail
  go_region
  all_goals
    go_wp2_with fail
    go_ret
    exact ⟨rfl, rfl⟩
theorem rng_drop {h n : Nat} (hh : h < n) : (rngL h n).filter (fun x => decide (x ≠ h + 1)) = rngL (h + 1) n := by
  unfold rngL
  obtain ⟨k, hk⟩ : ∃ k, n - h = k + 1 := ⟨n - h - 1, by omega⟩
  rw [hk, show n - (h + 1) = k by omega, List.range_succ_eq_map, List.map_cons, List.filter_cons, if_neg (by simp), List.map_map, List.filter_eq_self.2 (fun x hx => ?_)]
  · apply List.map_congr_left
    intro x hx
    simp only [Function.comp]
    omega
  · obtain ⟨y, hy, rfl⟩ := List.mem_map.1 hx
    simp only [Function.comp, decide_eq_true_eq]
    omega
set_option maxRecDepth 100000 in
set_option maxHeartbeats 8000000 in
theorem tlHeard_any (b m now h n s : Nat) (ds : Nat → Nat) (w : World) (k : TlAt w b m now h n ds) (hs : h ≤ s) (hn : s ≤ n) (hm : n ≤ 1000) :
    Calls Tryd.prog 15 #[.pointer (some ⟨b, 0, none⟩), .int .i64 (s : Int)] w fun e w' => e = .returned .nilIface ∧ TlAt w' b m now s n ds ∧ Turn (Bth b m) w w' := by
  have hf := tlFirst_any b m now h n ds w k (by omega) hm
  obtain ⟨⟨c0, c1, c2, c3⟩, _⟩ := tl_cells k.1
  have HK := hidT k
  have i1 : ¬ (s : Int) < 0 := by omega
  have i2 : ¬ (n : Int) < (s : Int) := by omega
  clear k
  go_enter Tryd.func15, Tryd.ntmps15
  go_upto_region 4 with (go_at_call 26; go_must (refine hf.mono ?_; rintro e W1 ⟨rfl, hW1⟩; rw [hW1]; clear hW1 W1))
  clear c0 c1 c2 c3 hf
  go_loopw [5] (fun v5 wr => ∃ g : Nat, v5 = .int .i64 ((g : Int) + 1) ∧ h ≤ g ∧ g ≤ s ∧ Hid (TlAt wr b m now g n ds) ∧ Hid (Turn (Bth b m) w wr)) (fun v5 _ => (1001 - intOf v5).toNat)
  case atStart => exact ⟨h, rfl, Nat.le_refl _, hs, HK.out.drew, (Turn.refl _ _).drewN 1⟩
  case round =>
    clear HK
    obtain ⟨g, rfl, hg1, hg2, HT, HU⟩ := hrel
    by_cases hgs : g < s
    · have j1 : (g : Int) + 1 ≤ (s : Int) := by omega
      obtain ⟨⟨c0, c1, c2, c3⟩, _⟩ := tl_cells HT.out.1
      have hkey : keyOf Tryd.prog 3 (.int .i64 ((g : Int) + 1)) = some (.int .i64 ((g + 1 : Nat) : Int)) := by
        have := keyI (k := g + 1) (by omega)
        rw [show ((g + 1 : Nat) : Int) = (g : Int) + 1 by omega] at this ⊢
        exact this
      have hmap := HT.out.2
      have j2 : (g : Int) ≤ 1000 := by omega
      go_wp2_with (at_delete; refine wpList_mapDrop _ rfl _ _ 70 3 rfl 76 lawI Tryd.underlying70 m _ rfl hmap _ (.int .i64 ((g + 1 : Nat) : Int)) rfl hkey ?_; intro w7 m7 g7; go_frame)
      rw [tlL_filter, rng_drop (by omega)] at m7
      have k7 : TlAt w7 b m now (g + 1) n ds := ⟨by rw [g7.block b HT.out.lt (fun e => HT.out.ne (by simpa using e))]; exact HT.out.1, m7⟩
      have t7 : Turn (Bth b m) w w7 := HU.out.trans (Turn.of_grown g7 (fun i e => .inr (by simpa using e.symm)))
      have HK7 := hidT k7
      have HT7 := hidT t7
      clear k7 t7 m7 g7 hmap hkey c0 c1 c2 c3
      try go_wp2_with fail
      go_roundw
      case rel => exact ⟨g + 1, by simp, by omega, by omega, HK7, HT7⟩
      case measure => simp only [intOf]; omega
    · obtain rfl : g = s := by omega
      have j1 : ¬ (g : Int) + 1 ≤ (g : Int) := by omega
      go_wp2_with fail
      go_ret
      exact ⟨rfl, HT.out, HU.out⟩
end Go.Proofs.YtkkefgoidjjehaaDoor
