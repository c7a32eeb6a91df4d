/- What Check and Sums of package audit return. -/
import Derived.Test.YtfgaalhaeadhmaaDoorAuWk
namespace Go.Proofs.YtfgaalhaeadhmaaDoor
open Go.RowKit
set_option linter.unusedVariables false

/-- A variable in a block of its own. -/
def OneAt (w : World) (b : Nat) (v : Value) (t : TypeId) : Prop := w.heap[b]? = some (.cells #[v] t (0, 0))
theorem OneAt.lt {w : World} {b : Nat} {v : Value} {t : TypeId} (h : OneAt w b v t) : b < w.heap.size := by
  rcases Nat.lt_or_ge b w.heap.size with h1 | h1
  · exact h1
  · unfold OneAt at h; simp [Array.getElem?_eq_none h1] at h
theorem OneAt.cell {w : World} {b : Nat} {v : Value} {t : TypeId} (h : OneAt w b v t) : w.cell? ⟨b, 0, none⟩ = some v := by rw [cell_of_row w b 0 _ _ _ h]; rfl
theorem OneAt.free {w : World} {b : Nat} {v : Value} {t : TypeId} (h : OneAt w b v t) : w.frozen? ⟨b, 0, none⟩ = false := frozen_of_row w b 0 _ _ h
theorem OneAt.new (w : World) (v : Value) (t : TypeId) : OneAt (w.alloc (.cells #[v] t)) w.heap.size v t := heap_alloc_new w _
theorem OneAt.below {w w' : World} {b B : Nat} {v : Value} {t : TypeId} (h : OneAt w b v t) (hB : b < B) (hb : Below B w w') : OneAt w' b v t := by
  unfold OneAt; rw [hb.block b hB]; exact h
theorem OneAt.alloc {w : World} {b : Nat} {v : Value} {t : TypeId} (h : OneAt w b v t) (o : Obj) : OneAt (w.alloc o) b v t := h.below h.lt ((Below.refl _ _).alloc (Nat.le_refl _) _)
theorem OneAt.set {w : World} {b : Nat} {v : Value} {t : TypeId} (h : OneAt w b v t) (u : Value) : OneAt (w.setCell ⟨b, 0, none⟩ u) b u t := by
  have := heap_setCell_same w b 0 _ _ u h
  unfold OneAt; rw [this]; rfl
theorem OneAt.other {w : World} {b g : Nat} {v : Value} {t : TypeId} (h : OneAt w b v t) (hne : b ≠ g) (i : Nat) (u : Value) : OneAt (w.setCell ⟨g, i, none⟩ u) b v t := by
  unfold OneAt; rw [Below.heap_setCell _ _ _ _ hne]; exact h
/-! ### Check -/
theorem enter15 : ∀ args W, (callFunc 35 args).run Tryd.prog W = .ok (.enter 35 args) W := fun _ _ => by kernel_rfl
theorem check1_any (e : Ev) (w : World) : Calls Tryd.prog 35 (#[evV e] ++ #[]) w fun o w' => o = .returned (.tuple #[]) ∧ Below w.heap.size w w' := by
  show Calls Tryd.prog 35 #[evV e] w _
  unfold evV
  have hb : Below w.heap.size w (w.alloc (.cells #[.int .i64 e.time, .int .i64 e.node, .int .i64 e.what, .int .i64 e.key.kind, .int .i64 e.key.src, .int .i64 e.key.frm, .int .i64 e.key.dst, .int .i64 e.key.too] 54)) := (Below.refl _ _).alloc (Nat.le_refl _) _
  go_enter Tryd.func35, Tryd.ntmps35
  go_wp2_with fail
  go_end0
  exact ⟨rfl, hb⟩
set_option maxRecDepth 100000 in
set_option maxHeartbeats 8000000 in
theorem check_any (es : List Ev) (v : Value) (w : World) (hv : Evs w v es) : Calls Tryd.prog 16 #[v] w fun e W' => e = .returned (.tuple #[.int .i64 ((audR es).1 : Nat), auV (audR es).2]) ∧ Below w.heap.size w W' := by
  have hw := walk_any 35 #[] (fun _ _ => True) w.heap.size es v w hv (fun W h => hv.below h) (Nat.le_refl _) trivial (fun _ _ _ _ _ => trivial) enter15
    (fun k hk W _ _ _ hb => (check1_any es[k] W).mono (fun e W' h => ⟨h.1, trivial, h.2.mono hb.size⟩))
  generalize auV (audR es).2 = c at hw ⊢
  generalize ((audR es).1 : Int) = n at hw ⊢
  go_enter Tryd.func16, Tryd.ntmps16
  go_wp2_with (go_at_call 34; go_must ((with_reducible refine hw.mono ?_); rintro e W1 ⟨rfl, b1, _⟩))
  go_ret2
  exact ⟨rfl, b1⟩
/-! ### Sums -/
theorem enter17 : ∀ args W, (callFunc 36 args).run Tryd.prog W = .ok (.enter 36 args) W := fun _ _ => by kernel_rfl
/-- Three counts in three blocks. -/
structure Sm (W : World) (b : Nat) (x y z : Int) : Prop where
  c1 : OneAt W b (.int .i64 x) 3
  c2 : OneAt W (b + 1) (.int .i64 y) 3
  c3 : OneAt W (b + 2) (.int .i64 z) 3
theorem Sm.below {W W' : World} {b : Nat} {x y z : Int} (h : Sm W b x y z) (hb : Below W.heap.size W W') : Sm W' b x y z := ⟨h.c1.below h.c1.lt hb, h.c2.below h.c2.lt hb, h.c3.below h.c3.lt hb⟩
theorem Sm.drew {W : World} {b : Nat} {x y z : Int} (h : Sm W b x y z) : Sm W.drew b x y z := ⟨h.c1, h.c2, h.c3⟩
theorem Sm.s1 {W : World} {b : Nat} {x y z : Int} (h : Sm W b x y z) (u : Int) : Sm (W.setCell ⟨b, 0, none⟩ (.int .i64 u)) b u y z := ⟨h.c1.set _, h.c2.other (by omega) _ _, h.c3.other (by omega) _ _⟩
theorem Sm.s2 {W : World} {b : Nat} {x y z : Int} (h : Sm W b x y z) (u : Int) : Sm (W.setCell ⟨b + 1, 0, none⟩ (.int .i64 u)) b x u z := ⟨h.c1.other (by omega) _ _, h.c2.set _, h.c3.other (by omega) _ _⟩
theorem Sm.s3 {W : World} {b : Nat} {x y z : Int} (h : Sm W b x y z) (u : Int) : Sm (W.setCell ⟨b + 2, 0, none⟩ (.int .i64 u)) b x y u := ⟨h.c1.other (by omega) _ _, h.c2.other (by omega) _ _, h.c3.set _⟩
set_option maxRecDepth 100000 in
set_option maxHeartbeats 16000000 in
theorem sums1_any (e : Ev) (b B : Nat) (x y z : Nat) (w : World) (hx : x ≤ 1000) (hy : y ≤ 1000) (hz : z ≤ 1000) (hB : B ≤ b) (h : Sm w b x y z) :
    Calls Tryd.prog 36 (#[evV e] ++ #[.pointer (some ⟨b, 0, none⟩), .pointer (some ⟨b + 1, 0, none⟩), .pointer (some ⟨b + 2, 0, none⟩)]) w fun o w' => o = .returned (.tuple #[]) ∧ Sm w' b ((x + if e.what = 1 then 1 else 0 : Nat) : Int) ((y + if e.what = 2 then 1 else 0 : Nat) : Int) ((z + if e.what = 3 then 1 else 0 : Nat) : Int) ∧ Below B w w' := by
  show Calls Tryd.prog 36 #[evV e, .pointer (some ⟨b, 0, none⟩), .pointer (some ⟨b + 1, 0, none⟩), .pointer (some ⟨b + 2, 0, none⟩)] w _
  have hbw : B ≤ w.heap.size := Nat.le_trans hB (Nat.le_of_lt h.c1.lt)
  have hb0 : Below w.heap.size w (w.alloc (.cells #[.int .i64 e.time, .int .i64 e.node, .int .i64 e.what, .int .i64 e.key.kind, .int .i64 e.key.src, .int .i64 e.key.frm, .int .i64 e.key.dst, .int .i64 e.key.too] 54)) := (Below.refl _ _).alloc (Nat.le_refl _) _
  have hE := EvAt.new w e
  have hS := h.below hb0
  have hb := hb0.mono hbw
  unfold evV
  obtain ⟨t, n, k, ky⟩ := e
  simp only at hE hb hS hb0 ⊢
  obtain ⟨W, hW⟩ : ∃ W, w.alloc (.cells #[.int .i64 t, .int .i64 n, .int .i64 k, .int .i64 ky.kind, .int .i64 ky.src, .int .i64 ky.frm, .int .i64 ky.dst, .int .i64 ky.too] 54) = W := ⟨_, rfl⟩
  rw [hW] at hE hb hS
  clear hb0 h
  obtain ⟨_, _, c2, _⟩ := hE.cells
  simp only at c2
  have p1 := hS.c1.cell
  have p2 := hS.c2.cell
  have p3 := hS.c3.cell
  have f1 := hS.c1.free
  have f2 := hS.c2.free
  have f3 := hS.c3.free
  have HS := hidA hS
  have HB := hidA hb
  have HBB := hidA hB
  clear hS hb hE hbw hB
  rcases (by omega : k = 1 ∨ k = 2 ∨ k = 3 ∨ (¬ k = 1 ∧ ¬ k = 2 ∧ ¬ k = 3)) with rfl | rfl | rfl | ⟨i1, i2, i3⟩

  · have HN := hidA (HS.out.s1 (x + 1))
    go_enter Tryd.func36, Tryd.ntmps36
    go_wp2_with fail
    go_end0
    exact ⟨rfl, by simpa using HN.out, HB.out.setCell (by have := HBB.out; simp; omega) _⟩
  · have HN := hidA (HS.out.s2 (y + 1))
    go_enter Tryd.func36, Tryd.ntmps36
    go_wp2_with fail
    go_end0
    exact ⟨rfl, by simpa using HN.out, HB.out.setCell (by have := HBB.out; simp; omega) _⟩
  · have HN := hidA (HS.out.s3 (z + 1))
    go_enter Tryd.func36, Tryd.ntmps36
    go_wp2_with fail
    go_end0
    exact ⟨rfl, by simpa using HN.out, HB.out.setCell (by have := HBB.out; simp; omega) _⟩
  · have i1b : (k == 1) = false := by simpa using i1
    have i2b : (k == 2) = false := by simpa using i2
    have i3b : (k == 3) = false := by simpa using i3
    rw [if_neg i1, if_neg i2, if_neg i3]
    clear i1 i2 i3
    go_enter Tryd.func36, Tryd.ntmps36
    go_wp2_with fail
    go_end0
    exact ⟨rfl, by simpa using HS.out, HB.out⟩
set_option maxRecDepth 100000 in
set_option maxHeartbeats 16000000 in
theorem sums_any (es : List Ev) (v : Value) (w : World) (hv : Evs w v es) : Calls Tryd.prog 17 #[v] w fun e W' => e = .returned (.tuple (if (audR es).2 = 0 then #[.int .i64 (cntE 1 es : Nat), .int .i64 (cntE 2 es : Nat), .int .i64 (cntE 3 es : Nat), .nilIface] else #[.int .i64 0, .int .i64 0, .int .i64 0, auV (audR es).2])) ∧ Below w.heap.size w W' := by
  obtain ⟨w3, hw3⟩ : ∃ w3, ((w.alloc (.cells #[.int .i64 0] 3)).alloc (.cells #[.int .i64 0] 3)).alloc (.cells #[.int .i64 0] 3) = w3 := ⟨_, rfl⟩
  have hS : Sm w3 w.heap.size 0 0 0 := by
    rw [← hw3]
    refine ⟨((OneAt.new _ _ _).alloc _).alloc _, ?_, ?_⟩
    · have := (OneAt.new (w.alloc (.cells #[.int .i64 0] 3)) (.int .i64 0) 3).alloc (.cells #[.int .i64 0] 3)
      simpa using this
    · have := OneAt.new ((w.alloc (.cells #[.int .i64 0] 3)).alloc (.cells #[.int .i64 0] 3)) (.int .i64 0) 3
      simpa using this
  have hb3 : Below w.heap.size w w3 := by
    rw [← hw3]
    exact (((Below.refl _ _).alloc (Nat.le_refl _) _).alloc (by simp) _).alloc (by simp; omega) _
  have hw := walk_any 36 #[.pointer (some ⟨w.heap.size, 0, none⟩), .pointer (some ⟨w.heap.size + 1, 0, none⟩), .pointer (some ⟨w.heap.size + 2, 0, none⟩)] (fun k W => Sm W w.heap.size (cntE 1 (es.take k) : Nat) (cntE 2 (es.take k) : Nat) (cntE 3 (es.take k) : Nat)) w.heap.size es v w3 (hv.below hb3) (fun W h => hv.below (hb3.trans h)) hb3.size
    (by simpa [cntE] using hS) (fun k W W' h hb => h.below hb) enter17
    (fun k hk W hl hg hI hb => by
      have c1 := cnt_le 1 (es.take k)
      have c2 := cnt_le 2 (es.take k)
      have c3 := cnt_le 3 (es.take k)
      have cl : (es.take k).length ≤ 1000 := by rw [List.length_take]; omega
      refine (sums1_any es[k] w.heap.size w.heap.size _ _ _ W (by omega) (by omega) (by omega) (Nat.le_refl _) hI).mono ?_
      rintro e W' ⟨h1, h2, h3⟩
      refine ⟨h1, ?_, h3⟩
      show Sm W' w.heap.size _ _ _
      rw [cnt_succ 1 hk, cnt_succ 2 hk, cnt_succ 3 hk]
      exact h2)
  generalize (audR es).2 = c at hw ⊢
  generalize ((audR es).1 : Int) = n at hw ⊢
  have HW3 := hidA hw3
  have HB3 := hidA hb3
  clear hb3 hS hv
  by_cases hc : c = 0
  · rw [hc, show auV 0 = .nilIface from rfl] at hw
    rw [if_pos hc]
    clear hc
    obtain ⟨x, hx⟩ : ∃ x, ((cntE 1 es : Nat) : Int) = x := ⟨_, rfl⟩
    obtain ⟨y, hy⟩ : ∃ x, ((cntE 2 es : Nat) : Int) = x := ⟨_, rfl⟩
    obtain ⟨z, hz⟩ : ∃ x, ((cntE 3 es : Nat) : Int) = x := ⟨_, rfl⟩
    rw [hx, hy, hz]
    have HX := hidA hx
    have HY := hidA hy
    have HZ := hidA hz
    clear hx hy hz
    go_enter Tryd.func17, Tryd.ntmps17
    go_upto_region 2 with (go_at_call 34; go_must ((with_reducible refine hw.mono ?_); rintro e W1 ⟨rfl, b1, j, s1, hj⟩; obtain rfl := hj rfl; rw [List.take_length] at s1; have S1 := hidA s1; clear s1 hj))
    rw [HX.out, HY.out, HZ.out] at S1
    have p1 := S1.out.c1.cell
    have p2 := S1.out.c2.cell
    have p3 : W1.cell? ⟨w.heap.size + 1 + 1, 0, none⟩ = some (.int .i64 z) := S1.out.c3.cell
    have f1 := S1.out.c1.free
    have f2 := S1.out.c2.free
    have f3 : W1.frozen? ⟨w.heap.size + 1 + 1, 0, none⟩ = false := S1.out.c3.free
    have HB1 := hidA (HB3.out.trans (b1.mono (Nat.le_refl _)))
    clear b1 hw hw3
    go_upto_region 4 with fail
    go_region
    have S2 : Sm (((W1.setCell ⟨w.heap.size, 0, none⟩ (.int .i64 x)).setCell ⟨w.heap.size + 1, 0, none⟩ (.int .i64 y)).setCell ⟨w.heap.size + 1 + 1, 0, none⟩ (.int .i64 z)).drew w.heap.size x y z := (((S1.out.s1 x).s2 y).s3 z).drew
    have b2 : Below w.heap.size w (((W1.setCell ⟨w.heap.size, 0, none⟩ (.int .i64 x)).setCell ⟨w.heap.size + 1, 0, none⟩ (.int .i64 y)).setCell ⟨w.heap.size + 1 + 1, 0, none⟩ (.int .i64 z)).drew := (((HB1.out.setCell (by simp) _).setCell (by simp) _).setCell (by simp; omega) _).drew
    obtain ⟨W2, hW2⟩ : ∃ W2, (((W1.setCell ⟨w.heap.size, 0, none⟩ (.int .i64 x)).setCell ⟨w.heap.size + 1, 0, none⟩ (.int .i64 y)).setCell ⟨w.heap.size + 1 + 1, 0, none⟩ (.int .i64 z)).drew = W2 := ⟨_, rfl⟩
    rw [hW2] at S2 b2 ⊢
    clear hW2 p1 p2 p3 f1 f2 f3
    have p1 := S2.c1.cell
    have p2 := S2.c2.cell
    have p3 : W2.cell? ⟨w.heap.size + 1 + 1, 0, none⟩ = some (.int .i64 z) := S2.c3.cell
    have HB2 := hidA b2
    clear b2 S2
    go_wp2_with fail
    exact bodyPost_ret (v := .tuple #[.int .i64 x, .int .i64 y, .int .i64 z, .nilIface]) (by simp [results, Tryd.results17, go_sem, p1, p2, p3]) rfl ⟨rfl, HB2.out⟩
  · rw [auV_ne hc] at hw
    rw [if_neg hc, auV_ne hc]
    clear hc
    go_enter Tryd.func17, Tryd.ntmps17
    go_upto_region 3 with (go_at_call 34; go_must ((with_reducible refine hw.mono ?_); rintro e W1 ⟨rfl, b1, j, s1, hj⟩; have S1 := hidA s1; clear s1 hj))
    obtain ⟨x, hx⟩ : ∃ x, ((cntE 1 (es.take j) : Nat) : Int) = x := ⟨_, rfl⟩
    obtain ⟨y, hy⟩ : ∃ x, ((cntE 2 (es.take j) : Nat) : Int) = x := ⟨_, rfl⟩
    obtain ⟨z, hz⟩ : ∃ x, ((cntE 3 (es.take j) : Nat) : Int) = x := ⟨_, rfl⟩
    rw [hx, hy, hz] at S1
    clear hx hy hz
    have p1 := S1.out.c1.cell
    have p2 := S1.out.c2.cell
    have p3 : W1.cell? ⟨w.heap.size + 1 + 1, 0, none⟩ = some (.int .i64 z) := S1.out.c3.cell
    have f1 := S1.out.c1.free
    have f2 := S1.out.c2.free
    have f3 : W1.frozen? ⟨w.heap.size + 1 + 1, 0, none⟩ = false := S1.out.c3.free
    have HB1 := hidA (HB3.out.trans (b1.mono (Nat.le_refl _)))
    clear b1 hw hw3
    have S2 : Sm (((W1.setCell ⟨w.heap.size, 0, none⟩ (.int .i64 0)).setCell ⟨w.heap.size + 1, 0, none⟩ (.int .i64 0)).setCell ⟨w.heap.size + 1 + 1, 0, none⟩ (.int .i64 0)) w.heap.size 0 0 0 := ((S1.out.s1 0).s2 0).s3 0
    have b2 : Below w.heap.size w (((W1.setCell ⟨w.heap.size, 0, none⟩ (.int .i64 0)).setCell ⟨w.heap.size + 1, 0, none⟩ (.int .i64 0)).setCell ⟨w.heap.size + 1 + 1, 0, none⟩ (.int .i64 0)) := ((HB1.out.setCell (by simp) _).setCell (by simp) _).setCell (by simp; omega) _
    obtain ⟨W2, hW2⟩ : ∃ W2, ((W1.setCell ⟨w.heap.size, 0, none⟩ (.int .i64 0)).setCell ⟨w.heap.size + 1, 0, none⟩ (.int .i64 0)).setCell ⟨w.heap.size + 1 + 1, 0, none⟩ (.int .i64 0) = W2 := ⟨_, rfl⟩
    rw [hW2] at S2 b2
    have r1 := S2.c1.cell
    have r2 := S2.c2.cell
    have r3 : W2.cell? ⟨w.heap.size + 1 + 1, 0, none⟩ = some (.int .i64 0) := S2.c3.cell
    have HB2 := hidA b2
    clear b2 S2
    go_wp2_with fail
    exact bodyPost_ret (v := .tuple #[.int .i64 0, .int .i64 0, .int .i64 0, .iface 73 (.int .i64 c)]) (by simp [results, Tryd.results17, go_sem, r1, r2, r3]) rfl ⟨rfl, HB2.out⟩
end Go.Proofs.YtfgaalhaeadhmaaDoor
