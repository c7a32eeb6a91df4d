/- What the two functions inside Masters of package audit leave. -/
import Derived.Test.YtfgaalhaeadhmaaDoorAuSm
import Derived.Test.YtfgaalhaeadhmaaDoorAuRow
namespace Go.Proofs.YtfgaalhaeadhmaaDoor
open Go.RowKit
set_option linter.unusedVariables false

theorem OneAt.grown {W w' : World} {b : Nat} {v : Value} {t : TypeId} {o : Obj} {row : Option Nat} (h : OneAt W b v t) (hg : (W.alloc o).grownBy w' row) (hn : row ≠ some b) : OneAt w' b v t := by
  have h1 := h.alloc o
  unfold OneAt
  rw [hg.block b h1.lt (fun e => hn e.symm)]; exact h1
/-- The variables of Masters, from block H on: the row, when the last event was, when the Master began, who it is, and the function that ends it. -/
structure MsS (H : Nat) (r : Value) (s : List Ms × Int × Int) (last : Int) (W : World) : Prop where
  o : OneAt W H r 57
  l : OneAt W (H + 1) (.int .i64 last) 3
  b : OneAt W (H + 2) (.int .i64 s.2.1) 3
  m : OneAt W (H + 3) (.int .i64 s.2.2) 3
  f : OneAt W (H + 4) (.func (.func 37) #[] #[.pointer (some ⟨H, 0, none⟩), .pointer (some ⟨H + 2, 0, none⟩), .pointer (some ⟨H + 3, 0, none⟩)]) 83
  own : OwnMs W (H + 5) r s.1
  sz : H + 5 ≤ W.heap.size
theorem MsS.below {H : Nat} {r : Value} {s : List Ms × Int × Int} {last : Int} {W W' : World} (h : MsS H r s last W) (hb : Below W.heap.size W W') : MsS H r s last W' :=
  ⟨h.o.below h.o.lt hb, h.l.below h.l.lt hb, h.b.below h.b.lt hb, h.m.below h.m.lt hb, h.f.below h.f.lt hb, OwnN.below h.own hb, Nat.le_trans h.sz hb.size⟩
theorem MsS.out {H : Nat} {r : Value} {s : List Ms × Int × Int} {last : Int} {W : World} (h : MsS H r s last W) (i : Nat) (hi : i < 5) : r.ownBlock ≠ some (H + i) := by
  intro e
  have := (OwnN.block h.own _ e).1
  omega
theorem MsS.sl {H : Nat} {r : Value} {s : List Ms × Int × Int} {last : Int} {W : World} (h : MsS H r s last W) (u : Int) : MsS H r s u (W.setCell ⟨H + 1, 0, none⟩ (.int .i64 u)) :=
  ⟨h.o.other (by omega) _ _, h.l.set _, h.b.other (by omega) _ _, h.m.other (by omega) _ _, h.f.other (by omega) _ _, OwnN.other h.own (h.out 1 (by omega)) _, by simpa using h.sz⟩
theorem MsS.sb {H : Nat} {r : Value} {s : List Ms × Int × Int} {last : Int} {W : World} (h : MsS H r s last W) (u : Int) : MsS H r (s.1, u, s.2.2) last (W.setCell ⟨H + 2, 0, none⟩ (.int .i64 u)) :=
  ⟨h.o.other (by omega) _ _, h.l.other (by omega) _ _, h.b.set _, h.m.other (by omega) _ _, h.f.other (by omega) _ _, OwnN.other h.own (h.out 2 (by omega)) _, by simpa using h.sz⟩
theorem MsS.sm {H : Nat} {r : Value} {s : List Ms × Int × Int} {last : Int} {W : World} (h : MsS H r s last W) (u : Int) : MsS H r (s.1, s.2.1, u) last (W.setCell ⟨H + 3, 0, none⟩ (.int .i64 u)) :=
  ⟨h.o.other (by omega) _ _, h.l.other (by omega) _ _, h.b.other (by omega) _ _, h.m.set _, h.f.other (by omega) _ _, OwnN.other h.own (h.out 3 (by omega)) _, by simpa using h.sz⟩
theorem MsS.drew {H : Nat} {r : Value} {s : List Ms × Int × Int} {last : Int} {W : World} (h : MsS H r s last W) : MsS H r s last W.drew := ⟨h.o, h.l, h.b, h.m, h.f, h.own, h.sz⟩
/-- Behind an append to the row: it lies in the variable again. -/
theorem MsS.app {H : Nat} {r r' : Value} {s : List Ms × Int × Int} {last : Int} {W w' : World} {x : Ms} {o : Obj} (h : MsS H r s last W) (h1 : OwnMs w' (H + 5) r' (s.1 ++ [x])) (hg : (W.alloc o).grownBy w' r.ownBlock) :
    MsS H r' (s.1 ++ [x], s.2.1, s.2.2) last (w'.setCell ⟨H, 0, none⟩ r') := by
  have hsz : H + 5 ≤ w'.heap.size := Nat.le_trans (by have := h.sz; simp; omega) hg.size
  refine ⟨(h.o.grown hg (h.out 0 (by omega))).set _, (h.l.grown hg (h.out 1 (by omega))).other (by omega) _ _, (h.b.grown hg (h.out 2 (by omega))).other (by omega) _ _, (h.m.grown hg (h.out 3 (by omega))).other (by omega) _ _, (h.f.grown hg (h.out 4 (by omega))).other (by omega) _ _, ?_, by simpa using hsz⟩
  refine OwnN.other h1 ?_ _
  intro e
  have := (OwnN.block h1 _ e).1
  omega
theorem enter18 : ∀ args W, (callFunc 37 args).run Tryd.prog W = .ok (.enter 37 args) W := fun _ _ => by kernel_rfl
theorem enter19 : ∀ args W, (callFunc 38 args).run Tryd.prog W = .ok (.enter 38 args) W := fun _ _ => by kernel_rfl
set_option maxRecDepth 100000 in
set_option maxHeartbeats 16000000 in
theorem fell_any (t : Int) (H : Nat) (r : Value) (s : List Ms × Int × Int) (last : Int) (w : World) (h : MsS H r s last w) (hl : s.1.length ≤ 1000) :
    Calls Tryd.prog 37 #[.int .i64 t, .pointer (some ⟨H, 0, none⟩), .pointer (some ⟨H + 2, 0, none⟩), .pointer (some ⟨H + 3, 0, none⟩)] w fun e w' => e = .returned (.tuple #[]) ∧ (∃ r', MsS H r' (s.1 ++ [{ b := s.2.1, e := t, n := s.2.2 }], s.2.1, -1) last w') ∧ Below H w w' := by
  have p0 := h.o.cell
  have p2 := h.b.cell
  have p3 := h.m.cell
  have HH := hidA h
  have hown := h.own
  have hsz := h.sz
  obtain ⟨L, b, m⟩ := s
  simp only at p2 p3 hl hown ⊢
  obtain ⟨ra, rc, rfl⟩ := OwnN.len hown
  have HNX := hidA (show ∀ r' w', OwnMs w' (H + 5) r' (L ++ [{ b := b, e := t, n := m }]) → (w.alloc (.cells #[.int .i64 b, .int .i64 t, .int .i64 m] 59)).grownBy w' (Value.slice ra L.length rc).ownBlock → MsS H r' (L ++ [{ b := b, e := t, n := m }], b, m) last (w'.setCell ⟨H, 0, none⟩ r') ∧ Below H w w' ∧ OneAt w' H (.slice ra L.length rc) 57 ∧ H + 5 ≤ w'.heap.size from
    fun r' w' h1 hg => ⟨HH.out.app h1 hg, (((Below.refl H w).alloc (by omega) _).grown hg (by simp; omega) (fun i hi => by have := (OwnN.block HH.out.own i hi).1; omega)), HH.out.o.grown hg (HH.out.out 0 (by omega)), Nat.le_trans (by simp; omega) hg.size⟩)
  clear h
  go_enter Tryd.func37, Tryd.ntmps37
  go_wp2_with (at_builtin; go_must (refine wpList_append_ms rfl (.tmp 5) (.tmp 10) rfl (H + 5) (.slice ra L.length rc) L rfl hown { b := b, e := t, n := m } rfl (by omega) hsz ?_; intro r' w' own' gr'; have hr2 : ∃ a n c, r' = Value.slice a n c := (OwnN.len own').elim fun a h => h.elim fun c h => ⟨_, _, _, h⟩; obtain ⟨ra', n', rc', rfl⟩ := hr2; have HX := hidA (HNX.out _ w' own' gr'); have x0 := HX.out.2.2.1.cell; have x1 := HX.out.2.2.1.free; have x2 := HX.out.1.m.cell; have x3 := HX.out.1.m.free; clear own' gr' p0 p2 p3 hown))
  go_end0
  exact ⟨rfl, ⟨_, HX.out.1.sm (-1)⟩, (HX.out.2.1.setCell (by simp) _).setCell (by simp) _⟩
set_option maxRecDepth 100000 in
set_option maxHeartbeats 16000000 in
theorem masters2_any (e : Ev) (H : Nat) (r : Value) (s : List Ms × Int × Int) (last : Int) (w : World) (h : MsS H r s last w) (hl : s.1.length ≤ 1000) :
    Calls Tryd.prog 38 (#[evV e] ++ #[.pointer (some ⟨H + 1, 0, none⟩), .pointer (some ⟨H + 2, 0, none⟩), .pointer (some ⟨H + 3, 0, none⟩), .pointer (some ⟨H + 4, 0, none⟩)]) w fun o w' => o = .returned (.tuple #[]) ∧ (∃ r', MsS H r' (prM s e) e.time w') ∧ Below H w w' := by
  show Calls Tryd.prog 38 #[evV e, .pointer (some ⟨H + 1, 0, none⟩), .pointer (some ⟨H + 2, 0, none⟩), .pointer (some ⟨H + 3, 0, none⟩), .pointer (some ⟨H + 4, 0, none⟩)] w _
  have hb0 : Below w.heap.size w (w.alloc (.cells #[.int .i64 e.time, .int .i64 e.node, .int .i64 e.what, .int .i64 e.key.kind, .int .i64 e.key.src, .int .i64 e.key.frm, .int .i64 e.key.dst, .int .i64 e.key.too] 54)) := (Below.refl _ _).alloc (Nat.le_refl _) _
  have hE := EvAt.new w e
  have hS := h.below hb0
  have hb := hb0.mono (show H ≤ w.heap.size by have := h.sz; omega)
  have hHw : H + 5 ≤ w.heap.size := h.sz
  unfold evV
  obtain ⟨t, n, k, ky⟩ := e
  obtain ⟨Z, hZ⟩ : ∃ Z, prM s { time := t, node := n, what := k, key := ky } = Z := ⟨_, rfl⟩
  have HZ := hidA hZ
  rw [hZ]
  clear hZ
  simp only at hE hb hS hb0 ⊢
  obtain ⟨W, hW⟩ : ∃ W, w.alloc (.cells #[.int .i64 t, .int .i64 n, .int .i64 k, .int .i64 ky.kind, .int .i64 ky.src, .int .i64 ky.frm, .int .i64 ky.dst, .int .i64 ky.too] 54) = W := ⟨_, rfl⟩
  rw [hW] at hE hb hS
  clear hb0 h
  have HE := hidA hE
  have HS := hidA hS
  have HB := hidA hb
  obtain ⟨c0, c1, c2, _⟩ := hE.cells
  simp only at c0 c1 c2
  have p1 := hS.l.cell
  have f1 := hS.l.free
  clear hE hS hb
  go_enter Tryd.func38, Tryd.ntmps38
  go_upto_region 2 with fail
  have S1 := HS.out.sl t
  have b1 := HB.out.setCell (p := ⟨H + 1, 0, none⟩) (by simp) (.int .i64 t)
  have E1 : EvAt (W.setCell ⟨H + 1, 0, none⟩ (.int .i64 t)) w.heap.size { time := t, node := n, what := k, key := ky } := by
    unfold EvAt; rw [Below.heap_setCell _ _ _ _ (show w.heap.size ≠ H + 1 by omega)]; exact HE.out
  obtain ⟨W1, hW1⟩ : ∃ W1, W.setCell ⟨H + 1, 0, none⟩ (.int .i64 t) = W1 := ⟨_, rfl⟩
  rw [hW1] at S1 b1 E1 ⊢
  clear hW1 c0 c1 c2 p1 f1 hW
  have HS1 := hidA S1
  have HB1 := hidA b1
  obtain ⟨c0, c1, c2, _⟩ := E1.cells
  simp only at c0 c1 c2
  clear S1 b1 E1
  by_cases h3 : k = 3
  · subst h3
    obtain rfl : Z = (s.1, t, n) := by rw [← HZ.out]; exact if_pos rfl
    have p2 := HS1.out.b.cell
    have f2 := HS1.out.b.free
    have p3 := HS1.out.m.cell
    have f3 := HS1.out.m.free
    have HX := hidA ((HS1.out.sb t).sm n)
    go_upto_region 4 with fail
    go_region
    all_goals
      go_wp2_with fail
      go_end0
      exact ⟨rfl, ⟨_, HX.out.drew⟩, ((HB1.out.setCell (by simp) _).setCell (by simp) _).drew⟩
  · by_cases h4 : k = 4
    · subst h4
      obtain rfl : Z = (s.1 ++ [{ b := s.2.1, e := t, n := s.2.2 }], s.2.1, -1) := by rw [← HZ.out]; unfold prM; rw [if_neg h3, if_pos rfl]
      have p4 := HS1.out.f.cell
      have hfe := fell_any t H r s t W1 HS1.out hl
      clear h3
      go_wp2_with ((with_reducible refine hfe.mono ?_); rintro e W2 ⟨rfl, s2, b2⟩)
      go_end0
      exact ⟨rfl, s2, HB1.out.trans b2⟩
    · obtain rfl : s = Z := by rw [← HZ.out]; unfold prM; rw [if_neg h3, if_neg h4]
      have h3b : (k == 3) = false := by simpa using h3
      have h4b : (k == 4) = false := by simpa using h4
      clear h3 h4
      go_wp2_with fail
      go_end0
      exact ⟨rfl, ⟨_, HS1.out⟩, HB1.out⟩
end Go.Proofs.YtfgaalhaeadhmaaDoor
