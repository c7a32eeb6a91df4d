/- What has and put of package table return, and what they leave. -/
import Derived.Test.YtdhjfjnjdkmhjaaDoorTblAt
import Derived.Test.YtdhjfjnjdkmhjaaDoorMgM
import Derived.Test.YtdhjfjnjdkmhjaaDoorTrkChk
import Derived.Deep.RegionHeld3
import Derived.Deep.DeepMust
namespace Go.Proofs.YtdhjfjnjdkmhjaaDoor
open Go.RowKit Go.Maps
set_option linter.unusedVariables false

/-- A table's map, and a key in a box. -/
structure HsS (w : World) (b m : Nat) (k : Ky) (fs : List Fl) (X : World) : Prop where
  tab : X.cell? ⟨b, 2, none⟩ = some (.map (some m))
  ky : KyAt X w.heap.size k
  map : MapIs Tryd.prog 23 X m (flsL fs)
  lb : b < w.heap.size
  lm : m < w.heap.size
  bel : Below w.heap.size w X
theorem HsS.step {w X X' : World} {b m : Nat} {k : Ky} {fs : List Fl} (h : HsS w b m k fs X) (hb : Below X.heap.size X X') : HsS w b m k fs X' :=
  ⟨(hb.cell (p := ⟨b, 2, none⟩) (by have := h.lb; have := h.bel.size; show b < _; omega)).trans h.tab, h.ky.below h.ky.lt hb, h.map.block (hb.block _ h.map.lt), h.lb, h.lm, h.bel.trans (hb.mono h.bel.size)⟩
theorem HsS.drew {w X : World} {b m : Nat} {k : Ky} {fs : List Fl} (h : HsS w b m k fs X) : HsS w b m k fs X.drew := ⟨h.tab, h.ky, h.map.block rfl, h.lb, h.lm, h.bel.drew⟩
theorem HsS.alloc {w X : World} {b m : Nat} {k : Ky} {fs : List Fl} (h : HsS w b m k fs X) (o : Obj) : HsS w b m k fs (X.alloc o) := h.step ((Below.refl _ _).alloc (Nat.le_refl _) _)
theorem hs_of {w : World} {b m : Nat} {k : Ky} {fs : List Fl} {q u : Value} (hl : ∀ X, MapIs Tryd.prog 23 X m (flsL fs) → (Instr.lookup 71 (.map (some m)) q true).run Tryd.prog X = .ok u X) {X : World} (h : HsS w b m k fs X) :
    (X.cell? ⟨b, 2, none⟩ = some (.map (some m)) ∧ X.cell? ⟨w.heap.size, 0, none⟩ = some (.int .i64 k.kind) ∧ X.cell? ⟨w.heap.size, 1, none⟩ = some (.int .i64 k.src) ∧ X.cell? ⟨w.heap.size, 2, none⟩ = some (.int .i64 k.frm) ∧ X.cell? ⟨w.heap.size, 3, none⟩ = some (.int .i64 k.dst) ∧ X.cell? ⟨w.heap.size, 4, none⟩ = some (.int .i64 k.too) ∧ (Instr.lookup 71 (.map (some m)) q true).run Tryd.prog X = .ok u X) ∧ HsS w b m k fs X :=
  ⟨⟨h.tab, h.ky.cells.1, h.ky.cells.2.1, h.ky.cells.2.2.1, h.ky.cells.2.2.2.1, h.ky.cells.2.2.2.2, hl X h.map⟩, h⟩
theorem hs_late {w W W3 : World} {b m : Nat} {k : Ky} {fs : List Fl} (h : HsS w b m k fs W) (b3 : Below W.drew.heap.size W.drew W3) : HsS w b m k fs W3 := h.drew.step b3
theorem hs_early {w W W3 : World} {b m : Nat} {k : Ky} {fs : List Fl} (h : HsS w b m k fs W) (b3 : Below (W.alloc (.cells #[.int .i64 0, .int .i64 0, .int .i64 0, .int .i64 0, .int .i64 0, .int .i64 0, .int .i64 0, .int .i64 0, .int .i64 0, .int .i64 0, .int .i64 0, .int .i64 0, .bool false, .bool false, .int .i64 0] 30)).drew.heap.size (W.alloc (.cells #[.int .i64 0, .int .i64 0, .int .i64 0, .int .i64 0, .int .i64 0, .int .i64 0, .int .i64 0, .int .i64 0, .int .i64 0, .int .i64 0, .int .i64 0, .int .i64 0, .bool false, .bool false, .int .i64 0] 30)).drew W3) : HsS w b m k fs W3 ∧ FlAt W3 W.heap.size zeroF := by
  have z := FlAt.zero W
  exact ⟨(h.alloc _).drew.step b3, FlAt.below z.drew z.drew.lt b3⟩
theorem HsS.put {w W : World} {b m B : Nat} {k : Ky} {fs : List Fl} (g : Fl) (h : HsS w b m k fs W) (hz : FlAt W B zeroF) (hB : w.heap.size < B) : HsS w b m k fs (((((((((((((((W.setCell ⟨B, 0, none⟩ (.int .i64 g.key.kind)).setCell ⟨B, 1, none⟩ (.int .i64 g.key.src)).setCell ⟨B, 2, none⟩ (.int .i64 g.key.frm)).setCell ⟨B, 3, none⟩ (.int .i64 g.key.dst)).setCell ⟨B, 4, none⟩ (.int .i64 g.key.too)).setCell ⟨B, 5, none⟩ (.int .i64 g.st)).setCell ⟨B, 6, none⟩ (.int .i64 g.unt)).setCell ⟨B, 7, none⟩ (.int .i64 g.stp)).setCell ⟨B, 8, none⟩ (.int .i64 g.h0)).setCell ⟨B, 9, none⟩ (.int .i64 g.h1)).setCell ⟨B, 10, none⟩ (.int .i64 g.w0)).setCell ⟨B, 11, none⟩ (.int .i64 g.w1)).setCell ⟨B, 12, none⟩ (.bool g.d0)).setCell ⟨B, 13, none⟩ (.bool g.d1)).setCell ⟨B, 14, none⟩ (.int .i64 g.num)) := by
  obtain ⟨W', e, h1, h2⟩ := hz.store g
  rw [e]
  exact ⟨(h2.cell (p := ⟨b, 2, none⟩) (by have := h.lb; show b ≠ B; omega)).trans h.tab, by unfold KyAt; rw [h2.block _ (by omega)]; exact h.ky, h.map.block (h2.block _ (by have := h.lm; omega)), h.lb, h.lm, h2.below (by omega) h.bel⟩
set_option maxRecDepth 100000 in
set_option maxHeartbeats 16000000 in
theorem thas_any (b m : Nat) (t : Tb) (k : Ky) (w : World) (h : TbAt w b m t) (hk : KyOk k) :
    Calls Tryd.prog 37 #[.pointer (some ⟨b, 0, none⟩), keyV k] w fun e w' => e = .returned (.bool (hasK t.fs k)) ∧ Below w.heap.size w w' := by
  obtain ⟨g, _, _, hl⟩ := look_has h.oks hk m
  generalize hasK t.fs k = hb at hl ⊢
  have cF := hidE (fun W => first_any k W)
  obtain ⟨f, hf⟩ : ∃ f, firstK k = f := ⟨_, rfl⟩
  rw [hf] at hl cF
  obtain ⟨fs, hfs⟩ : ∃ fs, t.fs = fs := ⟨_, rfl⟩
  have hS : HsS w b m k fs (w.alloc (.cells #[.int .i64 k.kind, .int .i64 k.src, .int .i64 k.frm, .int .i64 k.dst, .int .i64 k.too] 23)) := by
    have hm := h.map
    rw [hfs] at hm
    exact ⟨(tab_cells (h.alloc _).tab).2.2, KyAt.new w k, hm.block (Below.heap_alloc _ _ _ hm.lt), h.lt, hm.lt, (Below.refl _ _).alloc (Nat.le_refl _) _⟩
  rw [hfs] at hl
  unfold keyV flV at *
  have HLK := hidE hl
  clear hl h hk hf hfs
  go_enter Tryd.func37, Tryd.ntmps37
  go_upto_region 1 with fail
  obtain ⟨W1, hW1⟩ : ∃ W1, w.alloc (.cells #[.int .i64 k.kind, .int .i64 k.src, .int .i64 k.frm, .int .i64 k.dst, .int .i64 k.too] 23) = W1 := ⟨_, rfl⟩
  rw [hW1] at hS ⊢
  clear hW1
  have hc0 := cF.out W1.drew
  have hc1 := cF.out (W1.alloc (.cells #[.int .i64 0, .int .i64 0, .int .i64 0, .int .i64 0, .int .i64 0, .int .i64 0, .int .i64 0, .int .i64 0, .int .i64 0, .int .i64 0, .int .i64 0, .int .i64 0, .bool false, .bool false, .int .i64 0] 30)).drew
  have hT := hs_of HLK.out hS
  have nn1 := World.new_ne W1 _ hS.tab
  have nn2 := World.new_ne W1 _ hS.ky.cells.1
  go_region_held3 (fun X => (X.cell? ⟨b, 2, none⟩ = some (.map (some m)) ∧ X.cell? ⟨w.heap.size, 0, none⟩ = some (.int .i64 k.kind) ∧ X.cell? ⟨w.heap.size, 1, none⟩ = some (.int .i64 k.src) ∧ X.cell? ⟨w.heap.size, 2, none⟩ = some (.int .i64 k.frm) ∧ X.cell? ⟨w.heap.size, 3, none⟩ = some (.int .i64 k.dst) ∧ X.cell? ⟨w.heap.size, 4, none⟩ = some (.int .i64 k.too) ∧ (Instr.lookup 71 (.map (some m)) (.agg #[.int .i64 f.kind, .int .i64 f.src, .int .i64 f.frm, .int .i64 f.dst, .int .i64 f.too]) true).run Tryd.prog X = .ok (.tuple #[.agg #[.int .i64 g.key.kind, .int .i64 g.key.src, .int .i64 g.key.frm, .int .i64 g.key.dst, .int .i64 g.key.too, .int .i64 g.st, .int .i64 g.unt, .int .i64 g.stp, .int .i64 g.h0, .int .i64 g.h1, .int .i64 g.w0, .int .i64 g.w1, .bool g.d0, .bool g.d1, .int .i64 g.num], .bool hb]) X) ∧ HsS w b m k fs X) (with_reducible first | assumption | exact hs_of HLK.out hS | exact hs_of HLK.out (HsS.drew (And.right (by assumption))) | exact hs_of HLK.out (HsS.alloc (And.right (by assumption)) _) | exact hs_of HLK.out (HsS.drew (HsS.alloc (And.right (by assumption)) _)) | exact hs_of HLK.out (HsS.drew hS) | exact hs_of HLK.out (HsS.drew (HsS.alloc hS _)) | exact hs_of HLK.out (HsS.alloc hS _)) (first
    | (go_at_call 51; with_reducible refine hc0.mono ?_; rintro e W3 ⟨rfl, b3⟩; have h3 := hs_late hS b3; have H3 := hidE h3; have hT3 := hs_of HLK.out h3; have n31 := World.new_ne W3 _ h3.tab; have n32 := World.new_ne W3 _ h3.ky.cells.1)
    | (go_at_call 51; with_reducible refine hc1.mono ?_; rintro e W3 ⟨rfl, b3⟩; obtain ⟨h3, hz3⟩ := hs_early hS b3; have H3 := hidE h3; have HZ3 := hidE hz3; have hT3 := hs_of HLK.out h3; have hT4 := hs_of HLK.out (HsS.put g h3 hz3 hS.ky.lt); obtain ⟨y0, y1, y2, y3, y4, y5, y6, y7, y8, y9, y10, y11, y12, y13, y14⟩ := hz3.frees; obtain ⟨d0, d1, d2, d3, d4, d5, d6, d7, d8, d9, d10, d11, d12, d13, d14⟩ := zero_cells hz3; clear hz3))
  · clear hS hT hT3 hc0 hc1
    go_wp2_with fail
    go_ret
    exact ⟨rfl, H3.out.bel.alloc H3.out.bel.size _⟩
  · clear hS hT hT3 hc0 hc1
    go_wp2_with fail
    go_ret
    exact ⟨rfl, H3.out.bel.alloc H3.out.bel.size _⟩
  · obtain ⟨W4, hW4, _, o4⟩ := HZ3.out.store g
    have HB := hidE (o4.below hS.bel.size H3.out.bel)
    rw [← hW4] at HB
    clear hS hT hT3 hT4 hc0 hc1 hW4 o4 y0 y1 y2 y3 y4 y5 y6 y7 y8 y9 y10 y11 y12 y13 y14 d0 d1 d2 d3 d4 d5 d6 d7 d8 d9 d10 d11 d12 d13 d14
    go_wp2_with fail
    go_ret
    exact ⟨rfl, HB.out⟩
end Go.Proofs.YtdhjfjnjdkmhjaaDoor
