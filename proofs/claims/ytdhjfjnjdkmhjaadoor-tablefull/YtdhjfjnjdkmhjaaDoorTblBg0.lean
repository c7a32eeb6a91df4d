/- What Begin of package table returns, and what it leaves: the states that its walk goes through, and where the time is refused. -/
import Derived.Test.YtdhjfjnjdkmhjaaDoorTblAtW
import Derived.Test.YtdhjfjnjdkmhjaaDoorTblPut
import Derived.Test.YtdhjfjnjdkmhjaaDoorMgT
namespace Go.Proofs.YtdhjfjnjdkmhjaaDoor
open Go.RowKit Go.Maps
set_option linter.unusedVariables false


/-- A key, a segment and the answer in boxes, beside a table. -/
structure BgS (w : World) (b m : Nat) (t : Tb) (k : Ky) (s : Sg) (bv : Value) (W : World) : Prop where
  ky : KyAt W w.heap.size k
  sg : SgAt W (w.heap.size + 1) s bv
  rs : FlAt W (w.heap.size + 2) zeroF
  tb : TbAt W b m t
  lb : b < w.heap.size
  bel : Below w.heap.size w W
theorem BgS.start (w : World) (b m : Nat) (t : Tb) (k : Ky) (s : Sg) (bv : Value) (h : TbAt w b m t) : BgS w b m t k s bv (((w.alloc (.cells #[.int .i64 k.kind, .int .i64 k.src, .int .i64 k.frm, .int .i64 k.dst, .int .i64 k.too] 23)).alloc (.cells #[.int .i64 s.frm, .int .i64 s.too, .int .i64 s.seq, .int .i64 s.ack, .int .i64 s.win, .int .i64 s.flg, bv] 26)).alloc (.cells #[.int .i64 0, .int .i64 0, .int .i64 0, .int .i64 0, .int .i64 0, .int .i64 0, .int .i64 0, .int .i64 0, .int .i64 0, .int .i64 0, .int .i64 0, .int .i64 0, .bool false, .bool false, .int .i64 0] 30)) := by
  have h1 := Ks2.start w k s bv
  have s1 : ((w.alloc (.cells #[.int .i64 k.kind, .int .i64 k.src, .int .i64 k.frm, .int .i64 k.dst, .int .i64 k.too] 23)).alloc (.cells #[.int .i64 s.frm, .int .i64 s.too, .int .i64 s.seq, .int .i64 s.ack, .int .i64 s.win, .int .i64 s.flg, bv] 26)).heap.size = w.heap.size + 2 := by simp
  have t1 := (h.alloc (.cells #[.int .i64 k.kind, .int .i64 k.src, .int .i64 k.frm, .int .i64 k.dst, .int .i64 k.too] 23)).alloc (.cells #[.int .i64 s.frm, .int .i64 s.too, .int .i64 s.seq, .int .i64 s.ack, .int .i64 s.win, .int .i64 s.flg, bv] 26)
  generalize (w.alloc (.cells #[.int .i64 k.kind, .int .i64 k.src, .int .i64 k.frm, .int .i64 k.dst, .int .i64 k.too] 23)).alloc (.cells #[.int .i64 s.frm, .int .i64 s.too, .int .i64 s.seq, .int .i64 s.ack, .int .i64 s.win, .int .i64 s.flg, bv] 26) = w1 at h1 s1 t1 ⊢
  have h3 := FlAt.zero w1
  rw [s1] at h3
  exact ⟨h1.ky.alloc _, h1.sg.alloc _, h3, t1.alloc _, h.lt, h1.bel.alloc h1.bel.size _⟩
theorem BgS.step {w W W' : World} {b m : Nat} {t : Tb} {k : Ky} {s : Sg} {bv : Value} (h : BgS w b m t k s bv W) (hb : Below W.heap.size W W') : BgS w b m t k s bv W' :=
  ⟨h.ky.below h.ky.lt hb, h.sg.below h.sg.lt hb, h.rs.below h.rs.lt hb, h.tb.below hb, h.lb, h.bel.trans (hb.mono h.bel.size)⟩
theorem BgS.alloc {w W : World} {b m : Nat} {t : Tb} {k : Ky} {s : Sg} {bv : Value} (h : BgS w b m t k s bv W) (o : Obj) : BgS w b m t k s bv (W.alloc o) := h.step ((Below.refl _ _).alloc (Nat.le_refl _) _)
/-- The answer is nothing. -/
theorem BgS.wipe {w W : World} {b m : Nat} {t : Tb} {k : Ky} {s : Sg} {bv : Value} (h : BgS w b m t k s bv W) :
    ∃ W', (((((((((((((((W.setCell ⟨w.heap.size + 2, 0, none⟩ (.int .i64 0)).setCell ⟨w.heap.size + 2, 1, none⟩ (.int .i64 0)).setCell ⟨w.heap.size + 2, 2, none⟩ (.int .i64 0)).setCell ⟨w.heap.size + 2, 3, none⟩ (.int .i64 0)).setCell ⟨w.heap.size + 2, 4, none⟩ (.int .i64 0)).setCell ⟨w.heap.size + 2, 5, none⟩ (.int .i64 0)).setCell ⟨w.heap.size + 2, 6, none⟩ (.int .i64 0)).setCell ⟨w.heap.size + 2, 7, none⟩ (.int .i64 0)).setCell ⟨w.heap.size + 2, 8, none⟩ (.int .i64 0)).setCell ⟨w.heap.size + 2, 9, none⟩ (.int .i64 0)).setCell ⟨w.heap.size + 2, 10, none⟩ (.int .i64 0)).setCell ⟨w.heap.size + 2, 11, none⟩ (.int .i64 0)).setCell ⟨w.heap.size + 2, 12, none⟩ (.bool false)).setCell ⟨w.heap.size + 2, 13, none⟩ (.bool false)).setCell ⟨w.heap.size + 2, 14, none⟩ (.int .i64 0)) = W' ∧ FlAt W' (w.heap.size + 2) zeroF ∧ Below w.heap.size w W' := by
  obtain ⟨W', e, h1, h2⟩ := h.rs.store zeroF
  exact ⟨W', e, h1, h2.below (by omega) h.bel⟩
/-- .. and the table as it is then, in a box. -/
structure BgT (w : World) (b m : Nat) (t : Tb) (k : Ky) (s : Sg) (bv : Value) (X m' : Nat) (t' : Tb) (W : World) : Prop where
  st : BgS w b m t k s bv W
  tb : TbAt W X m' t'
  lx : w.heap.size + 2 < X
  lm : w.heap.size ≤ m'
theorem BgT.step {w W W' : World} {b m X m' : Nat} {t t' : Tb} {k : Ky} {s : Sg} {bv : Value} (h : BgT w b m t k s bv X m' t' W) (hb : Below W.heap.size W W') : BgT w b m t k s bv X m' t' W' := ⟨h.st.step hb, h.tb.below hb, h.lx, h.lm⟩
theorem BgT.alloc {w W : World} {b m X m' : Nat} {t t' : Tb} {k : Ky} {s : Sg} {bv : Value} (h : BgT w b m t k s bv X m' t' W) (o : Obj) : BgT w b m t k s bv X m' t' (W.alloc o) := h.step ((Below.refl _ _).alloc (Nat.le_refl _) _)
theorem BgT.of {w W : World} {b m m' : Nat} {t : Tb} {k : Ky} {s : Sg} {bv : Value} {now : Int} (h : BgS w b m t k s bv W) (hm : MapIs Tryd.prog 23 W m' (flsL (leftL now t.fs))) (hl : w.heap.size ≤ m') :
    BgT w b m t k s bv W.heap.size m' { max := t.max, now := now, fs := leftL now t.fs } (W.alloc (.cells #[.int .i64 t.max, .int .i64 now, .map (some m')] 75)) :=
  ⟨h.alloc _, ⟨heap_alloc_new W _, hm.block (Below.heap_alloc _ _ _ hm.lt), fun f hf => h.tb.oks f (List.mem_filter.1 hf).1⟩, h.rs.lt, hl⟩
/-- What is said of a call that has an error: all is as it was. -/
theorem said_no {w w' : World} {b m : Nat} {t : Tb} (h : TbAt w b m t) (hb : Below w.heap.size w w') : (∃ m', TbAt w' b m' t) ∧ w.grownBy w' (some b) := ⟨⟨m, h.below hb⟩, (grown_of_below hb).but _⟩
set_option maxRecDepth 100000 in
set_option maxHeartbeats 32000000 in
theorem bg_time (b m : Nat) (t : Tb) (k : Ky) (s : Sg) (a : Option Addr) (l c : Nat) (rule now : Int) (w : World) (h : TbAt w b m t) (ok : TbOk t) (hk : KyOk k) (hb : Bytes w (.slice a l c) s.body) (hL : Lives w) (z : Int) (hz : timE t now = z) (h0 : ¬ z = 0) :
    Calls Tryd.prog 16 #[.pointer (some ⟨b, 0, none⟩), keyV k, segV s (.slice a l c), .int .i64 rule, .int .i64 now] w fun e w' => e = .returned (.tuple #[flV zeroF, .iface 59 (.int .i64 z)]) ∧ Below w.heap.size w w' := by
  rw [show flV zeroF = .agg #[.int .i64 0, .int .i64 0, .int .i64 0, .int .i64 0, .int .i64 0, .int .i64 0, .int .i64 0, .int .i64 0, .int .i64 0, .int .i64 0, .int .i64 0, .int .i64 0, .bool false, .bool false, .int .i64 0] from rfl]
  have h1 := BgS.start w b m t k s (.slice a l c) h
  obtain ⟨W1, hW1⟩ : ∃ W1, ((w.alloc (.cells #[.int .i64 k.kind, .int .i64 k.src, .int .i64 k.frm, .int .i64 k.dst, .int .i64 k.too] 23)).alloc (.cells #[.int .i64 s.frm, .int .i64 s.too, .int .i64 s.seq, .int .i64 s.ack, .int .i64 s.win, .int .i64 s.flg, .slice a l c] 26)).alloc (.cells #[.int .i64 0, .int .i64 0, .int .i64 0, .int .i64 0, .int .i64 0, .int .i64 0, .int .i64 0, .int .i64 0, .int .i64 0, .int .i64 0, .int .i64 0, .int .i64 0, .bool false, .bool false, .int .i64 0] 30) = W1 := ⟨_, rfl⟩
  rw [hW1] at h1
  have HT := hidE h
  have HL := hidE (fun W (hb : Below w.heap.size w W) => hL.below hb)
  have HB := hidE (fun W (hB : Below w.heap.size w W) => hb.below (Nat.le_refl _) hB)
  have hc := at_bad b m t now z W1 h1.tb hz h0
  clear hz h0
  clear hL hb
  unfold keyV segV
  go_enter Tryd.func16, Tryd.ntmps16
  go_upto_region 1 with fail
  try rw [hW1]
  clear hW1
  go_upto_region 3 with (go_at_call 36; go_must (refine hc.mono ?_; rintro e W2 ⟨rfl, b2⟩))
  have h2 := (h1.step b2).alloc (.cells #[.int .i64 0, .int .i64 0, .map none] 75)
  obtain ⟨W3, hW3⟩ : ∃ W3, W2.alloc (.cells #[.int .i64 0, .int .i64 0, .map none] 75) = W3 := ⟨_, rfl⟩
  rw [hW3] at h2 ⊢
  clear hW3 h1 b2 hc
  obtain ⟨y0, y1, y2, y3, y4, y5, y6, y7, y8, y9, y10, y11, y12, y13, y14⟩ := h2.rs.frees
  obtain ⟨d0, d1, d2, d3, d4, d5, d6, d7, d8, d9, d10, d11, d12, d13, d14⟩ := zero_cells h2.rs
  obtain ⟨W9, hW9, g9, b9⟩ := h2.wipe
  have HW9 := hidE hW9
  have HG9 := hidE g9
  have HB9 := hidE b9
  clear hW9 g9 b9
  go_wp2_with fail
  rw [HW9.out]
  clear y0 y1 y2 y3 y4 y5 y6 y7 y8 y9 y10 y11 y12 y13 y14 d0 d1 d2 d3 d4 d5 d6 d7 d8 d9 d10 d11 d12 d13 d14
  obtain ⟨c0, c1, c2, c3, c4, c5, c6, c7, c8, c9, c10, c11, c12, c13, c14⟩ := zero_cells HG9.out
  exact bodyPost_ret (v := .tuple #[.agg #[.int .i64 0, .int .i64 0, .int .i64 0, .int .i64 0, .int .i64 0, .int .i64 0, .int .i64 0, .int .i64 0, .int .i64 0, .int .i64 0, .int .i64 0, .int .i64 0, .bool false, .bool false, .int .i64 0], .iface 59 (.int .i64 z)]) (by simp [results, Tryd.results16, go_sem, c0, c1, c2, c3, c4, c5, c6, c7, c8, c9, c10, c11, c12, c13, c14]) rfl ⟨rfl, HB9.out⟩
end Go.Proofs.YtdhjfjnjdkmhjaaDoor
