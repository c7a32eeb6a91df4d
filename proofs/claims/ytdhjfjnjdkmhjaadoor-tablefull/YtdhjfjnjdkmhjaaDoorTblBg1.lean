/- What Begin of package table returns, and what it leaves where the segment is refused. -/
import Derived.Test.YtdhjfjnjdkmhjaaDoorTblBg0
namespace Go.Proofs.YtdhjfjnjdkmhjaaDoor
open Go.RowKit Go.Maps
set_option linter.unusedVariables false

set_option maxRecDepth 100000 in
set_option maxHeartbeats 32000000 in
theorem bg_beg (b m : Nat) (t : Tb) (k : Ky) (s : Sg) (a : Option Addr) (l c : Nat) (rule now : Int) (w : World) (h : TbAt w b m t) (ok : TbOk t) (hk : KyOk k) (hb : Bytes w (.slice a l c) s.body) (hL : Lives w) (z : Int) (hz : timE t now = 0) (hbe : begE k s rule now = z) (h0 : ¬ z = 0) :
    Calls Tryd.prog 16 #[.pointer (some ⟨b, 0, none⟩), keyV k, segV s (.slice a l c), .int .i64 rule, .int .i64 now] w fun e w' => e = .returned (.tuple #[flV zeroF, .iface 59 (.int .i64 z)]) ∧ Below w.heap.size w w' := by
  rw [show flV zeroF = .agg #[.int .i64 0, .int .i64 0, .int .i64 0, .int .i64 0, .int .i64 0, .int .i64 0, .int .i64 0, .int .i64 0, .int .i64 0, .int .i64 0, .int .i64 0, .int .i64 0, .bool false, .bool false, .int .i64 0] from rfl]
  have h1 := BgS.start w b m t k s (.slice a l c) h
  obtain ⟨W1, hW1⟩ : ∃ W1, ((w.alloc (.cells #[.int .i64 k.kind, .int .i64 k.src, .int .i64 k.frm, .int .i64 k.dst, .int .i64 k.too] 23)).alloc (.cells #[.int .i64 s.frm, .int .i64 s.too, .int .i64 s.seq, .int .i64 s.ack, .int .i64 s.win, .int .i64 s.flg, .slice a l c] 26)).alloc (.cells #[.int .i64 0, .int .i64 0, .int .i64 0, .int .i64 0, .int .i64 0, .int .i64 0, .int .i64 0, .int .i64 0, .int .i64 0, .int .i64 0, .int .i64 0, .int .i64 0, .bool false, .bool false, .int .i64 0] 30) = W1 := ⟨_, rfl⟩
  rw [hW1] at h1
  have HT := hidE h
  have HL := hidE (fun W (hb : Below w.heap.size w W) => hL.below hb)
  have HB := hidE (fun W (hB : Below w.heap.size w W) => hb.below (Nat.le_refl _) hB)
  have hc := at_ok b m t now W1 h1.tb hz ok.ap (by have := ok.le; have := ok.mx; omega)
  have c2 := hidE (fun W hB => begin_any k s (.slice a l c) rule now W (HB.out W hB) (HL.out W hB))
  obtain ⟨f, hf⟩ : ∃ f, begF k s rule now = f := ⟨_, rfl⟩
  rw [hbe, errV_no h0] at c2
  clear hbe h0
  rw [hf] at c2
  unfold keyV segV flV at c2
  have HF := hidE hf
  clear hz hf
  clear hL hb
  unfold keyV segV
  go_enter Tryd.func16, Tryd.ntmps16
  go_upto_region 1 with fail
  try rw [hW1]
  clear hW1
  go_upto_region 4 with (go_at_call 36; go_must (refine hc.mono ?_; rintro e W2 ⟨m', v, ks, rfl, hm2, hlm, hown2, hpm2, b2⟩))
  have h2 := BgT.of (h1.step b2) hm2 (Nat.le_trans h1.bel.size hlm)
  obtain ⟨W3, hW3⟩ : ∃ W3, W2.alloc (.cells #[.int .i64 t.max, .int .i64 now, .map (some m')] 75) = W3 := ⟨_, rfl⟩
  obtain ⟨X, hX⟩ : ∃ X, W2.heap.size = X := ⟨_, rfl⟩
  rw [hW3] at h2 ⊢
  rw [hX] at h2 ⊢
  clear hW3 hX h1 b2 hc hm2 hlm hown2 hpm2
  obtain ⟨t', ht'⟩ : ∃ t', ({ max := t.max, now := now, fs := leftL now t.fs } : Tb) = t' := ⟨_, rfl⟩
  rw [ht'] at h2
  have HT' := hidE ht'
  clear ht'
  obtain ⟨k0, k1, k2, k3, k4⟩ := h2.st.ky.cells
  obtain ⟨s0, s1, s2, s3, s4, s5, s6⟩ := h2.st.sg.cells
  have hc := c2.out W3 h2.st.bel
  go_upto_region 6 with (go_at_call 7; go_must (refine hc.mono ?_; rintro e W4 ⟨rfl, b4⟩))
  have h4 := (h2.step b4).alloc (.cells #[.int .i64 f.key.kind, .int .i64 f.key.src, .int .i64 f.key.frm, .int .i64 f.key.dst, .int .i64 f.key.too, .int .i64 f.st, .int .i64 f.unt, .int .i64 f.stp, .int .i64 f.h0, .int .i64 f.h1, .int .i64 f.w0, .int .i64 f.w1, .bool f.d0, .bool f.d1, .int .i64 f.num] 30)
  have p4 := FlAt.new W4 f
  obtain ⟨W5, hW5⟩ : ∃ X9, W4.alloc (.cells #[.int .i64 f.key.kind, .int .i64 f.key.src, .int .i64 f.key.frm, .int .i64 f.key.dst, .int .i64 f.key.too, .int .i64 f.st, .int .i64 f.unt, .int .i64 f.stp, .int .i64 f.h0, .int .i64 f.h1, .int .i64 f.w0, .int .i64 f.w1, .bool f.d0, .bool f.d1, .int .i64 f.num] 30) = X9 := ⟨_, rfl⟩
  obtain ⟨Y, hY⟩ : ∃ X9, W4.heap.size = X9 := ⟨_, rfl⟩
  rw [hW5] at h4 p4 ⊢
  rw [hY] at p4 ⊢
  clear hW5 hY hc b4 h2 k0 k1 k2 k3 k4 s0 s1 s2 s3 s4 s5 s6
  obtain ⟨y0, y1, y2, y3, y4, y5, y6, y7, y8, y9, y10, y11, y12, y13, y14⟩ := h4.st.rs.frees
  obtain ⟨d0, d1, d2, d3, d4, d5, d6, d7, d8, d9, d10, d11, d12, d13, d14⟩ := zero_cells h4.st.rs
  obtain ⟨W9, hW9, g9, b9⟩ := h4.st.wipe
  have HW9 := hidE hW9
  have HG9 := hidE g9
  have HB9 := hidE b9
  clear hW9 g9 b9
  go_wp2_with fail
  rw [HW9.out]
  clear y0 y1 y2 y3 y4 y5 y6 y7 y8 y9 y10 y11 y12 y13 y14 d0 d1 d2 d3 d4 d5 d6 d7 d8 d9 d10 d11 d12 d13 d14
  obtain ⟨c0, c1, c2, c3, c4, c5, c6, c7, c8, c9, c10, c11, c12, c13, c14⟩ := zero_cells HG9.out
  exact bodyPost_ret (v := .tuple #[.agg #[.int .i64 0, .int .i64 0, .int .i64 0, .int .i64 0, .int .i64 0, .int .i64 0, .int .i64 0, .int .i64 0, .int .i64 0, .int .i64 0, .int .i64 0, .int .i64 0, .bool false, .bool false, .int .i64 0], .iface 59 (.int .i64 z)]) (by simp [results, Tryd.results16, go_sem, c0, c1, c2, c3, c4, c5, c6, c7, c8, c9, c10, c11, c12, c13, c14]) rfl ⟨rfl, HB9.out⟩
end Go.Proofs.YtdhjfjnjdkmhjaaDoor
