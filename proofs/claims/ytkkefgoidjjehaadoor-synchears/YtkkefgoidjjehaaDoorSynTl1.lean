/- What Tell of package sync's Teller returns, where the law SyncHears tells its next note. -/
import Derived.Test.YtkkefgoidjjehaaDoorSynTl0
import Derived.BigRegion
namespace Go.Proofs.YtkkefgoidjjehaaDoor
open Go.RowKit Go.Maps
set_option linter.unusedVariables false

set_option maxHeartbeats 2000000 in
theorem tmv_ok (b : Nat) (t now : Int) (w : World) (h1 : 0 ≤ now) (h2 : now ≤ 1000000) (h3 : t ≤ now) (hc : w.cell? ⟨b, 0, none⟩ = some (.int .i64 t)) (hf : w.frozen? ⟨b, 0, none⟩ = false) :
    Calls Tryd.prog 25 #[.pointer (some ⟨b, 0, none⟩), .int .i64 now] w fun e w' => e = .returned .nilIface ∧ w' = w.setCell ⟨b, 0, none⟩ (.int .i64 now) := by
  have i1 : ¬ now < 0 := by omega
  have i2 : ¬ 1000000 < now := by omega
  have i3 : ¬ now < t := by omega
  clear h1 h2 h3
  go_enter Tryd.func25, Tryd.ntmps25
  go_wp2_with fail
  go_ret
  exact ⟨rfl, rfl⟩
theorem nt_seq {w : World} {b : Nat} {p : Nt} (h : NtAt w b p) (z : Int) : NtAt (w.setCell ⟨b, 1, none⟩ (.int .i64 z)) b { p with seq := z } := heap_setCell_same _ b 1 _ _ _ h
theorem tl_set {w : World} {b : Nat} {x y z u : Value} {T : TypeId} (k : w.heap[b]? = some (.cells #[x, y, z, u] T (0, 0))) (x' z' : Value) : ((w.setCell ⟨b, 0, none⟩ x').setCell ⟨b, 2, none⟩ z').heap[b]? = some (.cells #[x', y, z', u] T (0, 0)) := heap_setCell_same _ b 2 _ _ z' (heap_setCell_same _ b 0 _ _ x' k)
/-- The note as it is handed in: without its number. -/
def nB (i : Nat) : Nt := { what := 2, seq := 0, fl := bareF (keyJ i) }
theorem nB_seq (n : Nat) : { nB n with seq := ((n + 1 : Nat) : Int) } = nK (n + 1) := by
  unfold nB nK
  rw [show n + 1 - 1 = n by omega]
theorem rng_succ {h n : Nat} (hh : h ≤ n) : rngL h (n + 1) = rngL h n ++ [n + 1] := by
  unfold rngL
  rw [show n + 1 - h = (n - h) + 1 by omega, List.range_succ, List.map_append]
  simp
  omega
set_option maxRecDepth 100000 in
set_option maxHeartbeats 16000000 in
theorem tlTell_any (b m now h n : Nat) (ds : Nat → Nat) (w : World) (k : TlAt w b m now h n ds) (hh : h ≤ n) (hn : n ≤ 100) (hw : now ≤ 1000) (hd : ds (n + 1) = 0) (hL : Lives w) :
    Calls Tryd.prog 13 #[.pointer (some ⟨b, 0, none⟩), ntV (nB n), .int .i64 (now : Int)] w fun e w' => e = .returned (.tuple #[.int .i64 ((n : Int) + 1), .nilIface]) ∧ TlAt w' b m now h (n + 1) ds ∧ Turn (Bth b m) w w' := by
  have HB := hidT (nB_seq n)
  obtain ⟨N, hN⟩ : ∃ N, nB n = N := ⟨_, rfl⟩
  rw [hN] at HB
  rw [hN]
  obtain ⟨M, hM⟩ : ∃ M, nK (n + 1) = M := ⟨_, rfl⟩
  rw [hM] at HB
  have HM := hidT hM
  have hE : ntE M = 0 := by rw [← hM]; exact nK_ok (by omega)
  have hsq : M.seq = (n : Int) + 1 := by rw [← hM]; show ((n + 1 : Nat) : Int) = _; omega
  have n1 := NtAt.new w N
  have b1 : Below w.heap.size w (w.alloc (.cells #[.int .i64 N.what, .int .i64 N.seq, .int .i64 N.fl.key.kind, .int .i64 N.fl.key.src, .int .i64 N.fl.key.frm, .int .i64 N.fl.key.dst, .int .i64 N.fl.key.too, .int .i64 N.fl.st, .int .i64 N.fl.unt, .int .i64 N.fl.stp, .int .i64 N.fl.h0, .int .i64 N.fl.h1, .int .i64 N.fl.w0, .int .i64 N.fl.w1, .bool N.fl.d0, .bool N.fl.d1, .int .i64 N.fl.num] 29)) := (Below.refl _ _).alloc (Nat.le_refl _) _
  have HK := hidT k
  have HLV := hidT hL
  have hbl := k.lt
  obtain ⟨⟨c0, c1, c2, c3⟩, f0, f2⟩ := tl_cells (k.below b1).1
  have hsz1 : (w.alloc (.cells #[.int .i64 N.what, .int .i64 N.seq, .int .i64 N.fl.key.kind, .int .i64 N.fl.key.src, .int .i64 N.fl.key.frm, .int .i64 N.fl.key.dst, .int .i64 N.fl.key.too, .int .i64 N.fl.st, .int .i64 N.fl.unt, .int .i64 N.fl.stp, .int .i64 N.fl.h0, .int .i64 N.fl.h1, .int .i64 N.fl.w0, .int .i64 N.fl.w1, .bool N.fl.d0, .bool N.fl.d1, .int .i64 N.fl.num] 29)).heap.size = w.heap.size + 1 := by simp
  obtain ⟨W1, hW1⟩ : ∃ W1, w.alloc (.cells #[.int .i64 N.what, .int .i64 N.seq, .int .i64 N.fl.key.kind, .int .i64 N.fl.key.src, .int .i64 N.fl.key.frm, .int .i64 N.fl.key.dst, .int .i64 N.fl.key.too, .int .i64 N.fl.st, .int .i64 N.fl.unt, .int .i64 N.fl.stp, .int .i64 N.fl.h0, .int .i64 N.fl.h1, .int .i64 N.fl.w0, .int .i64 N.fl.w1, .bool N.fl.d0, .bool N.fl.d1, .int .i64 N.fl.num] 29) = W1 := ⟨_, rfl⟩
  rw [hW1] at n1 b1 c0 c1 c2 c3 f0 f2 hsz1
  have hMV : Hid (∀ (W : World), W.cell? ⟨w.heap.size + 1, 0, none⟩ = some (.int .i64 (now : Int)) → W.frozen? ⟨w.heap.size + 1, 0, none⟩ = false → Calls Tryd.prog 25 #[.pointer (some ⟨w.heap.size + 1, 0, none⟩), .int .i64 (now : Int)] W fun e w' => e = .returned .nilIface ∧ w' = W.setCell ⟨w.heap.size + 1, 0, none⟩ (.int .i64 (now : Int))) := fun W hc hf => tmv_ok _ _ _ W (by omega) (by omega) (Int.le_refl _) hc hf
  unfold ntV
  have HSQ := hidT hsq
  clear k hL hN hM hsq
  go_enter Tryd.func13, Tryd.ntmps13
  go_upto_region 1 with fail
  try rw [hW1]
  clear hW1
  go_upto_region 2 with fail
  have q2 := heap_alloc_new W1 (.cells #[.int .i64 (now : Int)] 72)
  have b2 : Below w.heap.size w (W1.alloc (.cells #[.int .i64 (now : Int)] 72)) := b1.alloc b1.size _
  have n2 := n1.alloc (.cells #[.int .i64 (now : Int)] 72)
  rw [hsz1] at q2
  obtain ⟨W2, hW2⟩ : ∃ W2, W1.alloc (.cells #[.int .i64 (now : Int)] 72) = W2 := ⟨_, rfl⟩
  obtain ⟨B, hB⟩ : ∃ B, w.heap.size = B := ⟨_, rfl⟩
  obtain ⟨C, hC⟩ : ∃ C, B + 1 = C := ⟨_, rfl⟩
  have HBC : Hid (w.heap.size = B ∧ B + 1 = C) := ⟨hB, hC⟩
  rw [hW2] at q2 b2 n2
  rw [hW2]
  have q1 := hMV.out W2 (by rw [cell_of_row W2 _ _ _ _ _ q2]; rfl) (frozen_of_row W2 _ 0 _ _ q2)
  have HB2 := hidT b2
  have HN2 := hidT n2
  have HQ2 := hidT q2
  rw [hB] at q1 hbl HN2 HQ2
  rw [hC] at q1 HQ2
  simp only [hB, hC]
  clear q2 b2 n2 hW2 n1 b1 c0 c1 c2 c3 f0 f2 hMV hsz1 hB hC
  go_upto_region 3 with (go_at_call 25; go_must ((with_reducible refine q1.mono ?_); rintro e W3' ⟨rfl, hW3⟩))
  have o3 : Only C W2 W3' := by rw [hW3]; exact (Only.refl _ _).setCell _ _
  have x3 : W3'.heap[C]? = some (.cells #[.int .i64 (now : Int)] 72 (0, 0)) := by rw [hW3]; exact heap_setCell_same W2 C 0 _ _ _ HQ2.out
  try rw [← hW3]
  clear hW3 q1
  obtain ⟨W3, hW3⟩ : ∃ W3, W3 = W3' := ⟨_, rfl⟩
  subst hW3
  have hbc := HBC.out
  have HO3 := hidT o3
  have n3 := HN2.out.only (by omega) o3
  have k3 : TlAt W3 b m now h n ds := (HK.out.below HB2.out).blk (o3.block b (by omega)) (o3.block m (by have := HK.out.2.lt; omega))
  have HX3 := hidT x3
  have HK3 := hidT k3
  have HN3 := hidT n3
  obtain ⟨⟨c0, c1, c2, c3⟩, f0, f2⟩ := tl_cells k3.1
  have g1 : W3.frozen? ⟨B, 1, none⟩ = false := frozen_of_row W3 B 1 _ _ n3
  have g0 := n3.cells.2.1
  have hBb : B ≠ b := by omega
  have HB3 : Hid (Below w.heap.size w W3) := o3.below (by omega) HB2.out
  clear o3 x3 k3 n3 HO3 HQ2 HN2 HB2 hbc
  have hn0 : (0 : Int) ≤ (n : Int) := by omega
  have hn1 : (n : Int) ≤ 100 := by omega
  go_upto_region 6 with fail
  have n4 := nt_seq HN3.out ((n : Int) + 1)
  have o4 : Only B W3 (W3.setCell ⟨B, 1, none⟩ (.int .i64 ((n : Int) + 1))) := (Only.refl _ _).setCell _ _
  obtain ⟨W4, hW4⟩ : ∃ W4, W3.setCell ⟨B, 1, none⟩ (.int .i64 ((n : Int) + 1)) = W4 := ⟨_, rfl⟩
  rw [hW4] at n4 o4
  rw [hW4]
  have n4 : NtAt W4 B M := by
    have e := HB.out
    rw [show ((n + 1 : Nat) : Int) = (n : Int) + 1 by omega] at e
    rw [← e]
    exact n4
  have hbc := HBC.out
  have hml := HK.out.2.lt
  have k4 := HK3.out.blk (o4.block b (by omega)) (o4.block m (by omega))
  have x4 : W4.heap[C]? = some (.cells #[.int .i64 (now : Int)] 72 (0, 0)) := (o4.block C (by omega)).trans HX3.out
  have HB4 : Hid (Below w.heap.size w W4) := o4.below (by omega) HB3.out
  have cC := ntChk_any M W4 (HLV.out.below HB4.out)
  rw [hE, show errV 0 = .nilIface from rfl] at cC
  unfold ntV at cC
  have HN4 := hidT n4
  have HK4 := hidT k4
  have HX4 := hidT x4
  clear hW4 o4 k4 x4 c0 c1 c2 c3 f0 f2 g1 g0 HK3 HN3 HX3 HB3 hbc hml hE
  go_upto_region 7 with (first | (refine wpList_load_nt rfl (.tmp 4) rfl _ _ rfl n4 ?_) | (go_at_call 17; go_must ((with_reducible refine cC.mono ?_); rintro e w5 ⟨rfl, b5⟩)))
  have n5 := HN4.out.below HN4.out.lt b5
  have k5 := HK4.out.below b5
  have x5 : w5.heap[C]? = some (.cells #[.int .i64 (now : Int)] 72 (0, 0)) := (b5.block C (Array.getElem?_eq_some_iff.1 HX4.out).1).trans HX4.out
  have HB5 := hidT (HB4.out.trans (b5.mono HB4.out.size))
  have hl5 := fun ty => k5.2.len Tryd.underlying70 ty
  rw [show ((tlL ds (rngL h n)).length : Int) = (n : Int) - (h : Int) by unfold tlL; rw [List.length_map, rngL_len]; omega] at hl5
  have hz2 : (n : Int) - (h : Int) < 200 := by omega
  obtain ⟨⟨c0, c1, c2, c3⟩, f0, f2⟩ := tl_cells k5.1
  have d0 : w5.cell? ⟨C, 0, none⟩ = some (.int .i64 (now : Int)) := by rw [cell_of_row w5 _ _ _ _ _ x5]; rfl
  have s1 := n5.cells.2.1
  have HN5 := hidT n5
  have HK5 := hidT k5
  have hbc := HBC.out
  have hCb : C ≠ b := by omega
  generalize (n : Int) - (h : Int) = z at hl5 hz2
  clear n4 cC b5 n5 k5 x5 HN4 HK4 HX4 HB4 hbc
  go_upto_region 13 with fail
  have t6 := tl_set HK5.out.1 (.int .i64 (now : Int)) (.int .i64 M.seq)
  have o6 : Only b w5 ((w5.setCell ⟨b, 0, none⟩ (.int .i64 (now : Int))).setCell ⟨b, 2, none⟩ (.int .i64 M.seq)) := ((Only.refl _ _).setCell _ _).setCell _ _
  obtain ⟨W6, hW6⟩ : ∃ W6, (w5.setCell ⟨b, 0, none⟩ (.int .i64 (now : Int))).setCell ⟨b, 2, none⟩ (.int .i64 M.seq) = W6 := ⟨_, rfl⟩
  rw [hW6] at t6 o6
  rw [hW6]
  clear hW6 c0 c1 c2 c3 f0 f2 d0 s1 hl5 hz2
  have n6 := HN5.out.only (by omega) o6
  have m6 := HK5.out.2.block (o6.block m HK5.out.ne.symm)
  have hkey : keyOf Tryd.prog 3 (.int .i64 M.seq) = some (.int .i64 ((n + 1 : Nat) : Int)) := by
    rw [HSQ.out, show (n : Int) + 1 = ((n + 1 : Nat) : Int) by omega]
    exact keyI (by omega)
  obtain ⟨W7, hup, m7, g7⟩ := (m6.block (w' := W6.drew) rfl).store lawI Tryd.underlying70 (by simp [tlL, rngL_len, maxLen]; omega) hkey (.agg #[.int .i64 M.what, .int .i64 M.seq, .int .i64 M.fl.key.kind, .int .i64 M.fl.key.src, .int .i64 M.fl.key.frm, .int .i64 M.fl.key.dst, .int .i64 M.fl.key.too, .int .i64 M.fl.st, .int .i64 M.fl.unt, .int .i64 M.fl.stp, .int .i64 M.fl.h0, .int .i64 M.fl.h1, .int .i64 M.fl.w0, .int .i64 M.fl.w1, .bool M.fl.d0, .bool M.fl.d1, .int .i64 M.fl.num, .int .i64 0])
  have hfl : ((rngL h n).filter fun x => decide (x ≠ n + 1)) = rngL h n := List.filter_eq_self.2 (fun x hx => decide_eq_true (fun (e : x = n + 1) => by have := (mem_rngL.1 hx).2; omega))
  rw [tlL_filter, hfl] at m7
  have k7 : TlAt W7 b m now h (n + 1) ds := by
    refine ⟨?_, ?_⟩
    · rw [g7.block b (by have := HK5.out.lt; have := o6.size; simp; omega) (fun e => HK5.out.ne (by simpa using e))]
      have e := t6
      rw [HSQ.out, show (n : Int) + 1 = ((n + 1 : Nat) : Int) by omega] at e
      exact e
    · refine m7.perm ?_
      have e : tlL ds (rngL h (n + 1)) = tlL ds (rngL h n) ++ [(.int .i64 ((n + 1 : Nat) : Int), .agg #[.int .i64 M.what, .int .i64 M.seq, .int .i64 M.fl.key.kind, .int .i64 M.fl.key.src, .int .i64 M.fl.key.frm, .int .i64 M.fl.key.dst, .int .i64 M.fl.key.too, .int .i64 M.fl.st, .int .i64 M.fl.unt, .int .i64 M.fl.stp, .int .i64 M.fl.h0, .int .i64 M.fl.h1, .int .i64 M.fl.w0, .int .i64 M.fl.w1, .bool M.fl.d0, .bool M.fl.d1, .int .i64 M.fl.num, .int .i64 0])] := by
        unfold tlL
        rw [rng_succ hh, List.map_append, List.map_cons, List.map_nil, HM.out, hd]
        rfl
      rw [e]
      exact List.perm_append_singleton _ _ |>.symm
  have t7 : Turn (Bth b m) w W7 := ((((Turn.of_below HB5.out (Bth b m)).trans (Turn.of_only o6 (.inl rfl))).drewN 1).trans (Turn.of_grown g7 (fun i e => .inr (by simpa using e.symm))))
  have n7 : NtAt W7 B M := by
    have hb : W7.heap[B]? = W6.heap[B]? := g7.block B (by simpa using n6.lt) (fun e => by
      have e' : B = m := by simpa using e
      exact (e' ▸ m6 : MapIs Tryd.prog 3 W6 B _).not_cells n6)
    unfold NtAt; rw [hb]; exact n6
  obtain ⟨⟨c0, c1, c2, c3⟩, _⟩ := tl_cells t6
  obtain ⟨r0, r1, r2, r3, r4, r5, r6, r7, r8, r9, r10, r11, r12, r13, r14, r15, r16⟩ := n6.cells
  have s7 := n7.cells.2.1
  have HK7 := hidT k7
  have HT7 := hidT t7
  clear n6 m6 m7 g7 hfl k7 t7 n7 t6 o6 hkey
  go_cut [4] (fun v4 wc => v4 = .pointer (some ⟨B, 0, none⟩) ∧ wc = W7)
  case first =>
    go_region
    all_goals (go_wp2_with fail; go_meet; case rel => exact ⟨rfl, rfl⟩)
  case rest =>
    obtain ⟨rfl, hwc⟩ := hcut
    rw [hwc]
    clear hwc hup c0 c1 c2 c3 r0 r1 r2 r3 r4 r5 r6 r7 r8 r9 r10 r11 r12 r13 r14 r15 r16
    go_wp2_with fail
    go_ret2
    exact ⟨by rw [← HSQ.out]; rfl, HK7.out, HT7.out⟩
end Go.Proofs.YtkkefgoidjjehaaDoor
