/- What Add of package frag answers at a time that may not be, and of a packet that is no piece. -/
import Derived.Test.YtgodjaffmojhlaaDoorPoolAdd1
namespace Go.Proofs.YtgodjaffmojhlaaDoor
open Go.RowKit Go.Maps
set_option linter.unusedVariables false

theorem PkAt.turn {F : Nat → Prop} {w w' : World} {b : Nat} {p : Pk} {bv : Value} (h : PkAt w b p bv) (ht : Turn F w w') (hne : ¬ F b) : PkAt w' b p bv := (ht.block b h.lt hne).trans h
set_option maxRecDepth 100000 in
set_option maxHeartbeats 8000000 in
theorem add_time (F : Nat → Prop) (pb : Nat) (s : Po) (p : Pk) (bv : Value) (now : Int) (w : World) (hP : PoolAt w F pb s) (hF : ∀ k, F k → k < w.heap.size) (hb : Bytes w bv p.body) (he : pkErr p = 0) (ht : ¬ tickE s now = 0) :
    Calls Tryd.prog 9 #[ptrV pb, pkV p bv, .int .i64 now] w (Adds F pb s p now w) := by
  obtain ⟨mb0, gs0, hin0⟩ := hP
  have hbx := add_boxes hin0 hF p bv hb
  obtain ⟨a, c, hbv⟩ := len_body hb
  subst hbv
  obtain ⟨L, hLe⟩ : ∃ L, p.body.length = L := ⟨_, rfl⟩
  have HLE : Hid (p.body.length = L) := hLe
  rw [hLe] at hbx ⊢
  obtain ⟨B2, hp2, hz2, hin2, hb2, hs2⟩ := hbx
  have HE : Hid (pkErr p = 0) := he
  have HTE : Hid (¬ tickE s now = 0) := ht
  have hnf0 : ¬ F w.heap.size := fun hf => by have := hF _ hf; omega
  have hnf1 : ¬ F (w.heap.size + 1) := fun hf => by have := hF _ hf; omega
  unfold ptrV pkV
  clear hb hLe hin0 ht
  go_enter Tryd.func9, Tryd.ntmps9
  go_upto_region 1 with fail
  obtain ⟨W2, hW2⟩ : ∃ W2, ((w.alloc (.cells #[.int .i64 p.kind, .int .i64 p.ttl, .int .i64 p.ident, .int .i64 p.src, .int .i64 p.dst, .int .i64 p.pos, .bool p.more, .slice a L c] 40)).alloc (.cells #[.int .i64 0, .int .i64 0, .int .i64 0, .int .i64 0, .int .i64 0, .int .i64 0, .bool false, .slice none 0 0] 40)) = W2 := ⟨_, rfl⟩
  rw [hW2] at B2 hp2 hz2 hin2 hb2 hs2 ⊢
  have hck := check_any p (.slice a L c) W2 hb2
  rw [he, show errV 0 = .nilIface from rfl] at hck
  unfold pkV at hck
  obtain ⟨x0, x1, x2, x3, x4, x5, x6, x7⟩ := hp2.cells
  have HIN : Hid (PoolIn W2 F pb s mb0 gs0) := hin2
  clear hW2 hin2 he
  go_upto_region 4 with (go_at_call 19; refine hck.mono ?_; rintro e w3 ⟨rfl, bw3⟩)
  have hp3 := hp2.below hp2.lt bw3
  have hz3 := hz2.below hz2.lt bw3
  have hb3 := hb2.below (Nat.le_refl _) bw3
  have bel3 := B2.trans (bw3.mono B2.size)
  have hs3 : w.heap.size + 2 ≤ w3.heap.size := by have := bw3.size; omega
  have hin3 := HIN.out.below (fun k hk => by have := hF k hk; omega) bw3
  have htk := tick_any F pb s now w3 ⟨mb0, gs0, hin3⟩ (fun k hk => by have := hF k hk; omega)
  unfold Ticks at htk
  rw [show errV (tickE s now) = .iface 48 (.int .i64 (tickE s now)) by unfold errV; rw [if_neg HTE.out]] at htk
  unfold ptrV at htk
  clear hck hp2 hz2 hb2 x0 x1 x2 x3 x4 x5 x6 x7 HIN bw3 hin3 B2 hs2
  generalize hN : ((s.l.length : Int) - ((tickS s now).l.length : Int)) = N at htk
  generalize hn : tickE s now = n at htk
  have HN : Hid (tickE s now = n) := hn
  clear hn hN
  go_upto_region 6 with (go_at_call 7; refine htk.mono ?_; rintro e w4 ⟨rfl, hP4, tr4⟩)
  have hZ4 := hz3.turn tr4 hnf1
  have HFI : Hid (∀ w9, Only (w.heap.size + 1) w4 w9 → Adds F pb s p now w (.returned (.tuple #[.agg #[.int .i64 0, .int .i64 0, .int .i64 0, .int .i64 0, .int .i64 0, .int .i64 0, .bool false, .slice none 0 0], .bool false, .iface 48 (.int .i64 n)])) w9) := by
    intro w9 o9
    have ea := addA_time (s := s) (now := now) HE.out HTE.out
    rw [HN.out] at ea
    have hT : tickS s now = s := by unfold tickS; rw [if_neg HTE.out]
    rw [hT] at hP4
    obtain ⟨mb, gs, hin4⟩ := hP4
    refine adds_no (HN.out ▸ HTE.out) (by rw [ea]) (by rw [ea]; exact ⟨mb, gs, (hin4.keep (fun k hk => o9.block k (by have := hF k hk; omega))).mono (fun k hk => .inl hk)⟩) ?_
    exact ((Turn.of_below bel3 F).trans tr4).andThen (Turn.of_only (F := fun k => k = w.heap.size + 1) o9 rfl) (fun i hi => .inr (by omega))
  obtain ⟨z0, z1, z2, z3, z4, z5, z6, z7⟩ := hZ4.cells
  have f0 := hZ4.free 0
  have f1 := hZ4.free 1
  have f2 := hZ4.free 2
  have f3 := hZ4.free 3
  have f4 := hZ4.free 4
  have f5 := hZ4.free 5
  have f6 := hZ4.free 6
  have f7 := hZ4.free 7
  clear htk hp3 hz3 hb3 hP4 tr4
  go_wp2_with fail
  obtain ⟨w9, hw9, hp9, o9⟩ := hZ4.store 0 0 0 0 0 0 false (.slice none 0 0)
  rw [hw9]
  obtain ⟨r0, r1, r2, r3, r4, r5, r6, r7⟩ := hp9.cells
  simp only at r0 r1 r2 r3 r4 r5 r6 r7
  exact bodyPost_ret (v := .tuple #[.agg #[.int .i64 0, .int .i64 0, .int .i64 0, .int .i64 0, .int .i64 0, .int .i64 0, .bool false, .slice none 0 0], .bool false, .iface 48 (.int .i64 n)]) (by simp [results, Tryd.results9, go_sem, r0, r1, r2, r3, r4, r5, r6, r7]) rfl (HFI.out w9 o9)
theorem addA_whole {s : Po} {x : Pk} {now : Int} (h : pkErr x = 0) (h2 : tickE s now = 0) (h3 : x.pos = 0 ∧ x.more = false) : addA s x now = (tickS s now, x, true, 0) := by unfold addA; rw [if_neg (by simpa using h), if_neg (by simpa using h2), if_pos h3]
set_option maxRecDepth 100000 in
set_option maxHeartbeats 8000000 in
theorem add_whole (F : Nat → Prop) (pb : Nat) (s : Po) (p : Pk) (bv : Value) (now : Int) (w : World) (hP : PoolAt w F pb s) (hF : ∀ k, F k → k < w.heap.size) (hb : Bytes w bv p.body) (hbF : ∀ b off len cap, bv = .slice (some ⟨b, off, none⟩) len cap → 0 < len → ¬ F b) (he : pkErr p = 0) (ht : tickE s now = 0) (hw : p.pos = 0 ∧ p.more = false) :
    Calls Tryd.prog 9 #[ptrV pb, pkV p bv, .int .i64 now] w (Adds F pb s p now w) := by
  have hL4 := (pkErr_ok he).2
  have HBF : Hid (∀ b off len cap, bv = .slice (some ⟨b, off, none⟩) len cap → 0 < len → ¬ F b) := hbF
  have HW : Hid (p.pos = 0 ∧ p.more = false) := hw
  have HBW : Hid (Bytes w bv p.body) := hb
  clear hbF hw
  obtain ⟨mb0, gs0, hin0⟩ := hP
  have hbx := add_boxes hin0 hF p bv hb
  obtain ⟨a, c, hbv⟩ := len_body hb
  subst hbv
  obtain ⟨L, hLe⟩ : ∃ L, p.body.length = L := ⟨_, rfl⟩
  have HLE : Hid (p.body.length = L) := hLe
  rw [hLe] at hbx ⊢
  obtain ⟨B2, hp2, hz2, hin2, hb2, hs2⟩ := hbx
  have HE : Hid (pkErr p = 0) := he
  have HTE : Hid (tickE s now = 0) := ht
  have hnf0 : ¬ F w.heap.size := fun hf => by have := hF _ hf; omega
  have hnf1 : ¬ F (w.heap.size + 1) := fun hf => by have := hF _ hf; omega
  unfold ptrV pkV
  clear hb hLe hin0 ht
  go_enter Tryd.func9, Tryd.ntmps9
  go_upto_region 1 with fail
  obtain ⟨W2, hW2⟩ : ∃ W2, ((w.alloc (.cells #[.int .i64 p.kind, .int .i64 p.ttl, .int .i64 p.ident, .int .i64 p.src, .int .i64 p.dst, .int .i64 p.pos, .bool p.more, .slice a L c] 40)).alloc (.cells #[.int .i64 0, .int .i64 0, .int .i64 0, .int .i64 0, .int .i64 0, .int .i64 0, .bool false, .slice none 0 0] 40)) = W2 := ⟨_, rfl⟩
  rw [hW2] at B2 hp2 hz2 hin2 hb2 hs2 ⊢
  have hck := check_any p (.slice a L c) W2 hb2
  rw [he, show errV 0 = .nilIface from rfl] at hck
  unfold pkV at hck
  obtain ⟨x0, x1, x2, x3, x4, x5, x6, x7⟩ := hp2.cells
  have HIN : Hid (PoolIn W2 F pb s mb0 gs0) := hin2
  clear hW2 hin2 he
  go_upto_region 4 with (go_at_call 19; refine hck.mono ?_; rintro e w3 ⟨rfl, bw3⟩)
  have hp3 := hp2.below hp2.lt bw3
  have hz3 := hz2.below hz2.lt bw3
  have hb3 := hb2.below (Nat.le_refl _) bw3
  have bel3 := B2.trans (bw3.mono B2.size)
  have hs3 : w.heap.size + 2 ≤ w3.heap.size := by have := bw3.size; omega
  have hin3 := HIN.out.below (fun k hk => by have := hF k hk; omega) bw3
  have htk := tick_any F pb s now w3 ⟨mb0, gs0, hin3⟩ (fun k hk => by have := hF k hk; omega)
  unfold Ticks at htk
  rw [HTE.out, show errV 0 = .nilIface from rfl] at htk
  unfold ptrV at htk
  clear hck hp2 hz2 hb2 x0 x1 x2 x3 x4 x5 x6 x7 HIN bw3 hin3 B2 hs2
  generalize hN : ((s.l.length : Int) - ((tickS s now).l.length : Int)) = N at htk
  clear hN
  go_upto_region 7 with (go_at_call 7; refine htk.mono ?_; rintro e w4 ⟨rfl, hP4, tr4⟩)
  have hp4 := hp3.turn tr4 hnf0
  have hZ4 := hz3.turn tr4 hnf1
  have hbt : Bytes w4 (.slice a L c) p.body := by
    rcases HBW.out with h | ⟨b, off, len, cap, h1, h2, h3, h4, h5, h6⟩
    · rw [HLE.out] at h; exact .inl h
    · by_cases hl0 : len = 0
      · subst hl0
        rw [HLE.out] at h1
        exact .inl ⟨List.eq_nil_of_length_eq_zero h5, _, _, h1, fun h => by cases h⟩
      · have n1 := HBF.out b off len cap h1 (by omega)
        rw [HLE.out] at h1
        refine .inr ⟨b, off, len, cap, h1, h2, h3, h4, h5, fun i hi => ?_, h6.2⟩
        have hlt := h6.lt (by omega)
        rw [World.cell?_of_block (w := w3) (tr4.block b (by omega) n1), bel3.cell (p := ⟨b, off + i, none⟩) hlt]
        exact h6.1 i hi
  have tr0 := (Turn.of_below bel3 F).trans tr4
  have hs4 : w.heap.size + 2 ≤ w4.heap.size := Nat.le_trans hs3 tr4.size
  have hfr := ffresh_any _ _ w4 hbt (by omega)
  obtain ⟨x0, x1, x2, x3, x4, x5, x6, x7⟩ := hp4.cells
  rw [HW.out.1] at x5
  rw [HW.out.2] at x6
  clear htk hp3 hz3 hb3 tr4 bel3 hbt
  go_upto_region 9 with (go_at_call 20; refine hfr.mono ?_; rintro e w5 ⟨v5, rfl, own5, bw5⟩; obtain ⟨a5, c5, hv5⟩ := len_body' (own5.bytes (by omega)) HLE.out; subst hv5; have hp5 := hp4.below hp4.lt bw5; have c7 := hp5.cells.2.2.2.2.2.2.2; have f7 := hp5.free 7)
  have hp6 := hp5.put7 (.slice a5 L c5) p.body
  try simp only at hp6
  have o6 : Only w.heap.size w5 (w5.setCell ⟨w.heap.size, 7, none⟩ (.slice a5 L c5)) := (Only.refl _ _).setCell _ _
  obtain ⟨w6, hw6⟩ : ∃ w6, w5.setCell ⟨w.heap.size, 7, none⟩ (.slice a5 L c5) = w6 := ⟨_, rfl⟩
  rw [hw6] at hp6 o6 ⊢
  have hZ6 := (hZ4.below hZ4.lt bw5).only (by omega) o6
  have own6 : OwnB w6 w4.heap.size (.slice a5 L c5) p.body := own5.only (fun e => by have := (own5.1.lt _ e).1; omega) o6
  obtain ⟨y0, y1, y2, y3, y4, y5, y6, y7⟩ := hp6.cells
  obtain ⟨z0, z1, z2, z3, z4, z5, z6, z7⟩ := hZ6.cells
  have f0 := hZ6.free 0
  have f1 := hZ6.free 1
  have f2 := hZ6.free 2
  have f3 := hZ6.free 3
  have f4 := hZ6.free 4
  have f5 := hZ6.free 5
  have f6 := hZ6.free 6
  have f7 := hZ6.free 7
  have HFI : Hid (∀ w9, Only (w.heap.size + 1) w6 w9 → Adds F pb s p now w (.returned (.tuple #[.agg #[.int .i64 p.kind, .int .i64 p.ttl, .int .i64 p.ident, .int .i64 p.src, .int .i64 p.dst, .int .i64 p.pos, .bool p.more, .slice a5 L c5], .bool true, .nilIface])) w9) := by
    intro w9 o9
    have ea := addA_whole (s := s) (now := now) HE.out HTE.out HW.out
    obtain ⟨mb, gs, hin4⟩ := hP4
    have hk : ∀ k, F k → w9.heap[k]? = w4.heap[k]? := fun k hk => by
      have h1 := hF k hk
      rw [o9.block k (by omega), o6.block k (by omega), bw5.block k (by omega)]
    refine ⟨.slice a5 L c5, by rw [ea]; rfl, by rw [ea]; exact (own6.only (fun e => by have := (own6.1.lt _ e).1; omega) o9).bytes (by omega), by rw [ea]; exact ⟨mb, gs, (hin4.keep hk).mono (fun k hk => .inl hk)⟩, ?_⟩
    have t5 := (tr0.trans (Turn.of_below bw5 F)).andThen (Turn.of_only (F := fun k => k = w.heap.size) o6 rfl) (fun i hi => .inr (by omega))
    exact t5.andThen (Turn.of_only (F := fun k => k = w.heap.size + 1) o9 rfl) (fun i hi => .inr (by omega))
  clear hfr x0 x1 x2 x3 x4 x5 x6 x7 c7 hp5 hp4 hZ4 hw6 own5 bw5 hP4 own6 o6
  go_wp2_with fail
  obtain ⟨w9, hw9, hp9, o9⟩ := hZ6.store p.kind p.ttl p.ident p.src p.dst p.pos p.more (.slice a5 L c5)
  rw [hw9]
  obtain ⟨r0, r1, r2, r3, r4, r5, r6, r7⟩ := hp9.cells
  simp only at r0 r1 r2 r3 r4 r5 r6 r7
  exact bodyPost_ret (v := .tuple #[.agg #[.int .i64 p.kind, .int .i64 p.ttl, .int .i64 p.ident, .int .i64 p.src, .int .i64 p.dst, .int .i64 p.pos, .bool p.more, .slice a5 L c5], .bool true, .nilIface]) (by simp [results, Tryd.results9, go_sem, r0, r1, r2, r3, r4, r5, r6, r7]) rfl (HFI.out w9 o9)
end Go.Proofs.YtgodjaffmojhlaaDoor
