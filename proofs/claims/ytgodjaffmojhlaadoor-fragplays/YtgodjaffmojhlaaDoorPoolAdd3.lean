/- What Add of package frag answers of a piece where the pool is full, or the piece's packet is bad. -/
import Derived.Test.YtgodjaffmojhlaaDoorPoolAdd2
namespace Go.Proofs.YtgodjaffmojhlaaDoor
open Go.RowKit Go.Maps
set_option linter.unusedVariables false

theorem addA_full {s : Po} {x : Pk} {now : Int} (h : pkErr x = 0) (h2 : tickE s now = 0) (h3 : ¬ (x.pos = 0 ∧ x.more = false)) (h4 : getH (tickS s now).l (nmOf x) = none) (h5 : 8 ≤ (tickS s now).l.length) : addA s x now = (tickS s now, zeroK, false, 4) := by
  unfold addA; rw [if_neg (by simpa using h), if_neg (by simpa using h2), if_neg h3, if_pos ⟨h4, h5⟩]
theorem addA_h {s : Po} {x : Pk} {now : Int} (h : pkErr x = 0) (h2 : tickE s now = 0) (h3 : ¬ (x.pos = 0 ∧ x.more = false)) (h4 : ¬ (getH (tickS s now).l (nmOf x) = none ∧ 8 ≤ (tickS s now).l.length)) : addA s x now = addH (tickS s now) (orNew (getH (tickS s now).l (nmOf x)) (nmOf x) now) x := by
  unfold addA; rw [if_neg (by simpa using h), if_neg (by simpa using h2), if_neg h3, if_neg h4]
theorem addA_bad {s : Po} {x : Pk} {now : Int} {y : Hp} (h : pkErr x = 0) (h2 : tickE s now = 0) (h3 : ¬ (x.pos = 0 ∧ x.more = false)) (h4 : getH (tickS s now).l (nmOf x) = some y) (h5 : y.bad = true) : addA s x now = (tickS s now, zeroK, false, 6) := by
  rw [addA_h h h2 h3 (by rw [h4]; simp), h4]
  unfold addH orNew
  simp only [Option.getD_some, h5, if_true]
set_option maxRecDepth 100000 in
set_option maxHeartbeats 8000000 in
theorem add_full (F : Nat → Prop) (pb : Nat) (s : Po) (p : Pk) (bv : Value) (now : Int) (w : World) (hP : PoolAt w F pb s) (hF : ∀ k, F k → k < w.heap.size) (hb : Bytes w bv p.body) (he : pkErr p = 0) (ht : tickE s now = 0) (hnw : ¬ (p.pos = 0 ∧ p.more = false)) (hx : getH (tickS s now).l (nmOf p) = none) (h8 : 8 ≤ (tickS s now).l.length) :
    Calls Tryd.prog 9 #[ptrV pb, pkV p bv, .int .i64 now] w (Adds F pb s p now w) := by
  have HNW : Hid (¬ (p.pos = 0 ∧ p.more = false)) := hnw
  have hnok := nmOk_of he
  clear hnw
  obtain ⟨mb0, gs0, hin0⟩ := hP
  have hbx := add_boxes hin0 hF p bv hb
  obtain ⟨a, c, hbv⟩ := len_body hb
  subst hbv
  obtain ⟨L, hLe⟩ : ∃ L, p.body.length = L := ⟨_, rfl⟩
  have HLE : Hid (p.body.length = L) := hLe
  rw [hLe] at hbx ⊢
  obtain ⟨B2, hp2, hz2, hin2, hb2, hs2⟩ := hbx
  have HE : Hid (pkErr p = 0) := he
  have HTE : Hid (tickE s now = 0) := ht
  have hnf0 : ¬ F w.heap.size := fun hf => by have := hF _ hf; omega
  have hnf1 : ¬ F (w.heap.size + 1) := fun hf => by have := hF _ hf; omega
  unfold ptrV pkV
  clear hb hLe hin0 ht
  go_enter Tryd.func9, Tryd.ntmps9
  go_upto_region 1 with fail
  obtain ⟨W2, hW2⟩ : ∃ W2, ((w.alloc (.cells #[.int .i64 p.kind, .int .i64 p.ttl, .int .i64 p.ident, .int .i64 p.src, .int .i64 p.dst, .int .i64 p.pos, .bool p.more, .slice a L c] 40)).alloc (.cells #[.int .i64 0, .int .i64 0, .int .i64 0, .int .i64 0, .int .i64 0, .int .i64 0, .bool false, .slice none 0 0] 40)) = W2 := ⟨_, rfl⟩
  rw [hW2] at B2 hp2 hz2 hin2 hb2 hs2 ⊢
  have hck := check_any p (.slice a L c) W2 hb2
  rw [he, show errV 0 = .nilIface from rfl] at hck
  unfold pkV at hck
  obtain ⟨x0, x1, x2, x3, x4, x5, x6, x7⟩ := hp2.cells
  have HIN : Hid (PoolIn W2 F pb s mb0 gs0) := hin2
  clear hW2 hin2 he
  go_upto_region 4 with (go_at_call 19; refine hck.mono ?_; rintro e w3 ⟨rfl, bw3⟩)
  have hp3 := hp2.below hp2.lt bw3
  have hz3 := hz2.below hz2.lt bw3
  have hb3 := hb2.below (Nat.le_refl _) bw3
  have bel3 := B2.trans (bw3.mono B2.size)
  have hs3 : w.heap.size + 2 ≤ w3.heap.size := by have := bw3.size; omega
  have hin3 := HIN.out.below (fun k hk => by have := hF k hk; omega) bw3
  have htk := tick_any F pb s now w3 ⟨mb0, gs0, hin3⟩ (fun k hk => by have := hF k hk; omega)
  unfold Ticks at htk
  rw [HTE.out, show errV 0 = .nilIface from rfl] at htk
  unfold ptrV at htk
  clear hck hp2 hz2 hb2 x0 x1 x2 x3 x4 x5 x6 x7 HIN bw3 hin3 B2 hs2
  generalize hN : ((s.l.length : Int) - ((tickS s now).l.length : Int)) = N at htk
  clear hN
  go_upto_region 7 with (go_at_call 7; refine htk.mono ?_; rintro e w4 ⟨rfl, hP4, tr4⟩)
  have hp4 := hp3.turn tr4 hnf0
  have hZ4 := hz3.turn tr4 hnf1
  have tr0 := (Turn.of_below bel3 F).trans tr4
  have hs4 : w.heap.size + 2 ≤ w4.heap.size := Nat.le_trans hs3 tr4.size
  have HP4 : Hid (PoolAt w4 F pb (tickS s now)) := hP4
  have HT0 : Hid (Turn F w w4) := tr0
  clear htk hp3 hz3 hb3 tr4 bel3 tr0 hP4 hs3
  go_cut [37] (fun x ww => x = .bool false ∧ ww = w4)
  case first =>
    obtain ⟨_, _, _, _, _, x5, x6, _⟩ := hp4.cells
    by_cases h0 : p.pos = 0
    · have hm : p.more = true := by
        rcases hm : p.more with _ | _
        · exact absurd ⟨h0, hm⟩ HNW.out
        · rfl
      rw [h0] at x5
      rw [hm] at x6
      clear h0 hm
      go_wp2_with fail
      go_meet
      case rel => exact ⟨rfl, rfl⟩
    · have e0 : (p.pos == 0) = false := by rw [beq_eq_false_iff_ne]; exact h0
      go_wp2_with fail
      go_meet
      case rel => exact ⟨rfl, rfl⟩
  case rest =>
    obtain ⟨hx, hy⟩ := hcut
    subst hx hy
    obtain ⟨mb, gs, hin4⟩ := HP4.out
    obtain ⟨x0, x1, x2, x3, x4, x5, x6, x7⟩ := hp4.cells
    have hnm := nameOf_any p a L c wc
    unfold pkV nmV nmOf at hnm
    simp only at hnm
    have HIN : Hid (PoolIn wc F pb (tickS s now) mb gs) := hin4
    clear hin4
    go_upto_region 11 with (go_at_call 21; refine hnm.mono ?_; rintro e w5 ⟨rfl, bw5⟩)
    have bw6 : Below wc.heap.size wc (w5.alloc (.cells #[.int .i64 p.kind, .int .i64 p.src, .int .i64 p.dst, .int .i64 p.ident] 61)) := bw5.alloc bw5.size _
    have hN6 := heap_alloc_new w5 (.cells #[.int .i64 p.kind, .int .i64 p.src, .int .i64 p.dst, .int .i64 p.ident] 61)
    obtain ⟨nb, hnb⟩ : ∃ nb, nb = w5.heap.size := ⟨_, rfl⟩
    have hnb5 : wc.heap.size ≤ nb := by rw [hnb]; exact bw5.size
    have hs6 : nb < (w5.alloc (.cells #[.int .i64 p.kind, .int .i64 p.src, .int .i64 p.dst, .int .i64 p.ident] 61)).heap.size := by rw [hnb]; simp
    rw [← hnb] at hN6 ⊢
    obtain ⟨w6, hw6⟩ : ∃ w6, w5.alloc (.cells #[.int .i64 p.kind, .int .i64 p.src, .int .i64 p.dst, .int .i64 p.ident] 61) = w6 := ⟨_, rfl⟩
    rw [hw6] at bw6 hN6 hs6 ⊢
    have n0 : w6.cell? ⟨nb, 0, none⟩ = some (.int .i64 p.kind) := by rw [cell_of_row w6 nb 0 _ _ _ hN6]; rfl
    have n1 : w6.cell? ⟨nb, 1, none⟩ = some (.int .i64 p.src) := by rw [cell_of_row w6 nb 1 _ _ _ hN6]; rfl
    have n2 : w6.cell? ⟨nb, 2, none⟩ = some (.int .i64 p.dst) := by rw [cell_of_row w6 nb 2 _ _ _ hN6]; rfl
    have n3 : w6.cell? ⟨nb, 3, none⟩ = some (.int .i64 p.ident) := by rw [cell_of_row w6 nb 3 _ _ _ hN6]; rfl
    have hF6 : ∀ k, F k → k < w6.heap.size := fun k hk => by have := hF k hk; have := bw6.size; omega
    have hin6 := HIN.out.below (fun k hk => by have := hF k hk; omega) bw6
    have hZ6 := hZ4.below hZ4.lt bw6
    have tr6 := HT0.out.trans (Turn.of_below bw6 F)
    clear hnm hw6 hnb bw5 x0 x1 x2 x3 x4 x5 x6 x7 hp4 hZ4
    have hfd := find_full F pb mb (tickS s now) gs (nmOf p) now w6 hin6 hF6 hnok hx h8
    unfold ptrV nmV nmOf at hfd
    simp only at hfd
    have HFI : Hid (∀ w7 w9, Below w6.heap.size w6 w7 → Only (w.heap.size + 1) w7 w9 → Adds F pb s p now w (.returned (.tuple #[.agg #[.int .i64 0, .int .i64 0, .int .i64 0, .int .i64 0, .int .i64 0, .int .i64 0, .bool false, .slice none 0 0], .bool false, .iface 48 (.int .i64 4)])) w9) := by
      intro w7 w9 b7 o9
      have ea : addA s p now = (tickS s now, zeroK, false, 4) := addA_full HE.out HTE.out HNW.out hx h8
      have hk : ∀ k, F k → w9.heap[k]? = w6.heap[k]? := fun k hk => by
        have h1 := hF k hk
        have h2 := hF6 k hk
        rw [o9.block k (by omega), b7.block k h2]
      refine adds_no (by decide) (by rw [ea]) (by rw [ea]; exact ⟨mb, gs, (hin6.keep hk).mono (fun k hk => .inl hk)⟩) ?_
      exact (tr6.trans (Turn.of_below b7 F)).andThen (Turn.of_only (F := fun k => k = w.heap.size + 1) o9 rfl) (fun i hi => .inr (by omega))
    go_upto_region 13 with (go_at_call 22; refine hfd.mono ?_; rintro e w7 ⟨rfl, bw7⟩)
    have hZ7 := hZ6.below hZ6.lt bw7
    obtain ⟨z0, z1, z2, z3, z4, z5, z6, z7⟩ := hZ7.cells
    have f0 := hZ7.free 0
    have f1 := hZ7.free 1
    have f2 := hZ7.free 2
    have f3 := hZ7.free 3
    have f4 := hZ7.free 4
    have f5 := hZ7.free 5
    have f6 := hZ7.free 6
    have f7 := hZ7.free 7
    clear hfd hin6 tr6 n0 n1 n2 n3 hN6 hZ6
    go_wp2_with fail
    obtain ⟨w9, hw9, hp9, o9⟩ := hZ7.store 0 0 0 0 0 0 false (.slice none 0 0)
    rw [hw9]
    obtain ⟨r0, r1, r2, r3, r4, r5, r6, r7⟩ := hp9.cells
    simp only at r0 r1 r2 r3 r4 r5 r6 r7
    exact bodyPost_ret (v := .tuple #[.agg #[.int .i64 0, .int .i64 0, .int .i64 0, .int .i64 0, .int .i64 0, .int .i64 0, .bool false, .slice none 0 0], .bool false, .iface 48 (.int .i64 4)]) (by simp [results, Tryd.results9, go_sem, r0, r1, r2, r3, r4, r5, r6, r7]) rfl (HFI.out w7 w9 bw7 o9)
set_option maxRecDepth 100000 in
set_option maxHeartbeats 8000000 in
theorem add_bad (F : Nat → Prop) (pb : Nat) (s : Po) (p : Pk) (bv : Value) (now : Int) (w : World) (hP : PoolAt w F pb s) (hF : ∀ k, F k → k < w.heap.size) (hb : Bytes w bv p.body) (he : pkErr p = 0) (ht : tickE s now = 0) (hnw : ¬ (p.pos = 0 ∧ p.more = false)) (y : Hp) (hx : getH (tickS s now).l (nmOf p) = some y) (hbad : y.bad = true) :
    Calls Tryd.prog 9 #[ptrV pb, pkV p bv, .int .i64 now] w (Adds F pb s p now w) := by
  have HNW : Hid (¬ (p.pos = 0 ∧ p.more = false)) := hnw
  have hnok := nmOk_of he
  clear hnw
  obtain ⟨mb0, gs0, hin0⟩ := hP
  have hbx := add_boxes hin0 hF p bv hb
  obtain ⟨a, c, hbv⟩ := len_body hb
  subst hbv
  obtain ⟨L, hLe⟩ : ∃ L, p.body.length = L := ⟨_, rfl⟩
  have HLE : Hid (p.body.length = L) := hLe
  rw [hLe] at hbx ⊢
  obtain ⟨B2, hp2, hz2, hin2, hb2, hs2⟩ := hbx
  have HE : Hid (pkErr p = 0) := he
  have HTE : Hid (tickE s now = 0) := ht
  have hnf0 : ¬ F w.heap.size := fun hf => by have := hF _ hf; omega
  have hnf1 : ¬ F (w.heap.size + 1) := fun hf => by have := hF _ hf; omega
  unfold ptrV pkV
  clear hb hLe hin0 ht
  go_enter Tryd.func9, Tryd.ntmps9
  go_upto_region 1 with fail
  obtain ⟨W2, hW2⟩ : ∃ W2, ((w.alloc (.cells #[.int .i64 p.kind, .int .i64 p.ttl, .int .i64 p.ident, .int .i64 p.src, .int .i64 p.dst, .int .i64 p.pos, .bool p.more, .slice a L c] 40)).alloc (.cells #[.int .i64 0, .int .i64 0, .int .i64 0, .int .i64 0, .int .i64 0, .int .i64 0, .bool false, .slice none 0 0] 40)) = W2 := ⟨_, rfl⟩
  rw [hW2] at B2 hp2 hz2 hin2 hb2 hs2 ⊢
  have hck := check_any p (.slice a L c) W2 hb2
  rw [he, show errV 0 = .nilIface from rfl] at hck
  unfold pkV at hck
  obtain ⟨x0, x1, x2, x3, x4, x5, x6, x7⟩ := hp2.cells
  have HIN : Hid (PoolIn W2 F pb s mb0 gs0) := hin2
  clear hW2 hin2 he
  go_upto_region 4 with (go_at_call 19; refine hck.mono ?_; rintro e w3 ⟨rfl, bw3⟩)
  have hp3 := hp2.below hp2.lt bw3
  have hz3 := hz2.below hz2.lt bw3
  have hb3 := hb2.below (Nat.le_refl _) bw3
  have bel3 := B2.trans (bw3.mono B2.size)
  have hs3 : w.heap.size + 2 ≤ w3.heap.size := by have := bw3.size; omega
  have hin3 := HIN.out.below (fun k hk => by have := hF k hk; omega) bw3
  have htk := tick_any F pb s now w3 ⟨mb0, gs0, hin3⟩ (fun k hk => by have := hF k hk; omega)
  unfold Ticks at htk
  rw [HTE.out, show errV 0 = .nilIface from rfl] at htk
  unfold ptrV at htk
  clear hck hp2 hz2 hb2 x0 x1 x2 x3 x4 x5 x6 x7 HIN bw3 hin3 B2 hs2
  generalize hN : ((s.l.length : Int) - ((tickS s now).l.length : Int)) = N at htk
  clear hN
  go_upto_region 7 with (go_at_call 7; refine htk.mono ?_; rintro e w4 ⟨rfl, hP4, tr4⟩)
  have hp4 := hp3.turn tr4 hnf0
  have hZ4 := hz3.turn tr4 hnf1
  have tr0 := (Turn.of_below bel3 F).trans tr4
  have hs4 : w.heap.size + 2 ≤ w4.heap.size := Nat.le_trans hs3 tr4.size
  have HP4 : Hid (PoolAt w4 F pb (tickS s now)) := hP4
  have HT0 : Hid (Turn F w w4) := tr0
  clear htk hp3 hz3 hb3 tr4 bel3 tr0 hP4 hs3
  go_cut [37] (fun x ww => x = .bool false ∧ ww = w4)
  case first =>
    obtain ⟨_, _, _, _, _, x5, x6, _⟩ := hp4.cells
    by_cases h0 : p.pos = 0
    · have hm : p.more = true := by
        rcases hm : p.more with _ | _
        · exact absurd ⟨h0, hm⟩ HNW.out
        · rfl
      rw [h0] at x5
      rw [hm] at x6
      clear h0 hm
      go_wp2_with fail
      go_meet
      case rel => exact ⟨rfl, rfl⟩
    · have e0 : (p.pos == 0) = false := by rw [beq_eq_false_iff_ne]; exact h0
      go_wp2_with fail
      go_meet
      case rel => exact ⟨rfl, rfl⟩
  case rest =>
    obtain ⟨hx, hy⟩ := hcut
    subst hx hy
    obtain ⟨mb, gs, hin4⟩ := HP4.out
    obtain ⟨x0, x1, x2, x3, x4, x5, x6, x7⟩ := hp4.cells
    have hnm := nameOf_any p a L c wc
    unfold pkV nmV nmOf at hnm
    simp only at hnm
    have HIN : Hid (PoolIn wc F pb (tickS s now) mb gs) := hin4
    clear hin4
    go_upto_region 11 with (go_at_call 21; refine hnm.mono ?_; rintro e w5 ⟨rfl, bw5⟩)
    have bw6 : Below wc.heap.size wc (w5.alloc (.cells #[.int .i64 p.kind, .int .i64 p.src, .int .i64 p.dst, .int .i64 p.ident] 61)) := bw5.alloc bw5.size _
    have hN6 := heap_alloc_new w5 (.cells #[.int .i64 p.kind, .int .i64 p.src, .int .i64 p.dst, .int .i64 p.ident] 61)
    obtain ⟨nb, hnb⟩ : ∃ nb, nb = w5.heap.size := ⟨_, rfl⟩
    have hnb5 : wc.heap.size ≤ nb := by rw [hnb]; exact bw5.size
    have hs6 : nb < (w5.alloc (.cells #[.int .i64 p.kind, .int .i64 p.src, .int .i64 p.dst, .int .i64 p.ident] 61)).heap.size := by rw [hnb]; simp
    rw [← hnb] at hN6 ⊢
    obtain ⟨w6, hw6⟩ : ∃ w6, w5.alloc (.cells #[.int .i64 p.kind, .int .i64 p.src, .int .i64 p.dst, .int .i64 p.ident] 61) = w6 := ⟨_, rfl⟩
    rw [hw6] at bw6 hN6 hs6 ⊢
    have n0 : w6.cell? ⟨nb, 0, none⟩ = some (.int .i64 p.kind) := by rw [cell_of_row w6 nb 0 _ _ _ hN6]; rfl
    have n1 : w6.cell? ⟨nb, 1, none⟩ = some (.int .i64 p.src) := by rw [cell_of_row w6 nb 1 _ _ _ hN6]; rfl
    have n2 : w6.cell? ⟨nb, 2, none⟩ = some (.int .i64 p.dst) := by rw [cell_of_row w6 nb 2 _ _ _ hN6]; rfl
    have n3 : w6.cell? ⟨nb, 3, none⟩ = some (.int .i64 p.ident) := by rw [cell_of_row w6 nb 3 _ _ _ hN6]; rfl
    have hF6 : ∀ k, F k → k < w6.heap.size := fun k hk => by have := hF k hk; have := bw6.size; omega
    have hin6 := HIN.out.below (fun k hk => by have := hF k hk; omega) bw6
    have hZ6 := hZ4.below hZ4.lt bw6
    have tr6 := HT0.out.trans (Turn.of_below bw6 F)
    clear hnm hw6 hnb bw5 x0 x1 x2 x3 x4 x5 x6 x7 hp4 hZ4
    obtain ⟨g, hg, hgy, hgn⟩ := find_mem hin6 hx
    have hfd := find_bad F pb mb (tickS s now) gs g (nmOf p) now w6 hin6 hF6 hnok hg hgn (by rw [hgy]; exact hbad)
    unfold ptrV nmV nmOf at hfd
    simp only at hfd
    have HFI : Hid (∀ w7 w9, Below w6.heap.size w6 w7 → Only (w.heap.size + 1) w7 w9 → Adds F pb s p now w (.returned (.tuple #[.agg #[.int .i64 0, .int .i64 0, .int .i64 0, .int .i64 0, .int .i64 0, .int .i64 0, .bool false, .slice none 0 0], .bool false, .iface 48 (.int .i64 6)])) w9) := by
      intro w7 w9 b7 o9
      have ea : addA s p now = (tickS s now, zeroK, false, 6) := addA_bad HE.out HTE.out HNW.out hx hbad
      have hk : ∀ k, F k → w9.heap[k]? = w6.heap[k]? := fun k hk => by
        have h1 := hF k hk
        have h2 := hF6 k hk
        rw [o9.block k (by omega), b7.block k h2]
      refine adds_no (by decide) (by rw [ea]) (by rw [ea]; exact ⟨mb, gs, (hin6.keep hk).mono (fun k hk => .inl hk)⟩) ?_
      exact (tr6.trans (Turn.of_below b7 F)).andThen (Turn.of_only (F := fun k => k = w.heap.size + 1) o9 rfl) (fun i hi => .inr (by omega))
    go_upto_region 13 with (go_at_call 22; refine hfd.mono ?_; rintro e w7 ⟨rfl, bw7⟩)
    have hZ7 := hZ6.below hZ6.lt bw7
    obtain ⟨z0, z1, z2, z3, z4, z5, z6, z7⟩ := hZ7.cells
    have f0 := hZ7.free 0
    have f1 := hZ7.free 1
    have f2 := hZ7.free 2
    have f3 := hZ7.free 3
    have f4 := hZ7.free 4
    have f5 := hZ7.free 5
    have f6 := hZ7.free 6
    have f7 := hZ7.free 7
    clear hfd hin6 tr6 n0 n1 n2 n3 hN6 hZ6
    go_wp2_with fail
    obtain ⟨w9, hw9, hp9, o9⟩ := hZ7.store 0 0 0 0 0 0 false (.slice none 0 0)
    rw [hw9]
    obtain ⟨r0, r1, r2, r3, r4, r5, r6, r7⟩ := hp9.cells
    simp only at r0 r1 r2 r3 r4 r5 r6 r7
    exact bodyPost_ret (v := .tuple #[.agg #[.int .i64 0, .int .i64 0, .int .i64 0, .int .i64 0, .int .i64 0, .int .i64 0, .bool false, .slice none 0 0], .bool false, .iface 48 (.int .i64 6)]) (by simp [results, Tryd.results9, go_sem, r0, r1, r2, r3, r4, r5, r6, r7]) rfl (HFI.out w7 w9 bw7 o9)
end Go.Proofs.YtgodjaffmojhlaaDoor
