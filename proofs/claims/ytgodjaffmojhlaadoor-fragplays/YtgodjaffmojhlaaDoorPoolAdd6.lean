/- What Add of package frag answers of a piece that is wrong. -/
import Derived.Test.YtgodjaffmojhlaaDoorPoolAdd5
namespace Go.Proofs.YtgodjaffmojhlaaDoor
open Go.RowKit Go.Maps
set_option linter.unusedVariables false

theorem addA_wrong {s : Po} {x : Pk} {now : Int} {y : Hp} (h : pkErr x = 0) (h2 : tickE s now = 0) (h3 : ¬ (x.pos = 0 ∧ x.more = false)) (h4 : ¬ (getH (tickS s now).l (nmOf x) = none ∧ 8 ≤ (tickS s now).l.length)) (hy : y = orNew (getH (tickS s now).l (nmOf x)) (nmOf x) now) (h5 : y.bad = false) (h6 : wrongB y.all x = true) :
    addA s x now = ({ tickS s now with l := setH (tickS s now).l { y with bad := true, all := [] } }, zeroK, false, 3) := by
  rw [addA_h h h2 h3 h4, ← hy]
  unfold addH
  rw [h5, h6]
  simp only [Bool.false_eq_true, if_false, if_true]
def badGb (g : Gb) (b : Nat) : Gb := { h := { g.h with bad := true, all := [] }, b := b, m := 0, vs := [] }
set_option maxRecDepth 100000 in
set_option maxHeartbeats 8000000 in
theorem add_wrong (F : Nat → Prop) (pb : Nat) (s : Po) (p : Pk) (bv : Value) (now : Int) (w : World) (hP : PoolAt w F pb s) (hF : ∀ k, F k → k < w.heap.size) (hb : Bytes w bv p.body) (hbF : ∀ b off len cap, bv = .slice (some ⟨b, off, none⟩) len cap → 0 < len → ¬ F b) (he : pkErr p = 0) (ht : tickE s now = 0) (hnw : ¬ (p.pos = 0 ∧ p.more = false))
    (hx : ¬ (getH (tickS s now).l (nmOf p) = none ∧ 8 ≤ (tickS s now).l.length)) (hbd : (orNew (getH (tickS s now).l (nmOf p)) (nmOf p) now).bad = false) (hwr : wrongB (orNew (getH (tickS s now).l (nmOf p)) (nmOf p) now).all p = true) :
    Calls Tryd.prog 9 #[ptrV pb, pkV p bv, .int .i64 now] w (Adds F pb s p now w) := by
  have HNW : Hid (¬ (p.pos = 0 ∧ p.more = false)) := hnw
  have HXX : Hid (¬ (getH (tickS s now).l (nmOf p) = none ∧ 8 ≤ (tickS s now).l.length)) := hx
  have hnok := nmOk_of he
  have HBW : Hid (Bytes w bv p.body) := hb
  have HBF : Hid (∀ b off len cap, bv = .slice (some ⟨b, off, none⟩) len cap → 0 < len → ¬ F b) := hbF
  have hpos := (of_pkIn (pkErr_ok he).1).2.2.2.2.2
  have hL4 := (pkErr_ok he).2
  have hnow : 0 ≤ now ∧ now ≤ 1000000 := by
    have h1 := ht
    unfold tickE at h1
    split at h1
    · cases h1
    · omega
  clear hnw hbF
  obtain ⟨mb0, gs0, hin0⟩ := hP
  have hbx := add_boxes hin0 hF p bv hb
  obtain ⟨a, c, hbv⟩ := len_body hb
  subst hbv
  obtain ⟨L, hLe⟩ : ∃ L, p.body.length = L := ⟨_, rfl⟩
  have HLE : Hid (p.body.length = L) := hLe
  rw [hLe] at hbx ⊢
  obtain ⟨B2, hp2, hz2, hin2, hb2, hs2⟩ := hbx
  have HE : Hid (pkErr p = 0) := he
  have HTE : Hid (tickE s now = 0) := ht
  have hnf0 : ¬ F w.heap.size := fun hf => by have := hF _ hf; omega
  have hnf1 : ¬ F (w.heap.size + 1) := fun hf => by have := hF _ hf; omega
  unfold ptrV pkV
  clear hb hLe hin0 ht
  go_enter Tryd.func9, Tryd.ntmps9
  go_upto_region 1 with fail
  obtain ⟨W2, hW2⟩ : ∃ W2, ((w.alloc (.cells #[.int .i64 p.kind, .int .i64 p.ttl, .int .i64 p.ident, .int .i64 p.src, .int .i64 p.dst, .int .i64 p.pos, .bool p.more, .slice a L c] 40)).alloc (.cells #[.int .i64 0, .int .i64 0, .int .i64 0, .int .i64 0, .int .i64 0, .int .i64 0, .bool false, .slice none 0 0] 40)) = W2 := ⟨_, rfl⟩
  rw [hW2] at B2 hp2 hz2 hin2 hb2 hs2 ⊢
  have hck := check_any p (.slice a L c) W2 hb2
  rw [he, show errV 0 = .nilIface from rfl] at hck
  unfold pkV at hck
  obtain ⟨x0, x1, x2, x3, x4, x5, x6, x7⟩ := hp2.cells
  have HIN : Hid (PoolIn W2 F pb s mb0 gs0) := hin2
  clear hW2 hin2 he
  go_upto_region 4 with (go_at_call 19; refine hck.mono ?_; rintro e w3 ⟨rfl, bw3⟩)
  have hp3 := hp2.below hp2.lt bw3
  have hz3 := hz2.below hz2.lt bw3
  have hb3 := hb2.below (Nat.le_refl _) bw3
  have bel3 := B2.trans (bw3.mono B2.size)
  have hs3 : w.heap.size + 2 ≤ w3.heap.size := by have := bw3.size; omega
  have hin3 := HIN.out.below (fun k hk => by have := hF k hk; omega) bw3
  have htk := tick_any F pb s now w3 ⟨mb0, gs0, hin3⟩ (fun k hk => by have := hF k hk; omega)
  unfold Ticks at htk
  rw [HTE.out, show errV 0 = .nilIface from rfl] at htk
  unfold ptrV at htk
  clear hck hp2 hz2 hb2 x0 x1 x2 x3 x4 x5 x6 x7 HIN bw3 hin3 B2 hs2
  generalize hN : ((s.l.length : Int) - ((tickS s now).l.length : Int)) = N at htk
  clear hN
  go_upto_region 7 with (go_at_call 7; refine htk.mono ?_; rintro e w4 ⟨rfl, hP4, tr4⟩)
  have hp4 := hp3.turn tr4 hnf0
  have hZ4 := hz3.turn tr4 hnf1
  have tr0 := (Turn.of_below bel3 F).trans tr4
  have hs4 : w.heap.size + 2 ≤ w4.heap.size := Nat.le_trans hs3 tr4.size
  have HP4 : Hid (PoolAt w4 F pb (tickS s now)) := hP4
  have HT0 : Hid (Turn F w w4) := tr0
  clear htk hp3 hz3 hb3 tr4 bel3 tr0 hP4 hs3
  go_cut [37] (fun x ww => x = .bool false ∧ ww = w4)
  case first =>
    obtain ⟨_, _, _, _, _, x5, x6, _⟩ := hp4.cells
    by_cases h0 : p.pos = 0
    · have hm : p.more = true := by
        rcases hm : p.more with _ | _
        · exact absurd ⟨h0, hm⟩ HNW.out
        · rfl
      rw [h0] at x5
      rw [hm] at x6
      clear h0 hm
      go_wp2_with fail
      go_meet
      case rel => exact ⟨rfl, rfl⟩
    · have e0 : (p.pos == 0) = false := by rw [beq_eq_false_iff_ne]; exact h0
      go_wp2_with fail
      go_meet
      case rel => exact ⟨rfl, rfl⟩
  case rest =>
    obtain ⟨hx, hy⟩ := hcut
    subst hx hy
    obtain ⟨mb, gs, hin4⟩ := HP4.out
    obtain ⟨x0, x1, x2, x3, x4, x5, x6, x7⟩ := hp4.cells
    have hnm := nameOf_any p a L c wc
    unfold pkV nmV nmOf at hnm
    simp only at hnm
    have HIN : Hid (PoolIn wc F pb (tickS s now) mb gs) := hin4
    clear hin4
    go_upto_region 11 with (go_at_call 21; refine hnm.mono ?_; rintro e w5 ⟨rfl, bw5⟩)
    have bw6 : Below wc.heap.size wc (w5.alloc (.cells #[.int .i64 p.kind, .int .i64 p.src, .int .i64 p.dst, .int .i64 p.ident] 61)) := bw5.alloc bw5.size _
    have hN6 := heap_alloc_new w5 (.cells #[.int .i64 p.kind, .int .i64 p.src, .int .i64 p.dst, .int .i64 p.ident] 61)
    obtain ⟨nb, hnb⟩ : ∃ nb, nb = w5.heap.size := ⟨_, rfl⟩
    have hnb5 : wc.heap.size ≤ nb := by rw [hnb]; exact bw5.size
    have hs6 : nb < (w5.alloc (.cells #[.int .i64 p.kind, .int .i64 p.src, .int .i64 p.dst, .int .i64 p.ident] 61)).heap.size := by rw [hnb]; simp
    rw [← hnb] at hN6 ⊢
    obtain ⟨w6, hw6⟩ : ∃ w6, w5.alloc (.cells #[.int .i64 p.kind, .int .i64 p.src, .int .i64 p.dst, .int .i64 p.ident] 61) = w6 := ⟨_, rfl⟩
    rw [hw6] at bw6 hN6 hs6 ⊢
    have n0 : w6.cell? ⟨nb, 0, none⟩ = some (.int .i64 p.kind) := by rw [cell_of_row w6 nb 0 _ _ _ hN6]; rfl
    have n1 : w6.cell? ⟨nb, 1, none⟩ = some (.int .i64 p.src) := by rw [cell_of_row w6 nb 1 _ _ _ hN6]; rfl
    have n2 : w6.cell? ⟨nb, 2, none⟩ = some (.int .i64 p.dst) := by rw [cell_of_row w6 nb 2 _ _ _ hN6]; rfl
    have n3 : w6.cell? ⟨nb, 3, none⟩ = some (.int .i64 p.ident) := by rw [cell_of_row w6 nb 3 _ _ _ hN6]; rfl
    have hF6 : ∀ k, F k → k < w6.heap.size := fun k hk => by have := hF k hk; have := bw6.size; omega
    have hin6 := HIN.out.below (fun k hk => by have := hF k hk; omega) bw6
    have hZ6 := hZ4.below hZ4.lt bw6
    have hp6 := hp4.below hp4.lt bw6
    have tr6 := HT0.out.trans (Turn.of_below bw6 F)
    clear hnm hw6 hnb bw5 x0 x1 x2 x3 x4 x5 x6 x7 hp4 hZ4
    rw [HLE.out] at HBW HBF
    have hfd := find_ok F pb mb (tickS s now) gs (nmOf p) now w6 hin6 hF6 hnok hnow hx hbd
    unfold ptrV nmV at hfd
    rw [show (nmOf p).kind = p.kind from rfl, show (nmOf p).src = p.src from rfl, show (nmOf p).dst = p.dst from rfl, show (nmOf p).ident = p.ident from rfl] at hfd
    go_upto_region 14 with (go_at_call 22; refine hfd.mono ?_; rintro e w7 ⟨g, g1, g2, s', rfl, hfo⟩)
    have tr7 : Turn F w w7 := tr6.trans hfo.turn
    have hp7 := hp6.turn hfo.turn hnf0
    have hZ7 := hZ6.turn hfo.turn hnf1
    have hbt7 : Bytes w7 (.slice a L c) p.body := HBW.out.turn tr7 HBF.out
    have hs67 := hfo.turn.size
    have hs26 : w.heap.size + 2 ≤ w6.heap.size := by have := bw6.size; omega
    have hG7 : ∀ k, Plus F w6 w7 k → k < w7.heap.size := fun k hk => by
      rcases hk with h | h
      · have := hF6 k h; omega
      · exact h.2
    have hgm : g ∈ g1 ++ g :: g2 := List.mem_append_right _ List.mem_cons_self
    have hgb : g.h.bad = false := by rw [hfo.grp]; exact hbd
    have hgd : GoodP g.h.all := (hfo.pool.ok.each g.h (by rw [← hfo.pool.list]; exact List.mem_map.2 ⟨g, hgm, rfl⟩)).good
    have hwg : wrongB g.h.all p = true := by rw [hfo.grp]; exact hwr
    obtain ⟨q1, q2⟩ := hfo.pool.fgs g hgm
    obtain ⟨q2, q3⟩ := q2 hgb
    have hft := fits_any g p (.slice a L c) w7 (hfo.pool.each g hgm) hgb hgd ⟨hG7 _ q1, hG7 _ q2, fun v hv k hk => hG7 _ (q3 v hv k hk)⟩ hbt7 HE.out
    rw [hwg, show (!true) = false from rfl] at hft
    unfold ptrV pkV at hft
    have HFO : Hid (Found F pb mb (tickS s now) (nmOf p) now w6 w7 g g1 g2 s') := hfo
    have HGB : Hid (g.h.bad = false) := hgb
    have HGD : Hid (GoodP g.h.all) := hgd
    have HWG : Hid (wrongB g.h.all p = true) := hwg
    have HN6 : Hid (w6.heap[nb]? = some (.cells #[.int .i64 p.kind, .int .i64 p.src, .int .i64 p.dst, .int .i64 p.ident] 61 (0, 0))) := hN6
    have HT7 : Hid (Turn F w w7) := tr7
    obtain ⟨x0, x1, x2, x3, x4, x5, x6, x7⟩ := hp7.cells
    clear hfd hfo hgb hgd hwg tr7 tr6 hin6 hp6 hZ6 n0 n1 n2 n3 hN6 hx hbd hwr
    go_upto_region 15 with (go_at_call 23; refine hft.mono ?_; rintro e w8 ⟨rfl, hg8⟩)
    have bw8 : Below w7.heap.size w7 w8 := ⟨hg8.os, hg8.tape, hg8.output, hg8.size, fun k hk => hg8.block k hk (by simp)⟩
    have pool8 := HFO.out.pool.below hG7 bw8
    have hp8 := hp7.below hp7.lt bw8
    have hZ8 := hZ7.below hZ7.lt bw8
    have hbt8 := hbt7.below (Nat.le_refl _) bw8
    have hnF : ¬ F nb := fun hf => by have := hF nb hf; omega
    have hN8 : w8.heap[nb]? = some (.cells #[.int .i64 p.kind, .int .i64 p.src, .int .i64 p.dst, .int .i64 p.ident] 61 (0, 0)) := ((bw8.block nb (by omega)).trans (HFO.out.turn.block nb hs6 hnF)).trans HN6.out
    have hgb0 := began_cell (pool8.each g hgm)
    have hS8 : w8.cell? ⟨pb, 2, none⟩ = some (.map (some mb)) ∧ w8.cell? ⟨nb, 0, none⟩ = some (.int .i64 p.kind) ∧ w8.cell? ⟨nb, 1, none⟩ = some (.int .i64 p.src) ∧ w8.cell? ⟨nb, 2, none⟩ = some (.int .i64 p.dst) ∧ w8.cell? ⟨nb, 3, none⟩ = some (.int .i64 p.ident) ∧ w8.cell? ⟨g.b, 0, none⟩ = some (.int .i64 g.h.began) := by
      refine ⟨?_, ?_, ?_, ?_, ?_, hgb0⟩
      · rw [cell_of_row w8 pb 2 _ _ _ pool8.pool]; rfl
      · rw [cell_of_row w8 nb 0 _ _ _ hN8]; rfl
      · rw [cell_of_row w8 nb 1 _ _ _ hN8]; rfl
      · rw [cell_of_row w8 nb 2 _ _ _ hN8]; rfl
      · rw [cell_of_row w8 nb 3 _ _ _ hN8]; rfl
    have hnb8 := heap_lt hN8
    have hpb8 := heap_lt pool8.pool
    have hgb8 : g.b < w8.heap.size := by have := hG7 _ q1; have := bw8.size; omega
    have b9 : Below w8.heap.size w8 (w8.alloc (.cells #[.int .i64 g.h.began, .bool true, .map none, .int .i64 0, .int .i64 0, .int .i64 0, .int .i64 0] 65)) := (Below.refl _ _).alloc (Nat.le_refl _) _
    have hS9 : (w8.alloc (.cells #[.int .i64 g.h.began, .bool true, .map none, .int .i64 0, .int .i64 0, .int .i64 0, .int .i64 0] 65)).drew.cell? ⟨pb, 2, none⟩ = some (.map (some mb)) ∧ (w8.alloc (.cells #[.int .i64 g.h.began, .bool true, .map none, .int .i64 0, .int .i64 0, .int .i64 0, .int .i64 0] 65)).drew.cell? ⟨nb, 0, none⟩ = some (.int .i64 p.kind) ∧ (w8.alloc (.cells #[.int .i64 g.h.began, .bool true, .map none, .int .i64 0, .int .i64 0, .int .i64 0, .int .i64 0] 65)).drew.cell? ⟨nb, 1, none⟩ = some (.int .i64 p.src) ∧ (w8.alloc (.cells #[.int .i64 g.h.began, .bool true, .map none, .int .i64 0, .int .i64 0, .int .i64 0, .int .i64 0] 65)).drew.cell? ⟨nb, 2, none⟩ = some (.int .i64 p.dst) ∧ (w8.alloc (.cells #[.int .i64 g.h.began, .bool true, .map none, .int .i64 0, .int .i64 0, .int .i64 0, .int .i64 0] 65)).drew.cell? ⟨nb, 3, none⟩ = some (.int .i64 p.ident) ∧ (w8.alloc (.cells #[.int .i64 g.h.began, .bool true, .map none, .int .i64 0, .int .i64 0, .int .i64 0, .int .i64 0] 65)).drew.cell? ⟨g.b, 0, none⟩ = some (.int .i64 g.h.began) := ⟨(b9.cell (p := ⟨pb, 2, none⟩) hpb8).trans hS8.1, (b9.cell (p := ⟨nb, 0, none⟩) hnb8).trans hS8.2.1, (b9.cell (p := ⟨nb, 1, none⟩) hnb8).trans hS8.2.2.1, (b9.cell (p := ⟨nb, 2, none⟩) hnb8).trans hS8.2.2.2.1, (b9.cell (p := ⟨nb, 3, none⟩) hnb8).trans hS8.2.2.2.2.1, (b9.cell (p := ⟨g.b, 0, none⟩) hgb8).trans hS8.2.2.2.2.2⟩
    have hm9 : MapIs Tryd.prog 61 (w8.alloc (.cells #[.int .i64 g.h.began, .bool true, .map none, .int .i64 0, .int .i64 0, .int .i64 0, .int .i64 0] 65)).drew mb (grpsL (g1 ++ g :: g2)) := pool8.map.block (b9.block mb pool8.map.lt)
    have hfew : (grpsL (g1 ++ g :: g2)).length < maxLen := by
      have h1 := pool8.ok.few
      rw [← pool8.list, List.length_map] at h1
      rw [len_grps]; unfold maxLen; omega
    obtain ⟨w10, hrun, hm10, hg10⟩ := hm9.store lawN Tryd.underlying49 hfew (keyN hnok) (.pointer (some ⟨w8.heap.size, 0, none⟩))
    unfold nmV at hrun
    rw [show (nmOf p).kind = p.kind from rfl, show (nmOf p).src = p.src from rfl, show (nmOf p).dst = p.dst from rfl, show (nmOf p).ident = p.ident from rfl] at hrun
    have HBC : Hid ((w8.alloc (.cells #[.int .i64 g.h.began, .bool true, .map none, .int .i64 0, .int .i64 0, .int .i64 0, .int .i64 0] 65)).heap[w8.heap.size]? = some (.cells #[.int .i64 g.h.began, .bool true, .map none, .int .i64 0, .int .i64 0, .int .i64 0, .int .i64 0] 65 (0, 0))) := heap_alloc_new w8 _
    have HPO : Hid (PoolIn w8 (Plus F w6 w7) pb s' mb (g1 ++ g :: g2)) := pool8
    have HBW8 : Hid (Below w7.heap.size w7 w8) := bw8
    have HM10 : Hid (MapIs Tryd.prog 61 w10 mb ((litN (nmOf p), .pointer (some ⟨w8.heap.size, 0, none⟩)) :: (grpsL (g1 ++ g :: g2)).filter fun x => !x.1.sameKey (litN (nmOf p)))) := hm10
    have HG10 : Hid ((w8.alloc (.cells #[.int .i64 g.h.began, .bool true, .map none, .int .i64 0, .int .i64 0, .int .i64 0, .int .i64 0] 65)).drew.grownBy w10 (some mb)) := hg10
    have HZ8 : Hid (PkAt w8 (w.heap.size + 1) zeroK (.slice none 0 0)) := hZ8
    have hs78 := bw8.size
    obtain ⟨gc, hgc⟩ := grp_kind (pool8.each g hgm)
    have hgbB : g.b ≠ mb := map_no_cells pool8.map hgc
    have hnbB : nb ≠ mb := map_no_cells pool8.map hN8
    have hpbB : pb ≠ mb := map_no_cells pool8.map pool8.pool
    have hB1B : w.heap.size + 1 ≠ mb := map_no_cells pool8.map hZ8
    have hmb8 := pool8.map.lt
    have hsA : (w8.alloc (.cells #[.int .i64 g.h.began, .bool true, .map none, .int .i64 0, .int .i64 0, .int .i64 0, .int .i64 0] 65)).drew.heap.size = w8.heap.size + 1 := by show (w8.alloc (.cells #[.int .i64 g.h.began, .bool true, .map none, .int .i64 0, .int .i64 0, .int .i64 0, .int .i64 0] 65)).heap.size = _; simp
    have keep10 : ∀ k, k < w8.heap.size + 1 → k ≠ mb → w10.heap[k]? = (w8.alloc (.cells #[.int .i64 g.h.began, .bool true, .map none, .int .i64 0, .int .i64 0, .int .i64 0, .int .i64 0] 65)).heap[k]? := fun k hk hne => hg10.block k (by rw [hsA]; exact hk) (by simpa using hne)
    have cell10 : ∀ (q j : Nat) (u : Value), q < w8.heap.size → q ≠ mb → (w8.alloc (.cells #[.int .i64 g.h.began, .bool true, .map none, .int .i64 0, .int .i64 0, .int .i64 0, .int .i64 0] 65)).drew.cell? ⟨q, j, none⟩ = some u → w10.cell? ⟨q, j, none⟩ = some u := fun q j u h1 h2 h3 => by
      rw [World.cell?_of_block (w := w8.alloc (.cells #[.int .i64 g.h.began, .bool true, .map none, .int .i64 0, .int .i64 0, .int .i64 0, .int .i64 0] 65)) (keep10 q (by omega) h2)]; exact h3
    have hS10 : w10.cell? ⟨pb, 2, none⟩ = some (.map (some mb)) ∧ w10.cell? ⟨nb, 0, none⟩ = some (.int .i64 p.kind) ∧ w10.cell? ⟨nb, 1, none⟩ = some (.int .i64 p.src) ∧ w10.cell? ⟨nb, 2, none⟩ = some (.int .i64 p.dst) ∧ w10.cell? ⟨nb, 3, none⟩ = some (.int .i64 p.ident) ∧ w10.cell? ⟨g.b, 0, none⟩ = some (.int .i64 g.h.began) := ⟨cell10 _ _ _ hpb8 hpbB hS9.1, cell10 _ _ _ hnb8 hnbB hS9.2.1, cell10 _ _ _ hnb8 hnbB hS9.2.2.1, cell10 _ _ _ hnb8 hnbB hS9.2.2.2.1, cell10 _ _ _ hnb8 hnbB hS9.2.2.2.2.1, cell10 _ _ _ hgb8 hgbB hS9.2.2.2.2.2⟩
    have hB18 := hZ8.lt
    have hZ10 : PkAt w10 (w.heap.size + 1) zeroK (.slice none 0 0) := (keep10 _ (by omega) hB1B).trans ((b9.block _ hB18).trans hZ8)
    have HK10 : Hid (∀ k, k < w8.heap.size + 1 → k ≠ mb → w10.heap[k]? = (w8.alloc (.cells #[.int .i64 g.h.began, .bool true, .map none, .int .i64 0, .int .i64 0, .int .i64 0, .int .i64 0] 65)).heap[k]?) := keep10
    have HB9 : Hid (Below w8.heap.size w8 (w8.alloc (.cells #[.int .i64 g.h.began, .bool true, .map none, .int .i64 0, .int .i64 0, .int .i64 0, .int .i64 0] 65))) := b9
    have HSA : Hid ((w8.alloc (.cells #[.int .i64 g.h.began, .bool true, .map none, .int .i64 0, .int .i64 0, .int .i64 0, .int .i64 0] 65)).drew.heap.size = w8.heap.size + 1) := hsA
    clear hft hp7 hZ7 hbt7 hg8 hm9 hm10 pool8 hp8 hZ8 hN8 hbt8 x0 x1 x2 x3 x4 x5 x6 x7 hg10 hfew hgb0 keep10 cell10 hsA hgc b9
    go_region_held3 (fun X => X.cell? ⟨pb, 2, none⟩ = some (.map (some mb)) ∧ X.cell? ⟨nb, 0, none⟩ = some (.int .i64 p.kind) ∧ X.cell? ⟨nb, 1, none⟩ = some (.int .i64 p.src) ∧ X.cell? ⟨nb, 2, none⟩ = some (.int .i64 p.dst) ∧ X.cell? ⟨nb, 3, none⟩ = some (.int .i64 p.ident) ∧ X.cell? ⟨g.b, 0, none⟩ = some (.int .i64 g.h.began)) (with_reducible first | assumption | go_keep) (fail)
    have HFI : Hid (∀ w11, Only (w.heap.size + 1) w10 w11 → Adds F pb s p now w (.returned (.tuple #[.agg #[.int .i64 0, .int .i64 0, .int .i64 0, .int .i64 0, .int .i64 0, .int .i64 0, .bool false, .slice none 0 0], .bool false, .iface 48 (.int .i64 3)])) w11) := by
      intro w11 o11
      have hsz10 := HG10.out.size
      rw [HSA.out] at hsz10
      have hs11 : w11.heap.size = w10.heap.size := o11.size
      have hPP : ∀ k, Plus F w6 w7 k → Plus F w w11 k := fun k hk => by
        rcases hk with h | h
        · exact .inl h
        · exact .inr ⟨by omega, by omega⟩
      have hB1 : ∀ k, Plus F w6 w7 k → k ≠ w.heap.size + 1 := fun k hk e => by
        rcases hk with h | h
        · exact hnf1 (e ▸ h)
        · omega
      have hnm : g.h.name = nmOf p := by rw [HFO.out.grp]; exact orNew_name
      have hm11 : MapIs Tryd.prog 61 w11 mb (grpsL (g1 ++ badGb g w8.heap.size :: g2)) := by
        have ha := HPO.out.ok.apart
        rw [← HPO.out.list] at ha
        have h1 := HM10.out
        rw [← hnm, grps_del HPO.out.names ha] at h1
        have e : grpsL (g1 ++ badGb g w8.heap.size :: g2) = grpsL g1 ++ (litN g.h.name, ptrV w8.heap.size) :: grpsL g2 := by simp only [grpsL, badGb, List.map_append, List.map_cons]
        have e' : grpsL (g1 ++ g2) = grpsL g1 ++ grpsL g2 := by simp only [grpsL, List.map_append]
        rw [e'] at h1
        rw [e]
        have h2 : MapIs Tryd.prog 61 w10 mb ((litN g.h.name, ptrV w8.heap.size) :: (grpsL g1 ++ grpsL g2)) := h1
        exact (h2.perm List.perm_middle.symm).block (o11.block mb (Ne.symm hB1B))
      have gp11 : GrpAt w11 (badGb g w8.heap.size) := by
        refine ⟨fun _ => ?_, fun hc => (by cases hc), fun hc => (by cases hc), fun hc => (by cases hc), fun hc => (by cases hc)⟩
        show w11.heap[w8.heap.size]? = _
        rw [o11.block _ (by omega), HK10.out _ (by omega) (by omega), HBC.out]; rfl
      have hsw := HPO.out.swap (g' := badGb g w8.heap.size) (G := Plus F w w11) (w' := w11) hPP (fun k hk => by have := hG7 k hk; omega) (fun k hk h1 h2 h3 => by
          have hk7 := hG7 k hk
          rw [o11.block k (hB1 k hk), HK10.out k (by omega) h1]
          exact HB9.out.block k (by omega)) hm11 rfl rfl gp11 ⟨GoodP.nil, fun _ => rfl, fun y hy => (by cases hy)⟩
        ⟨.inr ⟨by show _ ≤ w8.heap.size; omega, by show w8.heap.size < _; omega⟩, fun hc => (by cases hc)⟩ (.inr (Nat.le_refl _)) (fun hc => (by cases hc))
      have ea := addA_wrong (s := s) (now := now) HE.out HTE.out HNW.out HXX.out HFO.out.grp HGB.out HWG.out
      rw [HFO.out.set _ (by show g.h.name = nmOf p; exact hnm)] at ea
      have hst : ({ tickS s now with l := g1.map Gb.h ++ { g.h with bad := true, all := [] } :: g2.map Gb.h } : Po) = { s' with l := (g1 ++ badGb g w8.heap.size :: g2).map Gb.h } := by
        have e1 := HFO.out.life
        have e2 := HFO.out.time
        rw [List.map_append, List.map_cons]
        show (⟨_, _, _⟩ : Po) = ⟨_, _, _⟩
        rw [e1, e2]; rfl
      refine adds_no (by decide) (by rw [ea]) (by rw [ea]; show PoolAt w11 (Plus F w w11) pb { tickS s now with l := g1.map Gb.h ++ { g.h with bad := true, all := [] } :: g2.map Gb.h }; rw [hst]; exact ⟨mb, _, hsw⟩) ?_
      have hfm : F mb := by
        rcases HPO.out.fmb with h | h
        · exact h
        · exfalso; have := hF mb HIN.out.fmb; omega
      have t8 := HT7.out.trans (Turn.of_below HBW8.out F)
      have t9 := ((t8.trans (Turn.of_below HB9.out F)).drewN 1).trans (Turn.of_grown HG10.out (fun g e => by cases e; exact hfm))
      exact t9.andThen (Turn.of_only (F := fun k => k = w.heap.size + 1) o11 rfl) (fun i hi => .inr (by omega))
    obtain ⟨z0, z1, z2, z3, z4, z5, z6, z7⟩ := hZ10.cells
    have f0 := hZ10.free 0
    have f1 := hZ10.free 1
    have f2 := hZ10.free 2
    have f3 := hZ10.free 3
    have f4 := hZ10.free 4
    have f5 := hZ10.free 5
    have f6 := hZ10.free 6
    have f7 := hZ10.free 7
    clear hS8 hS9 hS10 hrun
    go_wp2_with fail
    obtain ⟨w11, hw11, hp11, o11⟩ := hZ10.store 0 0 0 0 0 0 false (.slice none 0 0)
    rw [hw11]
    obtain ⟨r0, r1, r2, r3, r4, r5, r6, r7⟩ := hp11.cells
    simp only at r0 r1 r2 r3 r4 r5 r6 r7
    exact bodyPost_ret (v := .tuple #[.agg #[.int .i64 0, .int .i64 0, .int .i64 0, .int .i64 0, .int .i64 0, .int .i64 0, .bool false, .slice none 0 0], .bool false, .iface 48 (.int .i64 3)]) (by simp [results, Tryd.results9, go_sem, r0, r1, r2, r3, r4, r5, r6, r7]) rfl (HFI.out w11 o11)
theorem poolAdd_any (F : Nat → Prop) (pb : Nat) (s : Po) (p : Pk) (bv : Value) (now : Int) (w : World) (hP : PoolAt w F pb s) (hF : ∀ k, F k → k < w.heap.size) (hb : Bytes w bv p.body) (hbF : ∀ b off len cap, bv = .slice (some ⟨b, off, none⟩) len cap → 0 < len → ¬ F b) :
    Calls Tryd.prog 9 #[ptrV pb, pkV p bv, .int .i64 now] w (Adds F pb s p now w) := by
  by_cases he : pkErr p = 0
  · by_cases ht : tickE s now = 0
    · by_cases hw : p.pos = 0 ∧ p.more = false
      · exact add_whole F pb s p bv now w hP hF hb hbF he ht hw
      · by_cases hx : getH (tickS s now).l (nmOf p) = none ∧ 8 ≤ (tickS s now).l.length
        · exact add_full F pb s p bv now w hP hF hb he ht hw hx.1 hx.2
        · rcases hbd : (orNew (getH (tickS s now).l (nmOf p)) (nmOf p) now).bad with _ | _
          · rcases hwr : wrongB (orNew (getH (tickS s now).l (nmOf p)) (nmOf p) now).all p with _ | _
            · by_cases hdn : heldN ((orNew (getH (tickS s now).l (nmOf p)) (nmOf p) now).all ++ [p]) = finN ((orNew (getH (tickS s now).l (nmOf p)) (nmOf p) now).all ++ [p])
              · exact add_done F pb s p bv now w hP hF hb hbF he ht hw hx hbd hwr hdn
              · exact add_kept F pb s p bv now w hP hF hb hbF he ht hw hx hbd hwr hdn
            · exact add_wrong F pb s p bv now w hP hF hb hbF he ht hw hx hbd hwr
          · rcases hg : getH (tickS s now).l (nmOf p) with _ | y
            · rw [hg] at hbd; cases hbd
            · rw [hg] at hbd
              exact add_bad F pb s p bv now w hP hF hb he ht hw y hg hbd
    · exact add_time F pb s p bv now w hP hF hb he ht
  · exact add_err F pb s p bv now w hP hF hb he
end Go.Proofs.YtgodjaffmojhlaaDoor
