/- What Add of package frag answers of the piece that lacked: the packet. -/
import Derived.Test.YtgodjaffmojhlaaDoorPoolAdd4
namespace Go.Proofs.YtgodjaffmojhlaaDoor
open Go.RowKit Go.Maps
set_option linter.unusedVariables false

theorem addA_done {s : Po} {x : Pk} {now : Int} {y : Hp} (h : pkErr x = 0) (h2 : tickE s now = 0) (h3 : ¬ (x.pos = 0 ∧ x.more = false)) (h4 : ¬ (getH (tickS s now).l (nmOf x) = none ∧ 8 ≤ (tickS s now).l.length)) (hy : y = orNew (getH (tickS s now).l (nmOf x)) (nmOf x) now) (h5 : y.bad = false) (h6 : wrongB y.all x = false) (h7 : heldN (y.all ++ [x]) = finN (y.all ++ [x])) :
    addA s x now = ({ tickS s now with l := delH (tickS s now).l (nmOf x) }, madeP x (y.all ++ [x]), true, 0) := by
  have hn : y.name = nmOf x := by rw [hy]; exact orNew_name
  rw [addA_h h h2 h3 h4, ← hy]
  unfold addH
  rw [h5, h6]
  simp only [Bool.false_eq_true, if_false]
  rw [if_pos h7, hn]
set_option maxRecDepth 100000 in
theorem grps_del {g1 g2 : List Gb} {g : Gb} (hn : ∀ q ∈ g1 ++ g :: g2, NmOk q.h.name) (ha : ((g1 ++ g :: g2).map Gb.h).Pairwise (fun a b => a.name ≠ b.name)) : (grpsL (g1 ++ g :: g2)).filter (fun x => !x.1.sameKey (litN g.h.name)) = grpsL (g1 ++ g2) := by
  have hgm : g ∈ g1 ++ g :: g2 := List.mem_append_right _ List.mem_cons_self
  rw [List.pairwise_map, List.pairwise_append, List.pairwise_cons] at ha
  have hkey := keyN (hn g hgm)
  have hks : WideAt.IsKeyLit (litN g.h.name) := lawN.key hkey
  have hs : (litN g.h.name).sameKey (litN g.h.name) = true := WideAt.sameKey_self hks
  have out : ∀ q ∈ g1 ++ g :: g2, q.h.name ≠ g.h.name → (!(litN q.h.name).sameKey (litN g.h.name)) = true := by
    intro q hq hne
    rw [Bool.not_eq_true', ← Bool.not_eq_true]
    intro hc
    exact hne (litN_inj (hn q hq) (hn g hgm) (WideAt.sameKey_eq hc))
  have e : grpsL (g1 ++ g :: g2) = grpsL g1 ++ (litN g.h.name, ptrV g.b) :: grpsL g2 := by simp only [grpsL, List.map_append, List.map_cons]
  have e' : grpsL (g1 ++ g2) = grpsL g1 ++ grpsL g2 := by simp only [grpsL, List.map_append]
  rw [e, e', List.filter_append, List.filter_cons_of_neg (by simp [hs])]
  have f1 : (grpsL g1).filter (fun x => !x.1.sameKey (litN g.h.name)) = grpsL g1 := List.filter_eq_self.2 (fun x hx => by
    obtain ⟨q, hq, rfl⟩ := List.mem_map.1 hx
    exact out q (List.mem_append_left _ hq) (ha.2.2 q hq g List.mem_cons_self))
  have f2 : (grpsL g2).filter (fun x => !x.1.sameKey (litN g.h.name)) = grpsL g2 := List.filter_eq_self.2 (fun x hx => by
    obtain ⟨q, hq, rfl⟩ := List.mem_map.1 hx
    exact out q (List.mem_append_right _ (List.mem_cons_of_mem _ hq)) (fun h => ha.2.1.1 q hq h.symm))
  rw [f1, f2]
set_option maxRecDepth 100000 in
set_option maxHeartbeats 8000000 in
theorem add_done (F : Nat → Prop) (pb : Nat) (s : Po) (p : Pk) (bv : Value) (now : Int) (w : World) (hP : PoolAt w F pb s) (hF : ∀ k, F k → k < w.heap.size) (hb : Bytes w bv p.body) (hbF : ∀ b off len cap, bv = .slice (some ⟨b, off, none⟩) len cap → 0 < len → ¬ F b) (he : pkErr p = 0) (ht : tickE s now = 0) (hnw : ¬ (p.pos = 0 ∧ p.more = false))
    (hx : ¬ (getH (tickS s now).l (nmOf p) = none ∧ 8 ≤ (tickS s now).l.length)) (hbd : (orNew (getH (tickS s now).l (nmOf p)) (nmOf p) now).bad = false) (hwr : wrongB (orNew (getH (tickS s now).l (nmOf p)) (nmOf p) now).all p = false)
    (hdn : heldN ((orNew (getH (tickS s now).l (nmOf p)) (nmOf p) now).all ++ [p]) = finN ((orNew (getH (tickS s now).l (nmOf p)) (nmOf p) now).all ++ [p])) :
    Calls Tryd.prog 9 #[ptrV pb, pkV p bv, .int .i64 now] w (Adds F pb s p now w) := by
  have HNW : Hid (¬ (p.pos = 0 ∧ p.more = false)) := hnw
  have HXX : Hid (¬ (getH (tickS s now).l (nmOf p) = none ∧ 8 ≤ (tickS s now).l.length)) := hx
  have hnok := nmOk_of he
  have HBW : Hid (Bytes w bv p.body) := hb
  have HBF : Hid (∀ b off len cap, bv = .slice (some ⟨b, off, none⟩) len cap → 0 < len → ¬ F b) := hbF
  have hpos := (of_pkIn (pkErr_ok he).1).2.2.2.2.2
  have hL4 := (pkErr_ok he).2
  have hnow : 0 ≤ now ∧ now ≤ 1000000 := by
    have h1 := ht
    unfold tickE at h1
    split at h1
    · cases h1
    · omega
  clear hnw hbF
  obtain ⟨mb0, gs0, hin0⟩ := hP
  have hbx := add_boxes hin0 hF p bv hb
  obtain ⟨a, c, hbv⟩ := len_body hb
  subst hbv
  obtain ⟨L, hLe⟩ : ∃ L, p.body.length = L := ⟨_, rfl⟩
  have HLE : Hid (p.body.length = L) := hLe
  rw [hLe] at hbx ⊢
  obtain ⟨B2, hp2, hz2, hin2, hb2, hs2⟩ := hbx
  have HE : Hid (pkErr p = 0) := he
  have HTE : Hid (tickE s now = 0) := ht
  have hnf0 : ¬ F w.heap.size := fun hf => by have := hF _ hf; omega
  have hnf1 : ¬ F (w.heap.size + 1) := fun hf => by have := hF _ hf; omega
  unfold ptrV pkV
  clear hb hLe hin0 ht
  go_enter Tryd.func9, Tryd.ntmps9
  go_upto_region 1 with fail
  obtain ⟨W2, hW2⟩ : ∃ W2, ((w.alloc (.cells #[.int .i64 p.kind, .int .i64 p.ttl, .int .i64 p.ident, .int .i64 p.src, .int .i64 p.dst, .int .i64 p.pos, .bool p.more, .slice a L c] 40)).alloc (.cells #[.int .i64 0, .int .i64 0, .int .i64 0, .int .i64 0, .int .i64 0, .int .i64 0, .bool false, .slice none 0 0] 40)) = W2 := ⟨_, rfl⟩
  rw [hW2] at B2 hp2 hz2 hin2 hb2 hs2 ⊢
  have hck := check_any p (.slice a L c) W2 hb2
  rw [he, show errV 0 = .nilIface from rfl] at hck
  unfold pkV at hck
  obtain ⟨x0, x1, x2, x3, x4, x5, x6, x7⟩ := hp2.cells
  have HIN : Hid (PoolIn W2 F pb s mb0 gs0) := hin2
  clear hW2 hin2 he
  go_upto_region 4 with (go_at_call 19; refine hck.mono ?_; rintro e w3 ⟨rfl, bw3⟩)
  have hp3 := hp2.below hp2.lt bw3
  have hz3 := hz2.below hz2.lt bw3
  have hb3 := hb2.below (Nat.le_refl _) bw3
  have bel3 := B2.trans (bw3.mono B2.size)
  have hs3 : w.heap.size + 2 ≤ w3.heap.size := by have := bw3.size; omega
  have hin3 := HIN.out.below (fun k hk => by have := hF k hk; omega) bw3
  have htk := tick_any F pb s now w3 ⟨mb0, gs0, hin3⟩ (fun k hk => by have := hF k hk; omega)
  unfold Ticks at htk
  rw [HTE.out, show errV 0 = .nilIface from rfl] at htk
  unfold ptrV at htk
  clear hck hp2 hz2 hb2 x0 x1 x2 x3 x4 x5 x6 x7 HIN bw3 hin3 B2 hs2
  generalize hN : ((s.l.length : Int) - ((tickS s now).l.length : Int)) = N at htk
  clear hN
  go_upto_region 7 with (go_at_call 7; refine htk.mono ?_; rintro e w4 ⟨rfl, hP4, tr4⟩)
  have hp4 := hp3.turn tr4 hnf0
  have hZ4 := hz3.turn tr4 hnf1
  have tr0 := (Turn.of_below bel3 F).trans tr4
  have hs4 : w.heap.size + 2 ≤ w4.heap.size := Nat.le_trans hs3 tr4.size
  have HP4 : Hid (PoolAt w4 F pb (tickS s now)) := hP4
  have HT0 : Hid (Turn F w w4) := tr0
  clear htk hp3 hz3 hb3 tr4 bel3 tr0 hP4 hs3
  go_cut [37] (fun x ww => x = .bool false ∧ ww = w4)
  case first =>
    obtain ⟨_, _, _, _, _, x5, x6, _⟩ := hp4.cells
    by_cases h0 : p.pos = 0
    · have hm : p.more = true := by
        rcases hm : p.more with _ | _
        · exact absurd ⟨h0, hm⟩ HNW.out
        · rfl
      rw [h0] at x5
      rw [hm] at x6
      clear h0 hm
      go_wp2_with fail
      go_meet
      case rel => exact ⟨rfl, rfl⟩
    · have e0 : (p.pos == 0) = false := by rw [beq_eq_false_iff_ne]; exact h0
      go_wp2_with fail
      go_meet
      case rel => exact ⟨rfl, rfl⟩
  case rest =>
    obtain ⟨hx, hy⟩ := hcut
    subst hx hy
    obtain ⟨mb, gs, hin4⟩ := HP4.out
    obtain ⟨x0, x1, x2, x3, x4, x5, x6, x7⟩ := hp4.cells
    have hnm := nameOf_any p a L c wc
    unfold pkV nmV nmOf at hnm
    simp only at hnm
    have HIN : Hid (PoolIn wc F pb (tickS s now) mb gs) := hin4
    clear hin4
    go_upto_region 11 with (go_at_call 21; refine hnm.mono ?_; rintro e w5 ⟨rfl, bw5⟩)
    have bw6 : Below wc.heap.size wc (w5.alloc (.cells #[.int .i64 p.kind, .int .i64 p.src, .int .i64 p.dst, .int .i64 p.ident] 61)) := bw5.alloc bw5.size _
    have hN6 := heap_alloc_new w5 (.cells #[.int .i64 p.kind, .int .i64 p.src, .int .i64 p.dst, .int .i64 p.ident] 61)
    obtain ⟨nb, hnb⟩ : ∃ nb, nb = w5.heap.size := ⟨_, rfl⟩
    have hnb5 : wc.heap.size ≤ nb := by rw [hnb]; exact bw5.size
    have hs6 : nb < (w5.alloc (.cells #[.int .i64 p.kind, .int .i64 p.src, .int .i64 p.dst, .int .i64 p.ident] 61)).heap.size := by rw [hnb]; simp
    rw [← hnb] at hN6 ⊢
    obtain ⟨w6, hw6⟩ : ∃ w6, w5.alloc (.cells #[.int .i64 p.kind, .int .i64 p.src, .int .i64 p.dst, .int .i64 p.ident] 61) = w6 := ⟨_, rfl⟩
    rw [hw6] at bw6 hN6 hs6 ⊢
    have n0 : w6.cell? ⟨nb, 0, none⟩ = some (.int .i64 p.kind) := by rw [cell_of_row w6 nb 0 _ _ _ hN6]; rfl
    have n1 : w6.cell? ⟨nb, 1, none⟩ = some (.int .i64 p.src) := by rw [cell_of_row w6 nb 1 _ _ _ hN6]; rfl
    have n2 : w6.cell? ⟨nb, 2, none⟩ = some (.int .i64 p.dst) := by rw [cell_of_row w6 nb 2 _ _ _ hN6]; rfl
    have n3 : w6.cell? ⟨nb, 3, none⟩ = some (.int .i64 p.ident) := by rw [cell_of_row w6 nb 3 _ _ _ hN6]; rfl
    have hF6 : ∀ k, F k → k < w6.heap.size := fun k hk => by have := hF k hk; have := bw6.size; omega
    have hin6 := HIN.out.below (fun k hk => by have := hF k hk; omega) bw6
    have hZ6 := hZ4.below hZ4.lt bw6
    have hp6 := hp4.below hp4.lt bw6
    have tr6 := HT0.out.trans (Turn.of_below bw6 F)
    clear hnm hw6 hnb bw5 x0 x1 x2 x3 x4 x5 x6 x7 hp4 hZ4
    rw [HLE.out] at HBW HBF
    have hfd := find_ok F pb mb (tickS s now) gs (nmOf p) now w6 hin6 hF6 hnok hnow hx hbd
    unfold ptrV nmV at hfd
    rw [show (nmOf p).kind = p.kind from rfl, show (nmOf p).src = p.src from rfl, show (nmOf p).dst = p.dst from rfl, show (nmOf p).ident = p.ident from rfl] at hfd
    go_upto_region 14 with (go_at_call 22; refine hfd.mono ?_; rintro e w7 ⟨g, g1, g2, s', rfl, hfo⟩)
    have tr7 : Turn F w w7 := tr6.trans hfo.turn
    have hp7 := hp6.turn hfo.turn hnf0
    have hZ7 := hZ6.turn hfo.turn hnf1
    have hbt7 : Bytes w7 (.slice a L c) p.body := HBW.out.turn tr7 HBF.out
    have hs67 := hfo.turn.size
    have hs26 : w.heap.size + 2 ≤ w6.heap.size := by have := bw6.size; omega
    have hG7 : ∀ k, Plus F w6 w7 k → k < w7.heap.size := fun k hk => by
      rcases hk with h | h
      · have := hF6 k h; omega
      · exact h.2
    have hgm : g ∈ g1 ++ g :: g2 := List.mem_append_right _ List.mem_cons_self
    have hgb : g.h.bad = false := by rw [hfo.grp]; exact hbd
    have hgd : GoodP g.h.all := (hfo.pool.ok.each g.h (by rw [← hfo.pool.list]; exact List.mem_map.2 ⟨g, hgm, rfl⟩)).good
    have hwg : wrongB g.h.all p = false := by rw [hfo.grp]; exact hwr
    have hdg : heldN (g.h.all ++ [p]) = finN (g.h.all ++ [p]) := by rw [hfo.grp]; exact hdn
    obtain ⟨q1, q2⟩ := hfo.pool.fgs g hgm
    obtain ⟨q2, q3⟩ := q2 hgb
    have hft := fits_any g p (.slice a L c) w7 (hfo.pool.each g hgm) hgb hgd ⟨hG7 _ q1, hG7 _ q2, fun v hv k hk => hG7 _ (q3 v hv k hk)⟩ hbt7 HE.out
    rw [hwg, show (!false) = true from rfl] at hft
    unfold ptrV pkV at hft
    have HFO : Hid (Found F pb mb (tickS s now) (nmOf p) now w6 w7 g g1 g2 s') := hfo
    have HGB : Hid (g.h.bad = false) := hgb
    have HGD : Hid (GoodP g.h.all) := hgd
    have HWG : Hid (wrongB g.h.all p = false) := hwg
    have HDG : Hid (heldN (g.h.all ++ [p]) = finN (g.h.all ++ [p])) := hdg
    have HN6 : Hid (w6.heap[nb]? = some (.cells #[.int .i64 p.kind, .int .i64 p.src, .int .i64 p.dst, .int .i64 p.ident] 61 (0, 0))) := hN6
    have HT7 : Hid (Turn F w w7) := tr7
    obtain ⟨x0, x1, x2, x3, x4, x5, x6, x7⟩ := hp7.cells
    clear hfd hfo hgb hgd hwg hdg tr7 tr6 hin6 hp6 hZ6 n0 n1 n2 n3 hN6 hx hbd hwr hdn
    go_upto_region 17 with (go_at_call 23; refine hft.mono ?_; rintro e w8 ⟨rfl, hg8⟩)
    have bw8 : Below w7.heap.size w7 w8 := ⟨hg8.os, hg8.tape, hg8.output, hg8.size, fun k hk => hg8.block k hk (by simp)⟩
    have pool8 := HFO.out.pool.below hG7 bw8
    have hp8 := hp7.below hp7.lt bw8
    have hZ8 := hZ7.below hZ7.lt bw8
    have hbt8 := hbt7.below (Nat.le_refl _) bw8
    have hk8 : KAt w8 g.b g.h.began g.m (ttlM g.h.all) (heldN g.h.all) (reachN g.h.all) (finN g.h.all) := (pool8.each g hgm).good HGB.out
    obtain ⟨b1, b2, b3⟩ := bounds_kept HGD.out
    have hpl : (pcsL g).length ≤ 4000 := by
      have h1 := len_le_held HGD.out.one
      unfold pcsL; rw [List.length_map, List.length_zip]; omega
    have hgne : g.b ≠ g.m := map_no_cells ((pool8.each g hgm).map HGB.out) hk8
    have hbo : ∀ b off len cap, Value.slice a L c = .slice (some ⟨b, off, none⟩) len cap → 0 < len → b ≠ g.b ∧ b ≠ g.m := by
      intro b off len cap h1 h2
      have hnF := HBF.out b off len cap h1 h2
      have hlt : b < w.heap.size := by
        rcases HBW.out with ⟨h, a', cap', h3, _⟩ | ⟨b', off', len', cap', h3, _, _, _, h4, h5⟩
        · rw [h1] at h3
          simp only [Value.slice.injEq] at h3
          omega
        · rw [h1] at h3
          simp only [Value.slice.injEq, Option.some.injEq, Addr.mk.injEq] at h3
          obtain ⟨⟨rfl, _⟩, rfl, _⟩ := h3
          exact h5.lt (by omega)
      have out : ∀ k, Plus F w6 w7 k → b ≠ k := fun k hk e => by
        rcases hk with h | h
        · exact hnF (e ▸ h)
        · omega
      exact ⟨out _ q1, out _ q2⟩
    have hkp := keep_raw g.b g.m g.h.began (ttlM g.h.all) (heldN g.h.all) (reachN g.h.all) (finN g.h.all) (pcsL g) p (.slice a L c) w8 hk8 ((pool8.each g hgm).map HGB.out) hbt8 hpos hL4 (by omega) (by omega) hpl hgne hbo
    unfold ptrV pkV at hkp
    have HBW8 : Hid (Below w7.heap.size w7 w8) := bw8
    obtain ⟨x0, x1, x2, x3, x4, x5, x6, x7⟩ := hp8.cells
    have hs78 := bw8.size
    clear hft hp7 hZ7 hbt7 hbt8 hg8 hbo hpl hk8
    go_upto_region 18 with (go_at_call 24; refine hkp.mono ?_; rintro e w9 ⟨v, rfl, hk9, hm9, hv9, tr9⟩)
    have gp9 := kept_grp (pool8.each g hgm) HGB.out HGD.out HWG.out hpos.1 hk9 hm9 hv9 tr9
    obtain ⟨_, _, _, k4, _, k6⟩ := grp_cells gp9 HGB.out
    have k4' : w9.cell? ⟨g.b, 4, none⟩ = some (.int .i64 ((heldN (g.h.all ++ [p]) : Nat) : Int)) := k4
    have k6' : w9.cell? ⟨g.b, 6, none⟩ = some (.int .i64 ((finN (g.h.all ++ [p]) : Nat) : Int)) := k6
    rw [← HDG.out] at k6'
    generalize ((heldN (g.h.all ++ [p]) : Nat) : Int) = H1 at k4' k6'
    obtain ⟨gc, hgc⟩ := grp_kind (pool8.each g hgm)
    have hB1b : w.heap.size + 1 ≠ g.b := fun e => by rw [← e] at hgc; have h1 := hZ8; unfold PkAt at h1; rw [h1] at hgc; simp at hgc
    have hB1m : w.heap.size + 1 ≠ g.m := map_no_cells ((pool8.each g hgm).map HGB.out) hZ8
    have hZ9 := hZ8.turn tr9 (fun h => h.elim hB1b hB1m)
    have hnF : ¬ F nb := fun hf => by have := hF nb hf; omega
    have hN8 : w8.heap[nb]? = some (.cells #[.int .i64 p.kind, .int .i64 p.src, .int .i64 p.dst, .int .i64 p.ident] 61 (0, 0)) := ((HBW8.out.block nb (by omega)).trans (HFO.out.turn.block nb hs6 hnF)).trans HN6.out
    have hnbb : nb ≠ g.b := fun e => by rw [e, hgc] at hN8; simp at hN8
    have hnbm : nb ≠ g.m := map_no_cells ((pool8.each g hgm).map HGB.out) hN8
    have hnbB : nb ≠ mb := map_no_cells pool8.map hN8
    have hN9 := (tr9.block nb (heap_lt hN8) (fun h => h.elim hnbb hnbm)).trans hN8
    have hpbb : pb ≠ g.b := fun e => by have h1 := pool8.pool; rw [e, hgc] at h1; simp at h1
    have hpbm : pb ≠ g.m := map_no_cells ((pool8.each g hgm).map HGB.out) pool8.pool
    have hpbB : pb ≠ mb := map_no_cells pool8.map pool8.pool
    have hpb9 := (tr9.block pb (heap_lt pool8.pool) (fun h => h.elim hpbb hpbm)).trans pool8.pool
    have hmbne : mb ≠ g.b ∧ mb ≠ g.m := ⟨(map_no_cells pool8.map hgc).symm, (pool8.mm g hgm HGB.out).symm⟩
    have hm9' : MapIs Tryd.prog 61 w9 mb (grpsL (g1 ++ g :: g2)) := pool8.map.block (tr9.block mb pool8.map.lt (fun h => h.elim hmbne.1 hmbne.2))
    have HK9 : Hid (GrpAt w9 (keptGb g p v)) := gp9
    have HM9 : Hid (MapIs Tryd.prog 61 w9 mb (grpsL (g1 ++ g :: g2))) := hm9'
    have HP8 : Hid (PoolIn w8 (Plus F w6 w7) pb s' mb (g1 ++ g :: g2)) := pool8
    have HT9 : Hid (Turn (fun k => k = g.b ∨ k = g.m) w8 w9) := tr9
    have HV9 : Hid (OwnB w9 w8.heap.size v p.body) := hv9
    have HZ9 : Hid (PkAt w9 (w.heap.size + 1) zeroK (.slice none 0 0)) := hZ9
    have hs89 := tr9.size
    clear hkp pool8 hp8 hZ8 x0 x1 x2 x3 x4 x5 x6 x7 k4 k6 gp9 hk9 hm9 hv9 tr9 hZ9
    go_big_quiet (fail)
    obtain ⟨w10, hw10⟩ : ∃ w10, w9.drewN nq = w10 := ⟨_, rfl⟩
    have heq : ∀ k : Nat, w10.heap[k]? = w9.heap[k]? := fun k => by rw [← hw10]; rfl
    have hsz10 : w10.heap.size = w9.heap.size := by rw [← hw10]; rfl
    have HS10 : Hid (Same w9 w10) := ⟨nq, hw10.symm⟩
    rw [hw10]
    have hmD : MapIs Tryd.prog 61 w10.drew mb (grpsL (g1 ++ g :: g2)) := hm9'.block (heq mb)
    obtain ⟨w12, hrun, hm12, hg12⟩ := hmD.drop lawN Tryd.underlying49 (keyN hnok) 0
    unfold nmV at hrun
    rw [show (nmOf p).kind = p.kind from rfl, show (nmOf p).src = p.src from rfl, show (nmOf p).dst = p.dst from rfl, show (nmOf p).ident = p.ident from rfl] at hrun
    have hN10 := (heq nb).trans hN9
    have hpb10 := (heq pb).trans hpb9
    have c2 : w10.cell? ⟨pb, 2, none⟩ = some (.map (some mb)) := by rw [cell_of_row w10 pb 2 _ _ _ hpb10]; rfl
    have c3 : w10.cell? ⟨nb, 0, none⟩ = some (.int .i64 p.kind) := by rw [cell_of_row w10 nb 0 _ _ _ hN10]; rfl
    have c4 : w10.cell? ⟨nb, 1, none⟩ = some (.int .i64 p.src) := by rw [cell_of_row w10 nb 1 _ _ _ hN10]; rfl
    have c5 : w10.cell? ⟨nb, 2, none⟩ = some (.int .i64 p.dst) := by rw [cell_of_row w10 nb 2 _ _ _ hN10]; rfl
    have c6 : w10.cell? ⟨nb, 3, none⟩ = some (.int .i64 p.ident) := by rw [cell_of_row w10 nb 3 _ _ _ hN10]; rfl
    have hN12 := (hg12.block nb (by show nb < w10.heap.size; rw [hsz10]; exact heap_lt hN9) (by simpa using hnbB)).trans hN10
    have hpb12 := (hg12.block pb (by show pb < w10.heap.size; rw [hsz10]; exact heap_lt hpb9) (by simpa using hpbB)).trans hpb10
    have hS : w10.cell? ⟨pb, 2, none⟩ = some (.map (some mb)) ∧ w10.cell? ⟨nb, 0, none⟩ = some (.int .i64 p.kind) ∧ w10.cell? ⟨nb, 1, none⟩ = some (.int .i64 p.src) ∧ w10.cell? ⟨nb, 2, none⟩ = some (.int .i64 p.dst) ∧ w10.cell? ⟨nb, 3, none⟩ = some (.int .i64 p.ident) := ⟨c2, c3, c4, c5, c6⟩
    have hS12 : w12.cell? ⟨pb, 2, none⟩ = some (.map (some mb)) ∧ w12.cell? ⟨nb, 0, none⟩ = some (.int .i64 p.kind) ∧ w12.cell? ⟨nb, 1, none⟩ = some (.int .i64 p.src) ∧ w12.cell? ⟨nb, 2, none⟩ = some (.int .i64 p.dst) ∧ w12.cell? ⟨nb, 3, none⟩ = some (.int .i64 p.ident) := by
      refine ⟨?_, ?_, ?_, ?_, ?_⟩
      · rw [cell_of_row w12 pb 2 _ _ _ hpb12]; rfl
      · rw [cell_of_row w12 nb 0 _ _ _ hN12]; rfl
      · rw [cell_of_row w12 nb 1 _ _ _ hN12]; rfl
      · rw [cell_of_row w12 nb 2 _ _ _ hN12]; rfl
      · rw [cell_of_row w12 nb 3 _ _ _ hN12]; rfl
    have HM12 : Hid (MapIs Tryd.prog 61 w12 mb ((grpsL (g1 ++ g :: g2)).filter fun x => !x.1.sameKey (litN (nmOf p)))) := hm12
    have HG12 : Hid (∀ k, k < w9.heap.size → k ≠ mb → w12.heap[k]? = w9.heap[k]?) := fun k hk hne => (hg12.block k (by show k < w10.heap.size; rw [hsz10]; exact hk) (by simpa using hne)).trans (heq k)
    have HG12' : Hid (w10.drew.grownBy w12 (some mb)) := hg12
    clear hw10 hmD hm12 hm9' hN8 hN9 hpb9 hpb10 hN10 hgc
    go_upto_region 20 with fail
    go_region_held3 (fun X => X.cell? ⟨pb, 2, none⟩ = some (.map (some mb)) ∧ X.cell? ⟨nb, 0, none⟩ = some (.int .i64 p.kind) ∧ X.cell? ⟨nb, 1, none⟩ = some (.int .i64 p.src) ∧ X.cell? ⟨nb, 2, none⟩ = some (.int .i64 p.dst) ∧ X.cell? ⟨nb, 3, none⟩ = some (.int .i64 p.ident)) (with_reducible first | assumption | go_keep) (fail)
    have hbk : ∀ u ∈ g.vs ++ [v], ∀ k, u.ownBlock = some k → k < w9.heap.size ∧ k ≠ mb := fun u hu k hk => by
      obtain ⟨cur, hcur⟩ := body_kind HK9.out HGB.out hu hk
      exact ⟨heap_lt hcur, map_no_cells HM9.out hcur⟩
    have hgl : g.b < w9.heap.size ∧ g.m < w9.heap.size := ⟨by have := hG7 _ q1; omega, by have := hG7 _ q2; omega⟩
    have gp12 : GrpAt w12 (keptGb g p v) := HK9.out.keep (HG12.out _ hgl.1 hmbne.1.symm) (fun _ => ⟨HG12.out _ hgl.2 hmbne.2.symm, fun u hu k hk => HG12.out k (hbk u hu k hk).1 (hbk u hu k hk).2⟩)
    have hs12 : w9.heap.size ≤ w12.heap.size := by have h1 := HG12'.out.size; have h2 : w10.drew.heap.size = w10.heap.size := rfl; omega
    have hwl := whole_any (keptGb g p v) (nmOf p) w12 gp12 HGB.out (HGD.out.snoc hpos.1 HWG.out) (by show g.h.all ++ [p] ≠ []; simp) HDG.out ⟨by show g.b < _; omega, fun _ => ⟨by show g.m < _; omega, fun u hu k hk => by have := (hbk u hu k hk).1; omega⟩⟩
    have hB1B : w.heap.size + 1 ≠ mb := map_no_cells HM9.out HZ9.out
    have hZ12 : PkAt w12 (w.heap.size + 1) zeroK (.slice none 0 0) := (HG12.out _ HZ9.out.lt hB1B).trans HZ9.out
    obtain ⟨M, hM⟩ : ∃ M, M = finN (g.h.all ++ [p]) := ⟨_, rfl⟩
    have HMM : Hid (M = finN (g.h.all ++ [p])) := hM
    have hM4 : M ≤ 4000 := by rw [hM]; exact (bounds_kept (HGD.out.snoc hpos.1 HWG.out)).2.2
    unfold ptrV pkV nmV at hwl
    rw [show (nmOf p).kind = p.kind from rfl, show (nmOf p).src = p.src from rfl, show (nmOf p).dst = p.dst from rfl, show (nmOf p).ident = p.ident from rfl, show (keptGb g p v).b = g.b from rfl, show (keptGb g p v).h.all = g.h.all ++ [p] from rfl, ← hM] at hwl
    simp only at hwl
    generalize hTT : ttlM (g.h.all ++ [p]) = TT at hwl
    have HTT : Hid (ttlM (g.h.all ++ [p]) = TT) := hTT
    obtain ⟨c2, c3, c4, c5, c6⟩ := hS12
    clear hM hTT hS hrun hg12 gp12 hN12 hpb12
    go_wp2_with (go_at_call 25; refine hwl.mono ?_; rintro e w13 ⟨bv13, rfl, own13, bw13⟩; obtain ⟨a13, c13, hv13⟩ := len_body' (own13.bytes (by rw [wholeN_len]; omega)) (wholeN_len _ _); subst hv13; have hZ13 := hZ12.below hZ12.lt bw13; obtain ⟨z0, z1, z2, z3, z4, z5, z6, z7⟩ := hZ13.cells; have f0 := hZ13.free 0; have f1 := hZ13.free 1; have f2 := hZ13.free 2; have f3 := hZ13.free 3; have f4 := hZ13.free 4; have f5 := hZ13.free 5; have f6 := hZ13.free 6; have f7 := hZ13.free 7)
    obtain ⟨w14, hw14, hp14, o14⟩ := hZ13.store p.kind TT p.ident p.src p.dst 0 false (.slice a13 M c13)
    rw [hw14]
    obtain ⟨r0, r1, r2, r3, r4, r5, r6, r7⟩ := hp14.cells
    simp only at r0 r1 r2 r3 r4 r5 r6 r7
    refine bodyPost_ret (v := .tuple #[.agg #[.int .i64 p.kind, .int .i64 TT, .int .i64 p.ident, .int .i64 p.src, .int .i64 p.dst, .int .i64 0, .bool false, .slice a13 M c13], .bool true, .nilIface]) (by simp [results, Tryd.results9, go_sem, r0, r1, r2, r3, r4, r5, r6, r7]) rfl ?_
    have hB1 : ∀ k, Plus F w6 w7 k → k ≠ w.heap.size + 1 := fun k hk e => by
      rcases hk with h | h
      · exact hnf1 (e ▸ h)
      · omega
    have hs13 := bw13.size
    have hs14 : w14.heap.size = w13.heap.size := o14.size
    have hPP : ∀ k, Plus F w6 w7 k → Plus F w w14 k := fun k hk => by
      rcases hk with h | h
      · exact .inl h
      · exact .inr ⟨by omega, by omega⟩
    have hnm : g.h.name = nmOf p := by rw [HFO.out.grp]; exact orNew_name
    have hmb12 : mb < w12.heap.size := HM12.out.lt
    have hm14 : MapIs Tryd.prog 61 w14 mb (grpsL (g1 ++ g2)) := by
      have ha := HP8.out.ok.apart
      rw [← HP8.out.list] at ha
      have h1 := HM12.out
      rw [← hnm, grps_del HP8.out.names ha] at h1
      exact h1.block ((o14.block mb (Ne.symm hB1B)).trans (bw13.block mb hmb12))
    have hgo := HP8.out.gone (G := Plus F w w14) (w' := w14) hPP (fun k hk h1 h2 h3 => by
      have hk7 := hG7 k hk
      rw [o14.block k (hB1 k hk), bw13.block k (by omega), HG12.out k (by omega) h1]
      exact HT9.out.block k (by omega) (fun h => h.elim h2 (h3 HGB.out))) hm14
    have ea := addA_done (s := s) (now := now) HE.out HTE.out HNW.out HXX.out HFO.out.grp HGB.out HWG.out HDG.out
    rw [HFO.out.del] at ea
    have hst : ({ tickS s now with l := (g1 ++ g2).map Gb.h } : Po) = { s' with l := (g1 ++ g2).map Gb.h } := by
      have e1 := HFO.out.life
      have e2 := HFO.out.time
      show (⟨_, _, _⟩ : Po) = ⟨_, _, _⟩
      rw [e1, e2]
    refine ⟨.slice a13 M c13, ?_, ?_, ?_, ?_⟩
    · rw [ea]
      unfold pkV madeP
      simp only
      rw [HTT.out]; rfl
    · rw [ea]
      show Bytes w14 (.slice a13 M c13) (wholeN (g.h.all ++ [p]) (finN (g.h.all ++ [p])))
      rw [← HMM.out]
      exact (own13.only (fun e => by have := (own13.1.lt _ e).1; omega) o14).bytes (by rw [wholeN_len]; omega)
    · rw [ea]
      show PoolAt w14 (Plus F w w14) pb { tickS s now with l := (g1 ++ g2).map Gb.h }
      rw [hst]; exact ⟨mb, _, hgo⟩
    · have t8 := HT7.out.trans (Turn.of_below HBW8.out F)
      have t9 : Turn F w w9 := t8.andThen HT9.out (fun i hi => by
        have hor : Plus F w6 w7 i := by
          rcases hi with e | e
          · rw [e]; exact q1
          · rw [e]; exact q2
        rcases hor with h | h
        · exact .inl h
        · exact .inr (by omega))
      have t10 := t9.same HS10.out
      have hfm : F mb := by
        rcases HP8.out.fmb with h | h
        · exact h
        · exfalso; have := hF mb HIN.out.fmb; omega
      have t12 : Turn F w w12 := (t10.drewN 1).trans (Turn.of_grown HG12'.out (fun g e => by cases e; exact hfm))
      exact (t12.trans (Turn.of_below bw13 F)).andThen (Turn.of_only (F := fun k => k = w.heap.size + 1) o14 rfl) (fun i hi => .inr (by omega))
end Go.Proofs.YtgodjaffmojhlaaDoor
