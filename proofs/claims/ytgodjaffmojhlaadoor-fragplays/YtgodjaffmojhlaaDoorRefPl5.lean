/- What Add of the reference's pool answers where there is no room, or the heap is bad. -/
import Derived.Test.YtgodjaffmojhlaaDoorRefPl4
import Derived.Deep.RegionLaw
namespace Go.Proofs.YtgodjaffmojhlaaDoor
open Go.RowKit
set_option linter.unusedVariables false

set_option maxRecDepth 100000 in
set_option maxHeartbeats 8000000 in
theorem radd_full (w0 : World) (F : Nat → Prop) (pb : Nat) (s : Po) (p : Pk) (bv : Value) (now : Int) (w : World) (hP : RPool w0 w F pb s) (hF : ∀ k, F k → k < w.heap.size) (hb0 : Bytes w0 bv p.body) (he : pkErr p = 0) (ht : tickE s now = 0) (hnw : ¬ (p.pos = 0 ∧ p.more = false)) (hx : getH (tickS s now).l (nmOf p) = none) (h8 : 8 ≤ (tickS s now).l.length) :
    Calls Tryd.prog 8 #[ptrV pb, pkV p bv, .int .i64 now] w (RAdds w0 F pb s p now w) := by
  have HE := hidR he
  have HTE := hidR ht
  have HNW := hidR hnw
  have HX := hidR hx
  have H8 := hidR h8
  clear hx h8
  obtain ⟨mb0, gs0, hin0⟩ := hP
  have HNEW : Hid ((∀ k, F k → w0.heap.size ≤ k) ∧ w0.heap.size ≤ w.heap.size) := ⟨hin0.new, hin0.bel.size⟩
  have hb := hb0.below (Nat.le_refl _) hin0.bel
  have HB0 := hidR hb0
  have hbx := radd_boxes hin0 hF p bv hb
  obtain ⟨a, c, hbv⟩ := len_body hb
  subst hbv
  obtain ⟨L, hLe⟩ : ∃ L, p.body.length = L := ⟨_, rfl⟩
  have HLE := hidR hLe
  rw [hLe] at hbx HB0 ⊢
  obtain ⟨B2, hp2, hz2, hin2, hb2, hs2⟩ := hbx
  have hnf0 : ¬ F w.heap.size := fun hf => by have := hF _ hf; omega
  have hnf1 : ¬ F (w.heap.size + 1) := fun hf => by have := hF _ hf; omega
  have HF := hidR hF
  obtain ⟨Q, hQ⟩ : ∃ Q, Q = RAdds w0 F pb s p now w := ⟨_, rfl⟩
  have HQ : Hid (∀ e w', RAdds w0 F pb s p now w e w' → Q e w') := by rw [hQ]; exact fun _ _ h => h
  rw [← hQ]
  clear hQ
  unfold ptrV pkV
  clear hb hb0 hLe hin0 hnw
  go_enter Tryd.func8, Tryd.ntmps8
  go_upto_region 1 with fail
  obtain ⟨W2, hW2⟩ : ∃ W2, ((w.alloc (.cells #[.int .i64 p.kind, .int .i64 p.ttl, .int .i64 p.ident, .int .i64 p.src, .int .i64 p.dst, .int .i64 p.pos, .bool p.more, .slice a L c] 40)).alloc (.cells #[.int .i64 0, .int .i64 0, .int .i64 0, .int .i64 0, .int .i64 0, .int .i64 0, .bool false, .slice none 0 0] 40)) = W2 := ⟨_, rfl⟩
  rw [hW2] at B2 hp2 hz2 hin2 hb2 hs2 ⊢
  have hck := refPacket_any p (.slice a L c) W2 hb2
  rw [he] at hck
  unfold pkV at hck
  obtain ⟨x0, x1, x2, x3, x4, x5, x6, x7⟩ := hp2.cells
  have HIN : Hid (RpIn w0 W2 F pb s mb0 gs0) := hin2
  clear hW2 hin2 he
  go_upto_region 4 with (go_at_call 17; go_must (refine hck.mono ?_; rintro e w3 ⟨rfl, bw3⟩))
  have hp3 := hp2.below hp2.lt bw3
  have hz3 := hz2.below hz2.lt bw3
  have bel3 := B2.trans (bw3.mono B2.size)
  have hs3 : w.heap.size + 2 ≤ w3.heap.size := by have := bw3.size; omega
  have hin3 := HIN.out.below (fun k hk => by have := hF k hk; omega) bw3
  have htk := rtick_any w0 F pb s now w3 ⟨mb0, gs0, hin3⟩ (fun k hk => by have := hF k hk; omega)
  unfold RTicks at htk
  rw [ht] at htk
  unfold ptrV at htk
  clear hck hp2 hz2 hb2 x0 x1 x2 x3 x4 x5 x6 x7 HIN bw3 hin3 B2 hs2 ht
  generalize hN : ((s.l.length : Int) - ((tickS s now).l.length : Int)) = N at htk
  clear hN
  go_upto_region 7 with (go_at_call 6; go_must (refine htk.mono ?_; rintro e w4 ⟨rfl, hP4, tr4⟩))
  have hp4 := hp3.turn tr4 hnf0
  have hZ4 := hz3.turn tr4 hnf1
  have hs4 : w.heap.size + 2 ≤ w4.heap.size := Nat.le_trans hs3 tr4.size
  have HT4 := hidR ((Turn.of_below bel3 F).trans tr4)
  have HP4 : Hid (∃ lv rs, RpIn w0 w4 (Plus2 F w w4) pb (tickS s now) lv rs) := by
    obtain ⟨lv, rs, h4⟩ := hP4
    exact ⟨lv, rs, h4.mono (fun k hk => by rcases hk with hk | hk; exact .inl hk; exact .inr ⟨by omega, hk.2⟩) (fun k hk => by rcases hk with hk | hk; exact HNEW.out.1 k hk; have := HNEW.out.2; omega)⟩
  clear htk hp3 hz3 tr4 bel3 hP4 hs3 hF
  go_cut [45] (fun x ww => x = .bool false ∧ ww = w4)
  case first =>
    obtain ⟨_, _, _, _, _, x5, x6, _⟩ := hp4.cells
    by_cases h0 : p.pos = 0
    · have hm : p.more = true := by
        rcases hm : p.more with _ | _
        · exact absurd ⟨h0, hm⟩ HNW.out
        · rfl
      rw [h0] at x5
      rw [hm] at x6
      clear h0 hm
      go_wp2_with fail
      go_meet
      case rel => exact ⟨rfl, rfl⟩
    · have e0 : (p.pos == 0) = false := by rw [beq_eq_false_iff_ne]; exact h0
      go_wp2_with fail
      go_meet
      case rel => exact ⟨rfl, rfl⟩
  case rest =>
    obtain ⟨hx, hy⟩ := hcut
    subst hx hy
    obtain ⟨lv, rs, hin4⟩ := HP4.out
    have hcl := hin4.cells
    obtain ⟨av, cv, hlv⟩ := hin4.row.len
    subst hlv
    obtain ⟨N, hN⟩ : ∃ N, rs.length = N := ⟨_, rfl⟩
    have HN : Hid (rs.length = N) := hN
    have hN8 : N ≤ 8 := by rw [← hN]; have := hin4.ok.few; rw [← hin4.list, List.length_map] at this; exact this
    rw [hN] at hin4 hcl
    obtain ⟨_, _, c2, _, z2⟩ := hcl
    have hpl : pb < wc.heap.size := hin4.lt
    have HC : Hid (∀ k (hk : k < rs.length), ∃ g, av = some ⟨g, 0, none⟩ ∧ N ≤ cv ∧ cv ≤ 9223372036854775807 ∧ g < wc.heap.size ∧ HpC wc g (k * 11) rs[k] ∧ SlV rs[k].fv) := fun k hk => by
      obtain ⟨g, cap, hv, _, h2, h3, h4⟩ := hin4.row.shape (by omega)
      simp only [Value.slice.injEq] at hv
      obtain ⟨rfl, _, rfl⟩ := hv
      unfold maxLen at h4
      exact ⟨g, rfl, by omega, by omega, h2, hin4.row.cells k hk, (hin4.slv _ (List.getElem_mem _)).1⟩
    have HIN4 := hidR hin4
    have HPX := hidR hp4
    have HPZ := hidR hZ4
    have hx0 : w.heap.size < wc.heap.size := hp4.lt
    clear hN hin4 hp4 hZ4 HP4
    go_upto_region 11 with fail
    go_loopw [10, 11, 12] (fun v10 v11 v12 wr => ∃ (k : Nat) (j : Int), k ≤ N ∧ v11 = .int .i64 (k : Int) ∧ v10 = .int .i64 j ∧ Hid (FoundK rs (nmOf p) k j) ∧ Below wc.heap.size wc wr) (fun _ v11 _ _ => ((N : Int) - intOf v11).toNat)
    case atStart => exact ⟨0, -1, by omega, rfl, rfl, FoundK.zero _ _, Below.refl _ _⟩
    case round =>
      obtain ⟨k, j, hk, rfl, rfl, HFK, hb⟩ := hrel
      have q2 := (hb.cell (p := ⟨pb, 2, none⟩) hpl).trans c2
      by_cases hlt' : k < N
      · have i1 : (k : Int) < (N : Int) := by omega
        have i0 : (0 : Int) ≤ (k : Int) := by omega
        have hkl : k < rs.length := by rw [HN.out]; exact hlt'
        obtain ⟨g, hav, hNc, hcc, hg, hC, af, nf, cf, hfv⟩ := HC.out k hkl
        subst hav
        have HY := hidR (fun (h : nmOf rs[k].f = nmOf p) => FoundK.yes (nm := nmOf p) hkl h)
        have HNo := hidR (fun (h : nmOf rs[k].f ≠ nmOf p) => HFK.out.no hkl h)
        have hCr : HpC wr g (k * 11) rs[k] := fun j u hj => (hb.cell (p := ⟨g, k * 11 + j, none⟩) hg).trans (hC j u hj)
        obtain ⟨k0, k1, k2, k3, k4, k5, k6, k7, _, _, _⟩ := hCr.all
        rw [hfv] at k7
        generalize rs[k].f = f at k0 k1 k2 k3 k4 k5 k6 HY HNo
        have hpr := HPX.out.below hx0 hb
        obtain ⟨x0, x1, x2, x3, x4, x5, x6, x7⟩ := hpr.cells
        have HB := hidR hb
        have hp9 := PkAt.new wr f (.slice af nf cf)
        have hb9 : Below wc.heap.size wc (wr.alloc (.cells #[.int .i64 f.kind, .int .i64 f.ttl, .int .i64 f.ident, .int .i64 f.src, .int .i64 f.dst, .int .i64 f.pos, .bool f.more, .slice af nf cf] 40)) := hb.alloc hb.size _
        have hx9 := HPX.out.below hx0 hb9
        obtain ⟨w9, hw9⟩ : ∃ w9, wr.alloc (.cells #[.int .i64 f.kind, .int .i64 f.ttl, .int .i64 f.ident, .int .i64 f.src, .int .i64 f.dst, .int .i64 f.pos, .bool f.more, .slice af nf cf] 40) = w9 := ⟨_, rfl⟩
        rw [hw9] at hp9 hb9 hx9
        have HB9 := hidR hb9
        obtain ⟨r0, _, r2, r3, r4, _, _, _⟩ := hp9.cells
        obtain ⟨y0, _, y2, y3, y4, _, _, _⟩ := hx9.cells
        have HW9 := hidR hw9
        clear hC hCr hb hfv HFK HC hpr hp9 hw9 hx9 hb9
        go_upto_region 14 with fail
        rw [HW9.out]
        clear k0 k1 k2 k3 k4 k5 k6 k7 x0 x1 x2 x3 x4 x5 x6 x7 q2 HW9
        by_cases hnm : nmOf f = nmOf p
        · have HF1 := hidR (HY.out hnm)
          simp only [nmOf, Nm.mk.injEq] at hnm
          obtain ⟨e0, e3, e4, e2⟩ := hnm
          rw [e0] at r0
          rw [e2] at r2
          rw [e3] at r3
          rw [e4] at r4
          clear e0 e2 e3 e4 HY HNo
          go_wp2_with fail
          go_roundw
          case rel => exact ⟨k + 1, k, by omega, by go_num, rfl, HF1.out, HB9.out⟩
          case measure => simp [intOf]; omega
        · have HF1 := hidR (HNo.out hnm)
          go_cut [89] (fun x ww => x = .bool false ∧ ww = w9)
          case first =>
            by_cases e0 : f.kind = p.kind
            · by_cases e3 : f.src = p.src
              · by_cases e4 : f.dst = p.dst
                · have e2 : (f.ident == p.ident) = false := by
                    rw [beq_eq_false_iff_ne]
                    intro e2
                    exact hnm (by simp only [nmOf, e0, e2, e3, e4])
                  rw [e0] at r0
                  rw [e3] at r3
                  rw [e4] at r4
                  clear e0 e3 e4 hnm HY HNo
                  go_wp2_with fail
                  go_meet
                  case rel => exact ⟨rfl, rfl⟩
                · have e4' : (f.dst == p.dst) = false := by rw [beq_eq_false_iff_ne]; exact e4
                  rw [e0] at r0
                  rw [e3] at r3
                  clear e0 e3 e4 hnm HY HNo
                  go_wp2_with fail
                  go_meet
                  case rel => exact ⟨rfl, rfl⟩
              · have e3' : (f.src == p.src) = false := by rw [beq_eq_false_iff_ne]; exact e3
                rw [e0] at r0
                clear e0 e3 hnm HY HNo
                go_wp2_with fail
                go_meet
                case rel => exact ⟨rfl, rfl⟩
            · have e0' : (f.kind == p.kind) = false := by rw [beq_eq_false_iff_ne]; exact e0
              clear e0 hnm HY HNo
              go_wp2_with fail
              go_meet
              case rel => exact ⟨rfl, rfl⟩
          case rest =>
            obtain ⟨hx, hy⟩ := hcut
            subst hx hy
            go_wp2_with fail
            go_roundw
            case rel => exact ⟨k + 1, j, by omega, by go_num, rfl, HF1.out, HB9.out⟩
            case measure => simp [intOf]; omega
      · have i1 : ¬ (k : Int) < (N : Int) := by omega
        have hkN : k = N := by omega
        subst hkN
        have HFK2 := HFK
        have HPXr := hidR (HPX.out.below hx0 hb)
        have HPZr := hidR (HPZ.out.below HPZ.out.lt hb)
        have HTr := hidR (HT4.out.trans (Turn.of_below hb F))
        have hPl : ∀ q, Plus2 F w wc q → q < wc.heap.size := fun q hq => by
          rcases hq with hq | hq
          · have := HF.out q hq; omega
          · exact hq.2
        have HINr : Hid (RpIn w0 wr (Plus2 F w wr) pb (tickS s now) (.slice av k cv) rs) := (HIN4.out.below hPl hb).mono (fun q hq => by
          rcases hq with hq | hq
          · exact .inl hq
          · exact .inr ⟨hq.1, Nat.lt_of_lt_of_le hq.2 hb.size⟩) (fun q hq => by
          rcases hq with hq | hq
          · exact HNEW.out.1 q hq
          · have := HNEW.out.2; omega)
        have hs4r : w.heap.size + 2 ≤ wr.heap.size := Nat.le_trans hs4 hb.size
        have hplr : pb < wr.heap.size := Nat.lt_of_lt_of_le hpl hb.size
        clear hPl hb HPX HPZ HIN4 HC HT4 c2 z2 hs4 hpl hx0
        have hj : j = -1 := by
          rcases HFK.out with ⟨e, _⟩ | ⟨A, r, B, h1, h2, h3, h4⟩
          · exact e
          · exfalso
            have hl := HINr.out.list
            have hrn := HINr.out.name r (by rw [h1]; exact List.mem_append_right _ List.mem_cons_self)
            have ha := HINr.out.ok.apart
            rw [← hl, h1, List.map_append, List.map_cons] at ha
            have := getH_mid ha (hrn.symm.trans h3)
            rw [← List.map_cons, ← List.map_append, ← h1, hl, HX.out] at this
            cases this
        subst hj
        have hk8 : k = 8 := by
          have h8 := H8.out
          rw [← HINr.out.list, List.length_map, HN.out] at h8; omega
        subst hk8

        obtain ⟨z0, z1, z2, z3, z4, z5, z6, z7⟩ := HPZr.out.cells
        have f0 := HPZr.out.free 0
        have f1 := HPZr.out.free 1
        have f2 := HPZr.out.free 2
        have f3 := HPZr.out.free 3
        have f4 := HPZr.out.free 4
        have f5 := HPZr.out.free 5
        have f6 := HPZr.out.free 6
        have f7 := HPZr.out.free 7

        have HFI : Hid (∀ w9, Only (w.heap.size + 1) wr w9 → Q (.returned (.tuple #[.agg #[.int .i64 0, .int .i64 0, .int .i64 0, .int .i64 0, .int .i64 0, .int .i64 0, .bool false, .slice none 0 0], .bool false, .int .i64 4])) w9) := by
          intro w9 o9
          have ea := addA_full HE.out HTE.out HNW.out HX.out H8.out
          have hin := HINr.out
          refine HQ.out _ _ (radds_no (by rw [ea]) (by rw [ea]; exact RPool.moved ⟨_, _, HINr.out⟩ (fun q hq => by rcases hq with hq | hq; exact .inl hq; exact .inr ⟨by omega, by rw [o9.size]; exact hq.2⟩) (fun q hq => o9.block q (by rcases hq with hq | hq; have := HF.out q hq; omega; omega)) HNEW.out.1 HNEW.out.2 (o9.below (by have := HNEW.out.2; omega) hin.bel)) ?_)
          exact HTr.out.andThen (Turn.of_only (F := fun q => q = w.heap.size + 1) o9 rfl) (fun i hi => .inr (by omega))

        clear HFK HFK2 HN hk hlt' i1
        go_wp2_with fail

        obtain ⟨w9, hw9, hp9, o9⟩ := HPZr.out.store 0 0 0 0 0 0 false (.slice none 0 0)
        rw [hw9]
        obtain ⟨r0, r1, r2, r3, r4, r5, r6, r7⟩ := hp9.cells
        simp only at r0 r1 r2 r3 r4 r5 r6 r7
        exact bodyPost_ret (v := .tuple #[.agg #[.int .i64 0, .int .i64 0, .int .i64 0, .int .i64 0, .int .i64 0, .int .i64 0, .bool false, .slice none 0 0], .bool false, .int .i64 4]) (by simp [results, Tryd.results8, go_sem, r0, r1, r2, r3, r4, r5, r6, r7]) rfl (HFI.out w9 o9)
set_option maxRecDepth 100000 in
set_option maxHeartbeats 8000000 in
theorem radd_bad (w0 : World) (F : Nat → Prop) (pb : Nat) (s : Po) (p : Pk) (bv : Value) (now : Int) (w : World) (hP : RPool w0 w F pb s) (hF : ∀ k, F k → k < w.heap.size) (hb0 : Bytes w0 bv p.body) (he : pkErr p = 0) (ht : tickE s now = 0) (hnw : ¬ (p.pos = 0 ∧ p.more = false)) (y : Hp) (hx : getH (tickS s now).l (nmOf p) = some y) (hbd : y.bad = true) :
    Calls Tryd.prog 8 #[ptrV pb, pkV p bv, .int .i64 now] w (RAdds w0 F pb s p now w) := by
  have HE := hidR he
  have HTE := hidR ht
  have HNW := hidR hnw
  have HX := hidR hx
  have HBD := hidR hbd
  clear hx hbd
  obtain ⟨mb0, gs0, hin0⟩ := hP
  have HNEW : Hid ((∀ k, F k → w0.heap.size ≤ k) ∧ w0.heap.size ≤ w.heap.size) := ⟨hin0.new, hin0.bel.size⟩
  have hb := hb0.below (Nat.le_refl _) hin0.bel
  have HB0 := hidR hb0
  have hbx := radd_boxes hin0 hF p bv hb
  obtain ⟨a, c, hbv⟩ := len_body hb
  subst hbv
  obtain ⟨L, hLe⟩ : ∃ L, p.body.length = L := ⟨_, rfl⟩
  have HLE := hidR hLe
  rw [hLe] at hbx HB0 ⊢
  obtain ⟨B2, hp2, hz2, hin2, hb2, hs2⟩ := hbx
  have hnf0 : ¬ F w.heap.size := fun hf => by have := hF _ hf; omega
  have hnf1 : ¬ F (w.heap.size + 1) := fun hf => by have := hF _ hf; omega
  have HF := hidR hF
  obtain ⟨Q, hQ⟩ : ∃ Q, Q = RAdds w0 F pb s p now w := ⟨_, rfl⟩
  have HQ : Hid (∀ e w', RAdds w0 F pb s p now w e w' → Q e w') := by rw [hQ]; exact fun _ _ h => h
  rw [← hQ]
  clear hQ
  unfold ptrV pkV
  clear hb hb0 hLe hin0 hnw
  go_enter Tryd.func8, Tryd.ntmps8
  go_upto_region 1 with fail
  obtain ⟨W2, hW2⟩ : ∃ W2, ((w.alloc (.cells #[.int .i64 p.kind, .int .i64 p.ttl, .int .i64 p.ident, .int .i64 p.src, .int .i64 p.dst, .int .i64 p.pos, .bool p.more, .slice a L c] 40)).alloc (.cells #[.int .i64 0, .int .i64 0, .int .i64 0, .int .i64 0, .int .i64 0, .int .i64 0, .bool false, .slice none 0 0] 40)) = W2 := ⟨_, rfl⟩
  rw [hW2] at B2 hp2 hz2 hin2 hb2 hs2 ⊢
  have hck := refPacket_any p (.slice a L c) W2 hb2
  rw [he] at hck
  unfold pkV at hck
  obtain ⟨x0, x1, x2, x3, x4, x5, x6, x7⟩ := hp2.cells
  have HIN : Hid (RpIn w0 W2 F pb s mb0 gs0) := hin2
  clear hW2 hin2 he
  go_upto_region 4 with (go_at_call 17; go_must (refine hck.mono ?_; rintro e w3 ⟨rfl, bw3⟩))
  have hp3 := hp2.below hp2.lt bw3
  have hz3 := hz2.below hz2.lt bw3
  have bel3 := B2.trans (bw3.mono B2.size)
  have hs3 : w.heap.size + 2 ≤ w3.heap.size := by have := bw3.size; omega
  have hin3 := HIN.out.below (fun k hk => by have := hF k hk; omega) bw3
  have htk := rtick_any w0 F pb s now w3 ⟨mb0, gs0, hin3⟩ (fun k hk => by have := hF k hk; omega)
  unfold RTicks at htk
  rw [ht] at htk
  unfold ptrV at htk
  clear hck hp2 hz2 hb2 x0 x1 x2 x3 x4 x5 x6 x7 HIN bw3 hin3 B2 hs2 ht
  generalize hN : ((s.l.length : Int) - ((tickS s now).l.length : Int)) = N at htk
  clear hN
  go_upto_region 7 with (go_at_call 6; go_must (refine htk.mono ?_; rintro e w4 ⟨rfl, hP4, tr4⟩))
  have hp4 := hp3.turn tr4 hnf0
  have hZ4 := hz3.turn tr4 hnf1
  have hs4 : w.heap.size + 2 ≤ w4.heap.size := Nat.le_trans hs3 tr4.size
  have HT4 := hidR ((Turn.of_below bel3 F).trans tr4)
  have HP4 : Hid (∃ lv rs, RpIn w0 w4 (Plus2 F w w4) pb (tickS s now) lv rs) := by
    obtain ⟨lv, rs, h4⟩ := hP4
    exact ⟨lv, rs, h4.mono (fun k hk => by rcases hk with hk | hk; exact .inl hk; exact .inr ⟨by omega, hk.2⟩) (fun k hk => by rcases hk with hk | hk; exact HNEW.out.1 k hk; have := HNEW.out.2; omega)⟩
  clear htk hp3 hz3 tr4 bel3 hP4 hs3 hF
  go_cut [45] (fun x ww => x = .bool false ∧ ww = w4)
  case first =>
    obtain ⟨_, _, _, _, _, x5, x6, _⟩ := hp4.cells
    by_cases h0 : p.pos = 0
    · have hm : p.more = true := by
        rcases hm : p.more with _ | _
        · exact absurd ⟨h0, hm⟩ HNW.out
        · rfl
      rw [h0] at x5
      rw [hm] at x6
      clear h0 hm
      go_wp2_with fail
      go_meet
      case rel => exact ⟨rfl, rfl⟩
    · have e0 : (p.pos == 0) = false := by rw [beq_eq_false_iff_ne]; exact h0
      go_wp2_with fail
      go_meet
      case rel => exact ⟨rfl, rfl⟩
  case rest =>
    obtain ⟨hx, hy⟩ := hcut
    subst hx hy
    obtain ⟨lv, rs, hin4⟩ := HP4.out
    have hcl := hin4.cells
    obtain ⟨av, cv, hlv⟩ := hin4.row.len
    subst hlv
    obtain ⟨N, hN⟩ : ∃ N, rs.length = N := ⟨_, rfl⟩
    have HN : Hid (rs.length = N) := hN
    have hN8 : N ≤ 8 := by rw [← hN]; have := hin4.ok.few; rw [← hin4.list, List.length_map] at this; exact this
    rw [hN] at hin4 hcl
    obtain ⟨_, _, c2, _, z2⟩ := hcl
    have hpl : pb < wc.heap.size := hin4.lt
    have HC : Hid (∀ k (hk : k < rs.length), ∃ g, av = some ⟨g, 0, none⟩ ∧ N ≤ cv ∧ cv ≤ 9223372036854775807 ∧ g < wc.heap.size ∧ HpC wc g (k * 11) rs[k] ∧ SlV rs[k].fv) := fun k hk => by
      obtain ⟨g, cap, hv, _, h2, h3, h4⟩ := hin4.row.shape (by omega)
      simp only [Value.slice.injEq] at hv
      obtain ⟨rfl, _, rfl⟩ := hv
      unfold maxLen at h4
      exact ⟨g, rfl, by omega, by omega, h2, hin4.row.cells k hk, (hin4.slv _ (List.getElem_mem _)).1⟩
    have HIN4 := hidR hin4
    have HPX := hidR hp4
    have HPZ := hidR hZ4
    have hx0 : w.heap.size < wc.heap.size := hp4.lt
    clear hN hin4 hp4 hZ4 HP4
    go_upto_region 11 with fail
    go_loopw [10, 11, 12] (fun v10 v11 v12 wr => ∃ (k : Nat) (j : Int), k ≤ N ∧ v11 = .int .i64 (k : Int) ∧ v10 = .int .i64 j ∧ Hid (FoundK rs (nmOf p) k j) ∧ Below wc.heap.size wc wr) (fun _ v11 _ _ => ((N : Int) - intOf v11).toNat)
    case atStart => exact ⟨0, -1, by omega, rfl, rfl, FoundK.zero _ _, Below.refl _ _⟩
    case round =>
      obtain ⟨k, j, hk, rfl, rfl, HFK, hb⟩ := hrel
      have q2 := (hb.cell (p := ⟨pb, 2, none⟩) hpl).trans c2
      by_cases hlt' : k < N
      · have i1 : (k : Int) < (N : Int) := by omega
        have i0 : (0 : Int) ≤ (k : Int) := by omega
        have hkl : k < rs.length := by rw [HN.out]; exact hlt'
        obtain ⟨g, hav, hNc, hcc, hg, hC, af, nf, cf, hfv⟩ := HC.out k hkl
        subst hav
        have HY := hidR (fun (h : nmOf rs[k].f = nmOf p) => FoundK.yes (nm := nmOf p) hkl h)
        have HNo := hidR (fun (h : nmOf rs[k].f ≠ nmOf p) => HFK.out.no hkl h)
        have hCr : HpC wr g (k * 11) rs[k] := fun j u hj => (hb.cell (p := ⟨g, k * 11 + j, none⟩) hg).trans (hC j u hj)
        obtain ⟨k0, k1, k2, k3, k4, k5, k6, k7, _, _, _⟩ := hCr.all
        rw [hfv] at k7
        generalize rs[k].f = f at k0 k1 k2 k3 k4 k5 k6 HY HNo
        have hpr := HPX.out.below hx0 hb
        obtain ⟨x0, x1, x2, x3, x4, x5, x6, x7⟩ := hpr.cells
        have HB := hidR hb
        have hp9 := PkAt.new wr f (.slice af nf cf)
        have hb9 : Below wc.heap.size wc (wr.alloc (.cells #[.int .i64 f.kind, .int .i64 f.ttl, .int .i64 f.ident, .int .i64 f.src, .int .i64 f.dst, .int .i64 f.pos, .bool f.more, .slice af nf cf] 40)) := hb.alloc hb.size _
        have hx9 := HPX.out.below hx0 hb9
        obtain ⟨w9, hw9⟩ : ∃ w9, wr.alloc (.cells #[.int .i64 f.kind, .int .i64 f.ttl, .int .i64 f.ident, .int .i64 f.src, .int .i64 f.dst, .int .i64 f.pos, .bool f.more, .slice af nf cf] 40) = w9 := ⟨_, rfl⟩
        rw [hw9] at hp9 hb9 hx9
        have HB9 := hidR hb9
        obtain ⟨r0, _, r2, r3, r4, _, _, _⟩ := hp9.cells
        obtain ⟨y0, _, y2, y3, y4, _, _, _⟩ := hx9.cells
        have HW9 := hidR hw9
        clear hC hCr hb hfv HFK HC hpr hp9 hw9 hx9 hb9
        go_upto_region 14 with fail
        rw [HW9.out]
        clear k0 k1 k2 k3 k4 k5 k6 k7 x0 x1 x2 x3 x4 x5 x6 x7 q2 HW9
        by_cases hnm : nmOf f = nmOf p
        · have HF1 := hidR (HY.out hnm)
          simp only [nmOf, Nm.mk.injEq] at hnm
          obtain ⟨e0, e3, e4, e2⟩ := hnm
          rw [e0] at r0
          rw [e2] at r2
          rw [e3] at r3
          rw [e4] at r4
          clear e0 e2 e3 e4 HY HNo
          go_wp2_with fail
          go_roundw
          case rel => exact ⟨k + 1, k, by omega, by go_num, rfl, HF1.out, HB9.out⟩
          case measure => simp [intOf]; omega
        · have HF1 := hidR (HNo.out hnm)
          go_cut [89] (fun x ww => x = .bool false ∧ ww = w9)
          case first =>
            by_cases e0 : f.kind = p.kind
            · by_cases e3 : f.src = p.src
              · by_cases e4 : f.dst = p.dst
                · have e2 : (f.ident == p.ident) = false := by
                    rw [beq_eq_false_iff_ne]
                    intro e2
                    exact hnm (by simp only [nmOf, e0, e2, e3, e4])
                  rw [e0] at r0
                  rw [e3] at r3
                  rw [e4] at r4
                  clear e0 e3 e4 hnm HY HNo
                  go_wp2_with fail
                  go_meet
                  case rel => exact ⟨rfl, rfl⟩
                · have e4' : (f.dst == p.dst) = false := by rw [beq_eq_false_iff_ne]; exact e4
                  rw [e0] at r0
                  rw [e3] at r3
                  clear e0 e3 e4 hnm HY HNo
                  go_wp2_with fail
                  go_meet
                  case rel => exact ⟨rfl, rfl⟩
              · have e3' : (f.src == p.src) = false := by rw [beq_eq_false_iff_ne]; exact e3
                rw [e0] at r0
                clear e0 e3 hnm HY HNo
                go_wp2_with fail
                go_meet
                case rel => exact ⟨rfl, rfl⟩
            · have e0' : (f.kind == p.kind) = false := by rw [beq_eq_false_iff_ne]; exact e0
              clear e0 hnm HY HNo
              go_wp2_with fail
              go_meet
              case rel => exact ⟨rfl, rfl⟩
          case rest =>
            obtain ⟨hx, hy⟩ := hcut
            subst hx hy
            go_wp2_with fail
            go_roundw
            case rel => exact ⟨k + 1, j, by omega, by go_num, rfl, HF1.out, HB9.out⟩
            case measure => simp [intOf]; omega
      · have i1 : ¬ (k : Int) < (N : Int) := by omega
        have hkN : k = N := by omega
        subst hkN
        have HFK2 := HFK
        have HPXr := hidR (HPX.out.below hx0 hb)
        have HPZr := hidR (HPZ.out.below HPZ.out.lt hb)
        have HTr := hidR (HT4.out.trans (Turn.of_below hb F))
        have hPl : ∀ q, Plus2 F w wc q → q < wc.heap.size := fun q hq => by
          rcases hq with hq | hq
          · have := HF.out q hq; omega
          · exact hq.2
        have HINr : Hid (RpIn w0 wr (Plus2 F w wr) pb (tickS s now) (.slice av k cv) rs) := (HIN4.out.below hPl hb).mono (fun q hq => by
          rcases hq with hq | hq
          · exact .inl hq
          · exact .inr ⟨hq.1, Nat.lt_of_lt_of_le hq.2 hb.size⟩) (fun q hq => by
          rcases hq with hq | hq
          · exact HNEW.out.1 q hq
          · have := HNEW.out.2; omega)
        have hs4r : w.heap.size + 2 ≤ wr.heap.size := Nat.le_trans hs4 hb.size
        have hplr : pb < wr.heap.size := Nat.lt_of_lt_of_le hpl hb.size
        clear hPl hb HPX HPZ HIN4 HC HT4 c2 z2 hs4 hpl hx0
        obtain ⟨A, r, B, hrs, hj, hrf, _⟩ : ∃ A r B, rs = A ++ r :: B ∧ j = (A.length : Int) ∧ nmOf r.f = nmOf p ∧ A.length < k := by
          rcases HFK.out with ⟨_, h⟩ | h
          · exfalso
            rw [List.take_of_length_le (by rw [HN.out]; omega)] at h
            have : getH (tickS s now).l (nmOf p) = none := getH_not (fun x hx => by
              rw [← HINr.out.list] at hx
              obtain ⟨q, hq, rfl⟩ := List.mem_map.1 hx
              rw [← HINr.out.name q hq]; exact h q hq)
            rw [HX.out] at this; cases this
          · exact h
        have hl := HINr.out.list
        have hrm : r ∈ rs := by rw [hrs]; exact List.mem_append_right _ List.mem_cons_self
        have hry : r.h = y := by
          have ha := HINr.out.ok.apart
          rw [← hl, hrs, List.map_append, List.map_cons] at ha
          have := getH_mid ha ((HINr.out.name r hrm).symm.trans hrf)
          rw [← List.map_cons, ← List.map_append, ← hrs, hl, HX.out] at this
          exact (Option.some.inj this).symm
        have hAk : A.length < k := by rw [← HN.out, hrs]; simp
        obtain ⟨g, cap, hv, _, hg2, hg3, hg4⟩ := HINr.out.row.shape (by rw [HN.out]; omega)
        simp only [Value.slice.injEq] at hv
        obtain ⟨rfl, _, rfl⟩ := hv
        unfold maxLen at hg4
        have hC := HINr.out.row.cells A.length (by rw [HN.out]; exact hAk)
        have e9 : rs[A.length]'(by rw [HN.out]; exact hAk) = r := by subst hrs; simp
        rw [e9] at hC
        have k9 : wr.cell? ⟨g, A.length * 11 + 9, none⟩ = some (.bool true) := by have := hC.all.2.2.2.2.2.2.2.2.2.1; rw [hry, HBD.out] at this; exact this
        obtain ⟨_, _, q2, _, _⟩ := HINr.out.cells
        have hkc : k ≤ cv := by rw [← HN.out]; exact hg3
        subst hj
        generalize A.length = m at k9 hAk
        have i2 : ¬ (m : Int) < 0 := by omega
        have i3 : (0 : Int) ≤ (m : Int) := by omega
        have i4 : (m : Int) < (k : Int) := by omega

        obtain ⟨z0, z1, z2, z3, z4, z5, z6, z7⟩ := HPZr.out.cells
        have f0 := HPZr.out.free 0
        have f1 := HPZr.out.free 1
        have f2 := HPZr.out.free 2
        have f3 := HPZr.out.free 3
        have f4 := HPZr.out.free 4
        have f5 := HPZr.out.free 5
        have f6 := HPZr.out.free 6
        have f7 := HPZr.out.free 7

        have HFI : Hid (∀ w9, Only (w.heap.size + 1) wr w9 → Q (.returned (.tuple #[.agg #[.int .i64 0, .int .i64 0, .int .i64 0, .int .i64 0, .int .i64 0, .int .i64 0, .bool false, .slice none 0 0], .bool false, .int .i64 6])) w9) := by
          intro w9 o9
          have ea := addA_bad HE.out HTE.out HNW.out HX.out HBD.out
          have hin := HINr.out
          refine HQ.out _ _ (radds_no (by rw [ea]) (by rw [ea]; exact RPool.moved ⟨_, _, HINr.out⟩ (fun q hq => by rcases hq with hq | hq; exact .inl hq; exact .inr ⟨by omega, by rw [o9.size]; exact hq.2⟩) (fun q hq => o9.block q (by rcases hq with hq | hq; have := HF.out q hq; omega; omega)) HNEW.out.1 HNEW.out.2 (o9.below (by have := HNEW.out.2; omega) hin.bel)) ?_)
          exact HTr.out.andThen (Turn.of_only (F := fun q => q = w.heap.size + 1) o9 rfl) (fun i hi => .inr (by omega))

        clear HFK HFK2 HN hk hlt' i1 hC e9 hrs hry hl hrf hrm
        go_wp2_with fail

        obtain ⟨w9, hw9, hp9, o9⟩ := HPZr.out.store 0 0 0 0 0 0 false (.slice none 0 0)
        rw [hw9]
        obtain ⟨r0, r1, r2, r3, r4, r5, r6, r7⟩ := hp9.cells
        simp only at r0 r1 r2 r3 r4 r5 r6 r7
        exact bodyPost_ret (v := .tuple #[.agg #[.int .i64 0, .int .i64 0, .int .i64 0, .int .i64 0, .int .i64 0, .int .i64 0, .bool false, .slice none 0 0], .bool false, .int .i64 6]) (by simp [results, Tryd.results8, go_sem, r0, r1, r2, r3, r4, r5, r6, r7]) rfl (HFI.out w9 o9)
end Go.Proofs.YtgodjaffmojhlaaDoor
