/- What Add of the reference's pool answers of a piece that is wrong. -/
import Derived.Test.YtgodjaffmojhlaaDoorRefPl6
import Derived.Test.YtgodjaffmojhlaaDoorPoolAdd6
import Derived.Deep.RegionLaw
import Derived.Deep.RegionHeld3
namespace Go.Proofs.YtgodjaffmojhlaaDoor
open Go.RowKit
set_option linter.unusedVariables false

set_option maxRecDepth 100000 in
set_option maxHeartbeats 8000000 in
theorem radd_wrong (w0 : World) (F : Nat → Prop) (pb : Nat) (s : Po) (p : Pk) (bv : Value) (now : Int) (w : World) (hP : RPool w0 w F pb s) (hF : ∀ k, F k → k < w.heap.size) (hb0 : Bytes w0 bv p.body) (he : pkErr p = 0) (ht : tickE s now = 0) (hnw : ¬ (p.pos = 0 ∧ p.more = false)) (hx : ¬ (getH (tickS s now).l (nmOf p) = none ∧ 8 ≤ (tickS s now).l.length)) (hbd : (orNew (getH (tickS s now).l (nmOf p)) (nmOf p) now).bad = false) (hwr : wrongB (orNew (getH (tickS s now).l (nmOf p)) (nmOf p) now).all p = true) :
    Calls Tryd.prog 8 #[ptrV pb, pkV p bv, .int .i64 now] w (RAdds w0 F pb s p now w) := by
  have HE := hidR he
  have HTE := hidR ht
  have HNW := hidR hnw
  have HX4 := hidR hx
  have HBD := hidR hbd
  have HWR := hidR hwr
  clear hx hbd hwr
  obtain ⟨mb0, gs0, hin0⟩ := hP
  have HNEW : Hid ((∀ k, F k → w0.heap.size ≤ k) ∧ w0.heap.size ≤ w.heap.size) := ⟨hin0.new, hin0.bel.size⟩
  have hb := hb0.below (Nat.le_refl _) hin0.bel
  have HB0 := hidR hb0
  have hbx := radd_boxes hin0 hF p bv hb
  obtain ⟨a, c, hbv⟩ := len_body hb
  subst hbv
  obtain ⟨L, hLe⟩ : ∃ L, p.body.length = L := ⟨_, rfl⟩
  have HLE := hidR hLe
  rw [hLe] at hbx HB0 ⊢
  obtain ⟨B2, hp2, hz2, hin2, hb2, hs2⟩ := hbx
  have hnf0 : ¬ F w.heap.size := fun hf => by have := hF _ hf; omega
  have hnf1 : ¬ F (w.heap.size + 1) := fun hf => by have := hF _ hf; omega
  have HF := hidR hF
  obtain ⟨Q, hQ⟩ : ∃ Q, Q = RAdds w0 F pb s p now w := ⟨_, rfl⟩
  have HQ : Hid (∀ e w', RAdds w0 F pb s p now w e w' → Q e w') := by rw [hQ]; exact fun _ _ h => h
  rw [← hQ]
  clear hQ
  unfold ptrV pkV
  clear hb hb0 hLe hin0 hnw
  go_enter Tryd.func8, Tryd.ntmps8
  go_upto_region 1 with fail
  obtain ⟨W2, hW2⟩ : ∃ W2, ((w.alloc (.cells #[.int .i64 p.kind, .int .i64 p.ttl, .int .i64 p.ident, .int .i64 p.src, .int .i64 p.dst, .int .i64 p.pos, .bool p.more, .slice a L c] 40)).alloc (.cells #[.int .i64 0, .int .i64 0, .int .i64 0, .int .i64 0, .int .i64 0, .int .i64 0, .bool false, .slice none 0 0] 40)) = W2 := ⟨_, rfl⟩
  rw [hW2] at B2 hp2 hz2 hin2 hb2 hs2 ⊢
  have hck := refPacket_any p (.slice a L c) W2 hb2
  rw [he] at hck
  unfold pkV at hck
  obtain ⟨x0, x1, x2, x3, x4, x5, x6, x7⟩ := hp2.cells
  have HIN : Hid (RpIn w0 W2 F pb s mb0 gs0) := hin2
  clear hW2 hin2 he
  go_upto_region 4 with (go_at_call 17; go_must (refine hck.mono ?_; rintro e w3 ⟨rfl, bw3⟩))
  have hp3 := hp2.below hp2.lt bw3
  have hz3 := hz2.below hz2.lt bw3
  have bel3 := B2.trans (bw3.mono B2.size)
  have hs3 : w.heap.size + 2 ≤ w3.heap.size := by have := bw3.size; omega
  have hin3 := HIN.out.below (fun k hk => by have := hF k hk; omega) bw3
  have htk := rtick_any w0 F pb s now w3 ⟨mb0, gs0, hin3⟩ (fun k hk => by have := hF k hk; omega)
  unfold RTicks at htk
  rw [ht] at htk
  unfold ptrV at htk
  clear hck hp2 hz2 hb2 x0 x1 x2 x3 x4 x5 x6 x7 HIN bw3 hin3 B2 hs2 ht
  generalize hN : ((s.l.length : Int) - ((tickS s now).l.length : Int)) = N at htk
  clear hN
  go_upto_region 7 with (go_at_call 6; go_must (refine htk.mono ?_; rintro e w4 ⟨rfl, hP4, tr4⟩))
  have hp4 := hp3.turn tr4 hnf0
  have hZ4 := hz3.turn tr4 hnf1
  have hs4 : w.heap.size + 2 ≤ w4.heap.size := Nat.le_trans hs3 tr4.size
  have HT4 := hidR ((Turn.of_below bel3 F).trans tr4)
  have HP4 : Hid (∃ lv rs, RpIn w0 w4 (Plus2 F w w4) pb (tickS s now) lv rs) := by
    obtain ⟨lv, rs, h4⟩ := hP4
    exact ⟨lv, rs, h4.mono (fun k hk => by rcases hk with hk | hk; exact .inl hk; exact .inr ⟨by omega, hk.2⟩) (fun k hk => by rcases hk with hk | hk; exact HNEW.out.1 k hk; have := HNEW.out.2; omega)⟩
  clear htk hp3 hz3 tr4 bel3 hP4 hs3 hF
  go_cut [45] (fun x ww => x = .bool false ∧ ww = w4)
  case first =>
    obtain ⟨_, _, _, _, _, x5, x6, _⟩ := hp4.cells
    by_cases h0 : p.pos = 0
    · have hm : p.more = true := by
        rcases hm : p.more with _ | _
        · exact absurd ⟨h0, hm⟩ HNW.out
        · rfl
      rw [h0] at x5
      rw [hm] at x6
      clear h0 hm
      go_wp2_with fail
      go_meet
      case rel => exact ⟨rfl, rfl⟩
    · have e0 : (p.pos == 0) = false := by rw [beq_eq_false_iff_ne]; exact h0
      go_wp2_with fail
      go_meet
      case rel => exact ⟨rfl, rfl⟩
  case rest =>
    obtain ⟨hx, hy⟩ := hcut
    subst hx hy
    obtain ⟨lv, rs, hin4⟩ := HP4.out
    have hcl := hin4.cells
    obtain ⟨av, cv, hlv⟩ := hin4.row.len
    subst hlv
    obtain ⟨N, hN⟩ : ∃ N, rs.length = N := ⟨_, rfl⟩
    have HN : Hid (rs.length = N) := hN
    have hN8 : N ≤ 8 := by rw [← hN]; have := hin4.ok.few; rw [← hin4.list, List.length_map] at this; exact this
    rw [hN] at hin4 hcl
    obtain ⟨_, _, c2, _, z2⟩ := hcl
    have hpl : pb < wc.heap.size := hin4.lt
    have HC : Hid (∀ k (hk : k < rs.length), ∃ g, av = some ⟨g, 0, none⟩ ∧ N ≤ cv ∧ cv ≤ 9223372036854775807 ∧ g < wc.heap.size ∧ HpC wc g (k * 11) rs[k] ∧ SlV rs[k].fv) := fun k hk => by
      obtain ⟨g, cap, hv, _, h2, h3, h4⟩ := hin4.row.shape (by omega)
      simp only [Value.slice.injEq] at hv
      obtain ⟨rfl, _, rfl⟩ := hv
      unfold maxLen at h4
      exact ⟨g, rfl, by omega, by omega, h2, hin4.row.cells k hk, (hin4.slv _ (List.getElem_mem _)).1⟩
    have HIN4 := hidR hin4
    have HPX := hidR hp4
    have HPZ := hidR hZ4
    have hx0 : w.heap.size < wc.heap.size := hp4.lt
    clear hN hin4 hp4 hZ4 HP4
    go_upto_region 11 with fail
    go_loopw [10, 11, 12] (fun v10 v11 v12 wr => ∃ (k : Nat) (j : Int), k ≤ N ∧ v11 = .int .i64 (k : Int) ∧ v10 = .int .i64 j ∧ Hid (FoundK rs (nmOf p) k j) ∧ Below wc.heap.size wc wr) (fun _ v11 _ _ => ((N : Int) - intOf v11).toNat)
    case atStart => exact ⟨0, -1, by omega, rfl, rfl, FoundK.zero _ _, Below.refl _ _⟩
    case round =>
      obtain ⟨k, j, hk, rfl, rfl, HFK, hb⟩ := hrel
      have q2 := (hb.cell (p := ⟨pb, 2, none⟩) hpl).trans c2
      by_cases hlt' : k < N
      · have i1 : (k : Int) < (N : Int) := by omega
        have i0 : (0 : Int) ≤ (k : Int) := by omega
        have hkl : k < rs.length := by rw [HN.out]; exact hlt'
        obtain ⟨g, hav, hNc, hcc, hg, hC, af, nf, cf, hfv⟩ := HC.out k hkl
        subst hav
        have HY := hidR (fun (h : nmOf rs[k].f = nmOf p) => FoundK.yes (nm := nmOf p) hkl h)
        have HNo := hidR (fun (h : nmOf rs[k].f ≠ nmOf p) => HFK.out.no hkl h)
        have hCr : HpC wr g (k * 11) rs[k] := fun j u hj => (hb.cell (p := ⟨g, k * 11 + j, none⟩) hg).trans (hC j u hj)
        obtain ⟨k0, k1, k2, k3, k4, k5, k6, k7, _, _, _⟩ := hCr.all
        rw [hfv] at k7
        generalize rs[k].f = f at k0 k1 k2 k3 k4 k5 k6 HY HNo
        have hpr := HPX.out.below hx0 hb
        obtain ⟨x0, x1, x2, x3, x4, x5, x6, x7⟩ := hpr.cells
        have HB := hidR hb
        have hp9 := PkAt.new wr f (.slice af nf cf)
        have hb9 : Below wc.heap.size wc (wr.alloc (.cells #[.int .i64 f.kind, .int .i64 f.ttl, .int .i64 f.ident, .int .i64 f.src, .int .i64 f.dst, .int .i64 f.pos, .bool f.more, .slice af nf cf] 40)) := hb.alloc hb.size _
        have hx9 := HPX.out.below hx0 hb9
        obtain ⟨w9, hw9⟩ : ∃ w9, wr.alloc (.cells #[.int .i64 f.kind, .int .i64 f.ttl, .int .i64 f.ident, .int .i64 f.src, .int .i64 f.dst, .int .i64 f.pos, .bool f.more, .slice af nf cf] 40) = w9 := ⟨_, rfl⟩
        rw [hw9] at hp9 hb9 hx9
        have HB9 := hidR hb9
        obtain ⟨r0, _, r2, r3, r4, _, _, _⟩ := hp9.cells
        obtain ⟨y0, _, y2, y3, y4, _, _, _⟩ := hx9.cells
        have HW9 := hidR hw9
        clear hC hCr hb hfv HFK HC hpr hp9 hw9 hx9 hb9
        go_upto_region 14 with fail
        rw [HW9.out]
        clear k0 k1 k2 k3 k4 k5 k6 k7 x0 x1 x2 x3 x4 x5 x6 x7 q2 HW9
        by_cases hnm : nmOf f = nmOf p
        · have HF1 := hidR (HY.out hnm)
          simp only [nmOf, Nm.mk.injEq] at hnm
          obtain ⟨e0, e3, e4, e2⟩ := hnm
          rw [e0] at r0
          rw [e2] at r2
          rw [e3] at r3
          rw [e4] at r4
          clear e0 e2 e3 e4 HY HNo
          go_wp2_with fail
          go_roundw
          case rel => exact ⟨k + 1, k, by omega, by go_num, rfl, HF1.out, HB9.out⟩
          case measure => simp [intOf]; omega
        · have HF1 := hidR (HNo.out hnm)
          go_cut [89] (fun x ww => x = .bool false ∧ ww = w9)
          case first =>
            by_cases e0 : f.kind = p.kind
            · by_cases e3 : f.src = p.src
              · by_cases e4 : f.dst = p.dst
                · have e2 : (f.ident == p.ident) = false := by
                    rw [beq_eq_false_iff_ne]
                    intro e2
                    exact hnm (by simp only [nmOf, e0, e2, e3, e4])
                  rw [e0] at r0
                  rw [e3] at r3
                  rw [e4] at r4
                  clear e0 e3 e4 hnm HY HNo
                  go_wp2_with fail
                  go_meet
                  case rel => exact ⟨rfl, rfl⟩
                · have e4' : (f.dst == p.dst) = false := by rw [beq_eq_false_iff_ne]; exact e4
                  rw [e0] at r0
                  rw [e3] at r3
                  clear e0 e3 e4 hnm HY HNo
                  go_wp2_with fail
                  go_meet
                  case rel => exact ⟨rfl, rfl⟩
              · have e3' : (f.src == p.src) = false := by rw [beq_eq_false_iff_ne]; exact e3
                rw [e0] at r0
                clear e0 e3 hnm HY HNo
                go_wp2_with fail
                go_meet
                case rel => exact ⟨rfl, rfl⟩
            · have e0' : (f.kind == p.kind) = false := by rw [beq_eq_false_iff_ne]; exact e0
              clear e0 hnm HY HNo
              go_wp2_with fail
              go_meet
              case rel => exact ⟨rfl, rfl⟩
          case rest =>
            obtain ⟨hx, hy⟩ := hcut
            subst hx hy
            go_wp2_with fail
            go_roundw
            case rel => exact ⟨k + 1, j, by omega, by go_num, rfl, HF1.out, HB9.out⟩
            case measure => simp [intOf]; omega
      · have i1 : ¬ (k : Int) < (N : Int) := by omega
        have hkN : k = N := by omega
        subst hkN
        have HFK2 := HFK
        have HPXr := hidR (HPX.out.below hx0 hb)
        have HPZr := hidR (HPZ.out.below HPZ.out.lt hb)
        have HTr := hidR (HT4.out.trans (Turn.of_below hb F))
        have hPl : ∀ q, Plus2 F w wc q → q < wc.heap.size := fun q hq => by
          rcases hq with hq | hq
          · have := HF.out q hq; omega
          · exact hq.2
        have HINr : Hid (RpIn w0 wr (Plus2 F w wr) pb (tickS s now) (.slice av k cv) rs) := (HIN4.out.below hPl hb).mono (fun q hq => by
          rcases hq with hq | hq
          · exact .inl hq
          · exact .inr ⟨hq.1, Nat.lt_of_lt_of_le hq.2 hb.size⟩) (fun q hq => by
          rcases hq with hq | hq
          · exact HNEW.out.1 q hq
          · have := HNEW.out.2; omega)
        have hs4r : w.heap.size + 2 ≤ wr.heap.size := Nat.le_trans hs4 hb.size
        have hplr : pb < wr.heap.size := Nat.lt_of_lt_of_le hpl hb.size
        clear hPl hb HPX HPZ HIN4 HC HT4 c2 z2 hs4 hpl hx0
        go_upto_if 92 with fail
        go_cut [10] (fun kv ww => ∃ A r B lv, kv = .int .i64 (A.length : Int) ∧ Hid (AddSt w0 F pb (tickS s now) p (.slice a L c) now w A r B lv ww))
        case first =>
          rcases HFK.out with ⟨hj, hno⟩ | ⟨A, r, B, hrs, hj, hrf, hAk⟩
          · subst hj
            rw [List.take_of_length_le (by rw [HN.out]; omega)] at hno
            have hgn : getH (tickS s now).l (nmOf p) = none := getH_not (fun x hx => by
              rw [← HINr.out.list] at hx
              obtain ⟨q, hq, rfl⟩ := List.mem_map.1 hx
              rw [← HINr.out.name q hq]; exact hno q hq)
            have hk8 : k < 8 := by
              have h8 : ¬ 8 ≤ (tickS s now).l.length := fun h8 => HX4.out ⟨hgn, h8⟩
              rw [← HINr.out.list, List.length_map, HN.out] at h8; omega
            have HNO := hidR hno
            have HK8 := hidR (show rs.length < 8 by rw [HN.out]; exact hk8)
            have i8 : ¬ ((k : Int) ≥ 8) := by omega
            obtain ⟨_, _, q2, _, z2⟩ := HINr.out.cells
            obtain ⟨x0, x1, x2, x3, x4, x5, x6, x7⟩ := HPXr.out.cells
            have hown : OwnH wr.drew 0 (.slice av k cv) rs := HINr.out.row
            have hsl : SlV (newR p (.slice a L c) now).fv ∧ SlV (newR p (.slice a L c) now).av := ⟨⟨_, _, _, rfl⟩, ⟨_, _, _, rfl⟩⟩
            have hlen : rs.length ≤ 100000 := by have := HK8.out; omega
            have hpne := hidR (show (Value.slice av k cv).ownBlock ≠ some pb from fun e => (HINr.out.frow pb e).2 rfl)
            have hnow : 0 ≤ now ∧ now ≤ 1000000 := by
              have h1 := HTE.out
              unfold tickE at h1
              split at h1
              · cases h1
              · omega
            have HNOW := hidR hnow
            clear hno hgn HFK HFK2 hk8 hnow
            go_upto_region 20 with fail
            go_region_law (refine step_append_hp rfl (.tmp 109) (.tmp 113) rfl 0 (.slice av k cv) rs rfl hown (newR p (.slice a L c) now) rfl hsl hlen (Nat.zero_le _) ?_; intro g1 cap1 w5 own5 grow5 at5; have s5 := (grown_cell (wr := wr) ⟨1, rfl⟩ grow5 (q := ⟨pb, 2, none⟩) hplr hpne.out).1.trans q2; have z5 := (grown_cell (wr := wr) ⟨1, rfl⟩ grow5 (q := ⟨pb, 2, none⟩) hplr hpne.out).2.trans z2)
            all_goals (go_wp2_with fail; go_meet; case rel => exact ⟨rs, newR p (.slice a L c) now, [], _, by rw [HN.out], AddSt.app HINr.out HNO.out HK8.out HNOW.out HF.out HNEW.out.1 HNEW.out.2 HPXr.out HPZr.out HTr.out ⟨1, rfl⟩ own5 grow5 at5⟩)
          · subst hj
            have HOLD := hidR (AddSt.old (now := now) (A := A) (r := r) (B := B) (by rw [← hrs]; exact HINr.out) hrf HPXr.out HPZr.out HTr.out)
            have i2 : ¬ ((A.length : Int) < 0) := by omega
            clear hrs hrf hAk HFK HFK2
            go_wp2_with fail
            go_meet
            case rel => exact ⟨A, r, B, _, rfl, HOLD.out⟩
        case rest =>
          obtain ⟨A, r, B, lv, hkv, HST⟩ := hcut
          subst hkv
          obtain ⟨g, cap, M, hM, hlv, hgl, hMc, hcc, hM8, hC, hfz, hgp, hgP⟩ := HST.out.shape
          subst hlv
          have hbd : r.h.bad = false := by rw [HST.out.is]; exact HBD.out
          have hwr := HWR.out
          rw [← HST.out.is] at hwr
          have k9 := hC.all.2.2.2.2.2.2.2.2.2.1
          have k10 := hC.all.2.2.2.2.2.2.2.2.2.2
          rw [hbd] at k9
          have hwg := HST.out.wrong hbd HE.out HB0.out
          rw [hwr] at hwg
          obtain ⟨aa, nn, cc, hav⟩ := (HST.out.pool.slv r (List.mem_append_right _ List.mem_cons_self)).2
          have HAV := hidR hav
          rw [hav] at k10 hwg
          unfold pkV at hwg
          obtain ⟨_, _, q2, _, _⟩ := HST.out.pool.cells
          obtain ⟨x0, x1, x2, x3, x4, x5, x6, x7⟩ := HST.out.px.cells
          have hplc : pb < wc.heap.size := HST.out.pool.lt
          have hxlc : w.heap.size < wc.heap.size := HST.out.px.lt
          obtain ⟨m, hm⟩ : ∃ m, A.length = m := ⟨_, rfl⟩
          have HM := hidR hm
          have HMM := hidR hM
          rw [hm] at k9 k10 ⊢
          have hmM : m < M := by omega
          have i3 : (0 : Int) ≤ (m : Int) := by omega
          have i4 : (m : Int) < (M : Int) := by omega
          have hS : wc.cell? ⟨pb, 2, none⟩ = some (.slice (some ⟨g, 0, none⟩) M cap) ∧ wc.cell? ⟨g, m * 11 + 10, none⟩ = some (.slice aa nn cc) ∧ wc.cell? ⟨w.heap.size, 0, none⟩ = some (.int .i64 p.kind) ∧ wc.cell? ⟨w.heap.size, 1, none⟩ = some (.int .i64 p.ttl) ∧ wc.cell? ⟨w.heap.size, 2, none⟩ = some (.int .i64 p.ident) ∧ wc.cell? ⟨w.heap.size, 3, none⟩ = some (.int .i64 p.src) ∧ wc.cell? ⟨w.heap.size, 4, none⟩ = some (.int .i64 p.dst) ∧ wc.cell? ⟨w.heap.size, 5, none⟩ = some (.int .i64 p.pos) ∧ wc.cell? ⟨w.heap.size, 6, none⟩ = some (.bool p.more) ∧ wc.cell? ⟨w.heap.size, 7, none⟩ = some (.slice a L c) := ⟨q2, k10, x0, x1, x2, x3, x4, x5, x6, x7⟩
          have HBDr := hidR hbd
          have HWRr := hidR hwr
          clear hM hm hC hav hfz hbd hwr HFK HFK2 HINr HPXr HPZr HTr hs4r hplr
          go_upto_region 23 with fail
          go_region_held3 (fun X => X.cell? ⟨pb, 2, none⟩ = some (.slice (some ⟨g, 0, none⟩) M cap) ∧ X.cell? ⟨g, m * 11 + 10, none⟩ = some (.slice aa nn cc) ∧ X.cell? ⟨w.heap.size, 0, none⟩ = some (.int .i64 p.kind) ∧ X.cell? ⟨w.heap.size, 1, none⟩ = some (.int .i64 p.ttl) ∧ X.cell? ⟨w.heap.size, 2, none⟩ = some (.int .i64 p.ident) ∧ X.cell? ⟨w.heap.size, 3, none⟩ = some (.int .i64 p.src) ∧ X.cell? ⟨w.heap.size, 4, none⟩ = some (.int .i64 p.dst) ∧ X.cell? ⟨w.heap.size, 5, none⟩ = some (.int .i64 p.pos) ∧ X.cell? ⟨w.heap.size, 6, none⟩ = some (.bool p.more) ∧ X.cell? ⟨w.heap.size, 7, none⟩ = some (.slice a L c)) (with_reducible first | assumption | go_keep) (first
            | (go_at_call 18; refine hwg.mono ?_; rintro e w6 ⟨rfl, bw6⟩; have hS6 : w6.cell? ⟨pb, 2, none⟩ = some (.slice (some ⟨g, 0, none⟩) M cap) ∧ w6.cell? ⟨g, m * 11 + 10, none⟩ = some (.slice aa nn cc) ∧ w6.cell? ⟨w.heap.size, 0, none⟩ = some (.int .i64 p.kind) ∧ w6.cell? ⟨w.heap.size, 1, none⟩ = some (.int .i64 p.ttl) ∧ w6.cell? ⟨w.heap.size, 2, none⟩ = some (.int .i64 p.ident) ∧ w6.cell? ⟨w.heap.size, 3, none⟩ = some (.int .i64 p.src) ∧ w6.cell? ⟨w.heap.size, 4, none⟩ = some (.int .i64 p.dst) ∧ w6.cell? ⟨w.heap.size, 5, none⟩ = some (.int .i64 p.pos) ∧ w6.cell? ⟨w.heap.size, 6, none⟩ = some (.bool p.more) ∧ w6.cell? ⟨w.heap.size, 7, none⟩ = some (.slice a L c) := ⟨(bw6.cell (p := ⟨pb, 2, none⟩) hplc).trans q2, (bw6.cell (p := ⟨g, m * 11 + 10, none⟩) hgl).trans k10, (bw6.cell (p := ⟨w.heap.size, 0, none⟩) hxlc).trans x0, (bw6.cell (p := ⟨w.heap.size, 1, none⟩) hxlc).trans x1, (bw6.cell (p := ⟨w.heap.size, 2, none⟩) hxlc).trans x2, (bw6.cell (p := ⟨w.heap.size, 3, none⟩) hxlc).trans x3, (bw6.cell (p := ⟨w.heap.size, 4, none⟩) hxlc).trans x4, (bw6.cell (p := ⟨w.heap.size, 5, none⟩) hxlc).trans x5, (bw6.cell (p := ⟨w.heap.size, 6, none⟩) hxlc).trans x6, (bw6.cell (p := ⟨w.heap.size, 7, none⟩) hxlc).trans x7⟩))
          have HS6 := hidR (HST.out.below HF.out HNEW.out.1 HNEW.out.2 bw6)
          have k96 := (bw6.cell (p := ⟨g, m * 11 + 9, none⟩) hgl).trans k9
          clear HST hS hwg k9 k10 q2 x0 x1 x2 x3 x4 x5 x6 x7 bw6 hgl hplc hxlc

          have hbb := HS6.out.toBad HF.out HNEW.out.1 HNEW.out.2
          rw [HM.out] at hbb
          obtain ⟨g', cap', M', hM', hlv', hgl', _, _, _, _, hfz, _, _⟩ := HS6.out.shape
          simp only [Value.slice.injEq, Option.some.injEq, Addr.mk.injEq] at hlv'
          obtain ⟨⟨hg', -⟩, -, -⟩ := hlv'
          subst hg'
          have fz := hfz (m * 11 + 9)
          have q2 := hS6.1
          obtain ⟨W7, hW7⟩ : ∃ W7, w6.setCell ⟨g, m * 11 + 9, none⟩ (.bool true) = W7 := ⟨_, rfl⟩
          have HW7 := hidR hW7
          rw [hW7] at hbb
          obtain ⟨hin7, tr7, o7⟩ := hbb
          have hgz : w.heap.size + 1 ≠ g := fun e => by
            rcases hgP with h | h
            · have := HF.out _ h; omega
            · omega
          have HZ7 := hidR (HS6.out.pz.only hgz o7)
          obtain ⟨z0, z1, z2, z3, z4, z5, z6, z7⟩ := HZ7.out.cells
          have f0 := HZ7.out.free 0
          have f1 := HZ7.out.free 1
          have f2 := HZ7.out.free 2
          have f3 := HZ7.out.free 3
          have f4 := HZ7.out.free 4
          have f5 := HZ7.out.free 5
          have f6 := HZ7.out.free 6
          have f7 := HZ7.out.free 7
          have HFI : Hid (∀ w9, Only (w.heap.size + 1) W7 w9 → Q (.returned (.tuple #[.agg #[.int .i64 0, .int .i64 0, .int .i64 0, .int .i64 0, .int .i64 0, .int .i64 0, .bool false, .slice none 0 0], .bool false, .int .i64 3])) w9) := by
            intro w9 o9
            have ea := addA_wrong HE.out HTE.out HNW.out HX4.out HS6.out.is HBDr.out HWRr.out
            refine HQ.out _ _ (radds_no (by rw [ea]) (by rw [ea]; exact RPool.moved ⟨_, _, hin7⟩ (fun q hq => by rcases hq with hq | hq; exact .inl hq; exact .inr ⟨by omega, by rw [o9.size, o7.size]; exact hq.2⟩) (fun q hq => o9.block q (by rcases hq with hq | hq; have := HF.out q hq; omega; omega)) HNEW.out.1 HNEW.out.2 (o9.below (by have := HNEW.out.2; omega) hin7.bel)) ?_)
            exact tr7.andThen (Turn.of_only (F := fun q => q = w.heap.size + 1) o9 rfl) (fun i hi => .inr (by omega))
          clear hin7 tr7 o7 hW7 hgz hS6 hfz hgl' hM' HS6 HMM
          go_upto_region 26 with fail
          rw [HW7.out]
          go_wp2_with fail
          obtain ⟨w9, hw9, hp9, o9⟩ := HZ7.out.store 0 0 0 0 0 0 false (.slice none 0 0)
          rw [hw9]
          obtain ⟨r0, r1, r2, r3, r4, r5, r6, r7⟩ := hp9.cells
          simp only at r0 r1 r2 r3 r4 r5 r6 r7
          exact bodyPost_ret (v := .tuple #[.agg #[.int .i64 0, .int .i64 0, .int .i64 0, .int .i64 0, .int .i64 0, .int .i64 0, .bool false, .slice none 0 0], .bool false, .int .i64 3]) (by simp [results, Tryd.results8, go_sem, r0, r1, r2, r3, r4, r5, r6, r7]) rfl (HFI.out w9 o9)
end Go.Proofs.YtgodjaffmojhlaaDoor
