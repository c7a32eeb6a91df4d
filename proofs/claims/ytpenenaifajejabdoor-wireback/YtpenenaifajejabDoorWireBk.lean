/- The law WireBack of package portlaw1 returns true, for every packet, bytes, place and byte, where errors.errorType holds the handle of the type error; the walk of its text. -/
import Derived.Test.YtpenenaifajejabDoorWireEnc
import Derived.Test.YtpenenaifajejabDoorWireSame
import Derived.Test.YtpenenaifajejabDoorWireStep
import Derived.Test.YtpenenaifajejabDoorTold
namespace Go.Proofs.YtpenenaifajejabDoor
open Go.RowKit
set_option linter.unusedVariables false

/-- What holds all the way through: the packet's bytes, the packet, and what was there before. -/
def BkS (w : World) (B g : Nat) (p : Pk) (bv : Value) (ww : World) : Prop := RowB ww g (encL p) ∧ PkAt ww B p bv ∧ Below w.heap.size w ww
theorem BkS.step {w : World} {B g : Nat} {p : Pk} {bv : Value} {ww w' : World} (h : BkS w B g p bv ww) (hb : Below ww.heap.size ww w') : BkS w B g p bv w' :=
  ⟨h.1.below h.1.lt hb, h.2.1.below h.2.1.lt hb, h.2.2.trans (hb.mono h.2.2.size)⟩
theorem BkS.alloc {w : World} {B g : Nat} {p : Pk} {bv : Value} {ww : World} (h : BkS w B g p bv ww) (o : Obj) : BkS w B g p bv (ww.alloc o) := h.step ((Below.refl _ _).alloc (Nat.le_refl _) _)
theorem OwnB.under {w w' : World} {base : Nat} {v : Value} {zs : List Int} (h : OwnB w base v zs) (hb : Below w.heap.size w w') : OwnB w' base v zs := by
  refine ⟨⟨h.1.1, ?_⟩, h.2⟩
  rcases h.1.2 with h2 | ⟨g, cap, cur, hv, hg, hh, hr⟩
  · exact .inl h2
  · refine .inr ⟨g, cap, cur, hv, hg, ?_, hr⟩
    have hlt : g < w.heap.size := by
      rcases Nat.lt_or_ge g w.heap.size with h1 | h1
      · exact h1
      · simp [Array.getElem?_eq_none h1] at hh
    rw [hb.block g hlt]; exact hh
theorem PkAt.set1 {w : World} {b : Nat} {p : Pk} {bv : Value} (h : PkAt w b p bv) (t : Int) : ∃ w', w.setCell ⟨b, 1, none⟩ (.int .i64 t) = w' ∧ PkAt w' b { p with ttl := t } bv ∧ Only b w w' := by
  refine ⟨_, rfl, ?_, (Only.refl _ _).setCell _ _⟩
  have e := heap_setCell_same w b 1 _ _ (.int .i64 t) h
  rw [set8_1] at e
  exact e
theorem less_more (p : Pk) : { lessT p with ttl := (lessT p).ttl + 1 } = p := by
  unfold lessT
  obtain ⟨a, b, c, d, e, f, g, h⟩ := p
  simp
def k0 : Pk := { kind := 1, ttl := 5, ident := 0, src := 0, dst := 0, pos := 0, more := false, body := [] }
theorem BkS.part {w : World} {B g N : Nat} {p : Pk} {bv : Value} {ww : World} (h : BkS w B g p bv ww) (k : Nat) (hN : N = 18 + p.body.length) (hl : N ≤ 4018) (hk : k ≤ N) : Bytes ww (.slice (some ⟨g, 0, none⟩) k N) ((encL p).take k) := by
  have e := encL_length p
  have := h.1.bytes 0 k N (by omega) hk (by unfold maxLen; omega) (by omega)
  rwa [List.drop_zero] at this

set_option maxRecDepth 100000 in
set_option maxHeartbeats 40000000 in
theorem back_any (p : Pk) (ab : Option Addr) (nb cb : Nat) (v : Value) (zs : List Int) (pl tb : Int) (w : World) (hnb : p.body.length = nb) (hb : Bytes w (.slice ab nb cb) p.body) (hv : Bytes w v zs) (hvl : zs.length ≤ 140737488351232) (h1 : -9223372036854775808 ≤ pl ∧ pl ≤ 9223372036854775807) (h2 : 0 ≤ tb ∧ tb ≤ 255) (hE : ErrLaid w) :
    Calls Tryd.prog 6 #[pkV p (.slice ab nb cb), v, .int .i64 pl, .int .u8 tb] w fun e w' => e = .returned (.bool true) ∧ Below w.heap.size w w' := by
  have HV : Hid (Bytes w v zs) := hv
  have HB : Hid (Bytes w (.slice ab nb cb) p.body) := hb
  have HE : Hid (ErrLaid w) := hE
  have hp1 := PkAt.new w p (.slice ab nb cb)
  have b1 : Below w.heap.size w (w.alloc (.cells #[.int .i64 p.kind, .int .i64 p.ttl, .int .i64 p.ident, .int .i64 p.src, .int .i64 p.dst, .int .i64 p.pos, .bool p.more, .slice ab nb cb] 47)) := (Below.refl _ _).alloc (Nat.le_refl _) _
  have hen0 := encode_any k0 (.slice none 0 0) (w.alloc (.cells #[.int .i64 p.kind, .int .i64 p.ttl, .int .i64 p.ident, .int .i64 p.src, .int .i64 p.dst, .int .i64 p.pos, .bool p.more, .slice ab nb cb] 47)) (.inl ⟨rfl, _, _, rfl, fun _ => rfl⟩)
  rw [show pkErr k0 = 0 from rfl] at hen0
  unfold pkV at *
  unfold k0 at hen0
  simp only [List.length_nil, Nat.add_zero] at hen0
  clear hv hb hE
  go_enter Tryd.func6, Tryd.ntmps6
  go_upto_region 2 with (go_at_call 22; refine hen0.mono ?_; rintro e w1 ⟨hyes, _, bw1⟩; obtain ⟨g0, rfl, hrow0, hg0⟩ := hyes trivial)
  have f0 := hrow0.cell 0 (by decide)
  have f1 := hrow0.cell 1 (by decide)
  have e0 : (encL { kind := 1, ttl := 5, ident := 0, src := 0, dst := 0, pos := 0, more := false, body := [] }).getD 0 0 = 81 := rfl
  have e1 : (encL { kind := 1, ttl := 5, ident := 0, src := 0, dst := 0, pos := 0, more := false, body := [] }).getD 1 0 = 5 := rfl
  rw [e0] at f0
  rw [e1] at f1
  have hp2 := hp1.below hp1.lt bw1
  have bw2 : Below w.heap.size w w1 := b1.trans (bw1.mono b1.size)
  clear e0 e1 hrow0 hen0 hp1 b1 bw1 hg0 hyes
  obtain ⟨c0, c1, c2, c3, c4, c5, c6, c7⟩ := hp2.cells
  have hen := encode_any p (.slice ab nb cb) w1 (HB.out.below (Nat.le_refl _) bw2)
  unfold pkV at hen
  obtain ⟨B, hB⟩ : ∃ B, B = w.heap.size := ⟨_, rfl⟩
  have HBw : Hid (B = w.heap.size) := hB
  rw [← hB] at c0 c1 c2 c3 c4 c5 c6 c7 hp2 ⊢
  clear hB
  by_cases he : pkErr p = 0
  · have HI : Hid (pkErr p = 0) := he
    have hlen := (pkErr_ok he).2
    have httl := (of_pkIn (pkErr_ok he).1).2.1
    obtain ⟨N, hN⟩ : ∃ N, 18 + p.body.length = N := ⟨_, rfl⟩
    rw [hN] at hen
    have HN : Hid (N = 18 + p.body.length) := hN.symm
    have hN1 : 18 + nb ≤ N ∧ N ≤ 18 + nb := by omega
    have hN2 : N ≤ 4018 := by omega
    have HNB : Hid (p.body.length = nb) := hnb
    generalize hm : pkErr p = m at hen he
    subst he
    clear hm hN hnb hlen
    go_upto_region 8 with (go_at_call 22; refine hen.mono ?_; rintro e w3 ⟨hyes, _, bw3⟩; obtain ⟨g, rfl, hrow, hg⟩ := hyes rfl)
    have hS : BkS w B g p (.slice ab nb cb) w3 := ⟨hrow, hp2.below hp2.lt bw3, bw2.trans (bw3.mono bw2.size)⟩
    have hgw : w.heap.size ≤ g := Nat.le_trans bw2.size hg
    have hBg : B < g := Nat.lt_of_lt_of_le hp2.lt hg
    clear hen hyes bw3 hrow hg hp2 bw2 c0 c1 c2 c3 c4 c5 c6 c7 f0 f1
    obtain ⟨A, HA⟩ : ∃ A, Hid (A = decide (0 ≤ pl ∧ pl < (N : Int))) := ⟨_, rfl⟩
    go_cut [73] (fun s ww => s = .bool A ∧ ww = w3)
    case first =>
      as_aux_lemma =>
        by_cases q1 : 0 ≤ pl
        · by_cases q2 : pl < (N : Int)
          · have e : Hid (true = A) := by rw [HA.out]; exact (decide_eq_true ⟨q1, q2⟩).symm
            go_wp2_with fail
            go_meet
            case rel => exact ⟨congrArg Value.bool e.out, rfl⟩
          · have e : Hid (false = A) := by rw [HA.out]; exact (decide_eq_false (by omega)).symm
            go_wp2_with fail
            go_meet
            case rel => exact ⟨congrArg Value.bool e.out, rfl⟩
        · have e : Hid (false = A) := by rw [HA.out]; exact (decide_eq_false (by omega)).symm
          go_wp2_with fail
          go_meet
          case rel => exact ⟨congrArg Value.bool e.out, rfl⟩
    case rest =>
      obtain ⟨hx, hy⟩ := hcut
      subst hx hy
      go_upto_if 73 with fail
      go_cut [17] (fun s ww => BkS w B g p (.slice ab nb cb) ww)
      case first =>
        rcases A with _ | _
        · go_wp2_with fail
          go_meet
          case rel => exact hS
        · as_aux_lemma =>
            have hq := of_decide_eq_true HA.out.symm
            obtain ⟨q1, q2⟩ := hq
            obtain ⟨K, rfl⟩ := Int.eq_ofNat_of_zero_le q1
            have hrd := read_any _ _ wc (hS.part K HN.out hN2 (by omega))
            have hmc := meas_cut p K HI.out (by have := HN.out; omega)
            have hrf : readF ((encL p).take K) = zeroK := by unfold readF; rw [hmc]; rfl
            rw [hrf, hmc] at hrd
            rw [show errV 8 = .iface 65 (.int .i64 8) from rfl] at hrd
            unfold pkV zeroK at hrd
            simp only at hrd
            have i1 : (K : Int) ≤ (N : Int) := by omega
            have i2 : (0 : Int) ≤ (K : Int) := by omega
            clear hmc hrf
            go_wp2_with (first
              | (go_at_call 24; refine hrd.mono ?_; rintro e w4 ⟨v4, rfl, hv4, bw4⟩; obtain ⟨a4, c4, rfl⟩ := len_body hv4; have hS4 := (hS.step bw4).alloc (.cells #[.int .i64 0, .int .i64 0, .int .i64 0, .int .i64 0, .int .i64 0, .int .i64 0, .bool false, .slice a4 ([] : List Int).length c4] 47))
              | (go_at_call 20; refine (error_val (k := 8) (.inr rfl) 8 _ (HE.out.below hS4.2.2)).mono ?_; rintro e w5 ⟨rfl, bw5⟩))
            go_meet
            case rel => exact hS4.step bw5
      case rest =>
        have hS1 := hcut
        clear hcut hS HA
        obtain ⟨C, HC⟩ : ∃ C, Hid (C = decide (0 ≤ pl ∧ pl < 18 ∧ ¬ (encL p).getD pl.toNat 0 = tb)) := ⟨_, rfl⟩
        go_upto_region 13 with fail
        go_cut [99] (fun s ww => s = .bool C ∧ ww = wc)
        case first =>
          as_aux_lemma =>
            by_cases q1 : 0 ≤ pl
            · obtain ⟨K, rfl⟩ := Int.eq_ofNat_of_zero_le q1
              by_cases q2 : (K : Int) < 18
              · have hel := encL_length p
                have cx := hS1.1.cell K (by omega)
                have i1 : (K : Int) < (N : Int) := by omega
                rw [Int.toNat_natCast] at HC
                generalize (encL p).getD K 0 = xk at cx HC
                have e : Hid ((xk != tb) = C) := by
                  show (xk != tb) = C
                  rw [HC.out]
                  by_cases hh : xk = tb
                  · rw [decide_eq_false (fun h => h.2.2 hh)]; simp [hh]
                  · rw [decide_eq_true ⟨by omega, q2, hh⟩]; simp [hh]
                go_wp2_with fail
                go_meet
                case rel => exact ⟨congrArg Value.bool e.out, rfl⟩
              · have e : Hid (false = C) := by rw [HC.out]; exact (decide_eq_false (by omega)).symm
                go_wp2_with fail
                go_meet
                case rel => exact ⟨congrArg Value.bool e.out, rfl⟩
            · have e : Hid (false = C) := by rw [HC.out]; exact (decide_eq_false (by omega)).symm
              go_wp2_with fail
              go_meet
              case rel => exact ⟨congrArg Value.bool e.out, rfl⟩
        case rest =>
          obtain ⟨hx, hy⟩ := hcut
          subst hx hy
          go_upto_if 99 with fail
          go_cut [23] (fun s ww => BkS w B g p (.slice ab nb cb) ww)
          case first =>
            rcases C with _ | _
            · go_wp2_with fail
              go_meet
              case rel => exact hS1
            · as_aux_lemma =>
                have hq := of_decide_eq_true HC.out.symm
                obtain ⟨q1, q2, q3⟩ := hq
                obtain ⟨K, rfl⟩ := Int.eq_ofNat_of_zero_le q1
                rw [Int.toNat_natCast] at q3
                have Q3 : Hid (¬ (encL p).getD K 0 = tb) := q3
                have hel := encL_length p
                have hbx := hS1.part N HN.out hN2 (Nat.le_refl _)
                rw [List.take_of_length_le (show (encL p).length ≤ N by have := HN.out; omega)] at hbx
                obtain ⟨E, HEq⟩ : ∃ E, Hid (E = encL p) := ⟨_, rfl⟩
                rw [← HEq.out] at hbx hel
                have hE0 := HN.out
                obtain ⟨l1, l2⟩ : N ≤ E.length ∧ E.length ≤ N := by omega
                clear HC q3 hel hE0
                go_upto_region 16 with (at_builtin; refine wpList_append_bytes rfl (.tmp 100) (.tmp 101) rfl wc.heap.size _ [] rfl (OwnB.nil _ _) _ E rfl hbx (by simp; omega) (Nat.le_refl _) ?_; intro vy wy oy growy)
                have by1 : Below wc.heap.size wc wy := (Below.refl _ _).grown growy (Nat.le_refl _) (fun k hk => by cases hk)
                rw [List.nil_append] at oy
                obtain ⟨gy, capy, hvy, hgy0, hgy1, hlcy, hcmy⟩ := oy.shape (by omega)
                subst hvy
                obtain ⟨ny, hny⟩ : ∃ ny, E.length = ny := ⟨_, rfl⟩
                rw [hny] at oy hlcy ⊢
                have HY : Hid (ny = E.length) := hny.symm
                have hn1 : N ≤ ny ∧ ny ≤ N := by omega
                have cy := oy.cell hny.symm K (by omega)
                have fy := oy.free hny.symm K
                have i1 : (K : Int) < (ny : Int) := by omega
                have i2 : (0 : Int) ≤ (K : Int) := by omega
                clear hny growy hbx
                go_upto_region 17 with fail
                have oy2 := oy.store HY.out K tb h2.1 h2.2
                have by2 := by1.setCell (p := ⟨gy, K, none⟩) hgy0 (.int .u8 tb)
                obtain ⟨w6, hw6⟩ : ∃ w6, wy.setCell ⟨gy, K, none⟩ (.int .u8 tb) = w6 := ⟨_, rfl⟩
                rw [hw6] at oy2 by2 ⊢
                have hS6 := hS1.step by2
                have hms := meas_spoilt p K tb HI.out (by omega) h2.1 h2.2 Q3.out
                rw [← HEq.out] at hms
                have hrd := read_any _ _ w6 (oy2.bytes (by rw [List.length_set]; omega))
                have hrf : readF (E.set K tb) = zeroK := by unfold readF; rw [if_neg hms]
                rw [hrf, errV_no hms] at hrd
                unfold pkV zeroK at hrd
                simp only at hrd
                generalize (meas (E.set K tb)).1 = e1 at hrd
                generalize (meas (E.set K tb)).2 = e2 at hrd hms
                obtain ⟨Y, hY⟩ : ∃ Y, Y = E.set K tb := ⟨_, rfl⟩
                have hYl : Y.length = ny := by rw [hY, List.length_set]; exact HY.out.symm
                rw [← hY] at oy2
                have HYE : Hid (Y = E.set K tb) := hY
                clear hw6 cy fy oy by1 hrf hms hY
                go_wp2_with fail
                refine hrd.mono ?_
                rintro e w7 ⟨v7, rfl, hv7, bw7⟩
                obtain ⟨a7, c7, rfl⟩ := len_body hv7
                clear hrd
                go_upto_region 18 with fail
                have bw8 : Below w6.heap.size w6 (w7.alloc (.cells #[.int .i64 0, .int .i64 0, .int .i64 0, .int .i64 0, .int .i64 0, .int .i64 0, .bool false, .slice a7 0 c7] 47)) := bw7.alloc bw7.size _
                obtain ⟨w8, hw8⟩ : ∃ w8, w7.alloc (.cells #[.int .i64 0, .int .i64 0, .int .i64 0, .int .i64 0, .int .i64 0, .int .i64 0, .bool false, .slice a7 0 c7] 47) = w8 := ⟨_, rfl⟩
                have hw8' : w7.alloc (.cells #[.int .i64 0, .int .i64 0, .int .i64 0, .int .i64 0, .int .i64 0, .int .i64 0, .bool false, .slice a7 ([] : List Int).length c7] 47) = w8 := hw8
                rw [hw8] at bw8
                first | rw [hw8] | rw [hw8']
                have hS8 := hS6.step bw8
                have oy8 := oy2.under bw8
                clear hw8 hw8' bw8 hv7 bw7 oy2 hS6 by2
                obtain ⟨J, hJ⟩ : ∃ J, J = K - K % 2 := ⟨_, rfl⟩
                have hJ1 : J + 1 < 18 := by omega
                have HOR : Hid (Y.getD J 0 = (encL p).getD J 0 ∨ Y.getD (J + 1) 0 = (encL p).getD (J + 1) 0) := by
                  show Y.getD J 0 = (encL p).getD J 0 ∨ Y.getD (J + 1) 0 = (encL p).getD (J + 1) 0
                  rw [HYE.out, ← HEq.out]
                  by_cases hKJ : K = J
                  · exact .inr (getD_set_ne (by omega))
                  · exact .inl (getD_set_ne hKJ)
                go_cut [22] (fun s ww => s = .int .i64 (J : Int) ∧ ww = w8)
                case first =>
                  have eJ : Hid ((K : Int) - (K : Int) % 2 = (J : Int)) := by show (K : Int) - (K : Int) % 2 = (J : Int); omega
                  clear hJ
                  go_wp2_with fail
                  go_meet
                  case rel => exact ⟨congrArg (Value.int .i64) eJ.out, rfl⟩
                case rest =>
                  obtain ⟨hx, hy⟩ := hcut
                  subst hx hy
                  clear hJ
                  have x0 := hS8.1.cell J (by rw [← HEq.out]; omega)
                  have x1 := hS8.1.cell (J + 1) (by rw [← HEq.out]; omega)
                  have y0 := oy8.cell hYl.symm J (by omega)
                  have y1 := oy8.cell hYl.symm (J + 1) (by omega)
                  generalize (encL p).getD J 0 = X0 at x0 HOR
                  generalize (encL p).getD (J + 1) 0 = X1 at x1 HOR
                  generalize Y.getD J 0 = Y0 at y0 HOR
                  generalize Y.getD (J + 1) 0 = Y1 at y1 HOR
                  have j1 : (J : Int) < (N : Int) := by omega
                  have j2 : (J : Int) + 1 < (N : Int) := by omega
                  have j3 : (J : Int) < (ny : Int) := by omega
                  have j4 : (J : Int) + 1 < (ny : Int) := by omega
                  clear hYl
                  go_upto_region 19 with fail
                  clear HYE HEq HY
                  by_cases a0 : X0 = 0
                  · subst a0
                    by_cases a1 : X1 = 0
                    · subst a1
                      by_cases a2 : Y0 = 255
                      · subst a2
                        obtain rfl : Y1 = 0 := HOR.out.resolve_left (by decide)
                        clear HOR
                        go_wp2_with fail
                        go_meet
                        case rel => exact hS8
                      · have b2 : (Y0 == 255) = false := by simpa using a2
                        clear a2 HOR
                        go_wp2_with fail
                        go_meet
                        case rel => exact hS8
                    · have b1 : (X1 == 0) = false := by simpa using a1
                      clear a1 HOR
                      go_wp2_with fail
                      go_meet
                      case rel => exact hS8
                  · have b0 : (X0 == 0) = false := by simpa using a0
                    clear a0
                    by_cases a0 : X0 = 255
                    · subst a0
                      clear b0
                      by_cases a1 : X1 = 255
                      · subst a1
                        by_cases a2 : Y0 = 0
                        · subst a2
                          obtain rfl : Y1 = 255 := HOR.out.resolve_left (by decide)
                          clear HOR
                          go_wp2_with fail
                          go_meet
                          case rel => exact hS8
                        · have b2 : (Y0 == 0) = false := by simpa using a2
                          clear a2 HOR
                          go_wp2_with fail
                          go_meet
                          case rel => exact hS8
                      · have b1 : (X1 == 255) = false := by simpa using a1
                        clear a1 HOR
                        go_wp2_with fail
                        go_meet
                        case rel => exact hS8
                    · have d0 : (X0 == 255) = false := by simpa using a0
                      clear a0 HOR
                      go_wp2_with fail
                      go_meet
                      case rel => exact hS8
          case rest =>
            have hS2 := hcut
            clear hcut hS1 HC
            have ct := hS2.2.1.cells.2.1
            go_upto_if 183 with fail
            clear ct
            go_cut [29] (fun s ww => BkS w B g p (.slice ab nb cb) ww)
            case first =>
              by_cases ht : 0 < p.ttl
              · as_aux_lemma =>
                  have hbx := hS2.part N HN.out hN2 (Nat.le_refl _)
                  rw [List.take_of_length_le (show (encL p).length ≤ N by have := HN.out; rw [encL_length]; omega)] at hbx
                  have hst := step_any _ _ wc hbx
                  have hms := meas_step p HI.out ht
                  rw [stepE_enc p HI.out ht] at hst
                  have hsl : (stepL (encL p)).length ≤ 4018 := by
                    unfold stepL; rw [List.length_set, List.length_set, List.length_set, encL_length]; have := HN.out; omega
                  obtain ⟨L, HL⟩ : ∃ L, Hid (L = stepL (encL p)) := ⟨_, rfl⟩
                  rw [← HL.out] at hst hms hsl
                  clear hbx
                  go_wp2_with fail
                  refine hst.mono ?_
                  rintro e w4 ⟨hyes, _, bw4⟩
                  obtain ⟨v4, rfl, own4⟩ := hyes (by simp)
                  have hS4 := hS2.step bw4
                  have hrd := read_any _ _ w4 (own4.bytes (by omega))
                  obtain ⟨q, HQ⟩ : ∃ q, Hid (q = lessT p) := ⟨_, rfl⟩
                  rw [hms.1, hms.2, errV_ok, ← HQ.out] at hrd
                  obtain ⟨a4, l4, c4, rfl⟩ := own4.slice
                  have eN : 18 + (p.body.length : Int) = (N : Int) := by have := HN.out; omega
                  simp only [eN] at hrd
                  unfold pkV at hrd
                  have hqt : 0 ≤ q.ttl ∧ q.ttl ≤ 254 := by rw [HQ.out]; unfold lessT; simp only; omega
                  clear hst hyes hms own4 hS2 bw4 eN
                  go_wp2_with fail
                  refine hrd.mono ?_
                  rintro e w5 ⟨v5, rfl, hv5, bw5⟩
                  obtain ⟨a5, c5, rfl⟩ := len_body hv5
                  have hS5 := hS4.step bw5
                  have hp6 := PkAt.new w5 q (.slice a5 q.body.length c5)
                  have b56 : Below w5.heap.size w5 (w5.alloc (.cells #[.int .i64 q.kind, .int .i64 q.ttl, .int .i64 q.ident, .int .i64 q.src, .int .i64 q.dst, .int .i64 q.pos, .bool q.more, .slice a5 q.body.length c5] 47)) := (Below.refl _ _).alloc (Nat.le_refl _) _
                  clear hrd hS4 bw5
                  go_upto_region 25 with fail
                  obtain ⟨w6, hw6⟩ : ∃ w6, w5.alloc (.cells #[.int .i64 q.kind, .int .i64 q.ttl, .int .i64 q.ident, .int .i64 q.src, .int .i64 q.dst, .int .i64 q.pos, .bool q.more, .slice a5 q.body.length c5] 47) = w6 := ⟨_, rfl⟩
                  rw [hw6] at b56 hp6 ⊢
                  obtain ⟨B5, hB5⟩ : ∃ B5, B5 = w5.heap.size := ⟨_, rfl⟩
                  rw [← hB5] at hp6 ⊢
                  have HB5 : Hid (B5 = w5.heap.size) := hB5
                  have d1 := hp6.cells.2.1
                  have f1 := hp6.free 1
                  clear hw6 hB5
                  go_upto_region 26 with fail
                  obtain ⟨w7, hw7, hp7, ho7⟩ := hp6.set1 (q.ttl + 1)
                  rw [hw7]
                  have e7 : ({ q with ttl := q.ttl + 1 } : Pk) = p := by rw [HQ.out]; exact less_more p
                  rw [e7] at hp7
                  have b57 : Below w5.heap.size w5 w7 := ho7.below (Nat.le_of_eq HB5.out.symm) b56
                  have hS7 := hS5.step b57
                  have hbq := hv5.below (Nat.le_refl _) b57
                  have eb : q.body = p.body := by rw [HQ.out]; rfl
                  rw [eb, HNB.out] at hbq
                  rw [eb, HNB.out] at hp7
                  have hbp := HB.out.below (Nat.le_refl _) hS7.2.2
                  have hsm := samePk p _ _ w7 hbq hbp
                  unfold pkV at hsm
                  obtain ⟨d0, d1, d2, d3, d4, d5, d6, d7⟩ := hp7.cells
                  obtain ⟨c0, c1, c2, c3, c4, c5, c6, c7⟩ := hS7.2.1.cells
                  clear hw7 hp6 hp7 ho7 e7 eb b56 b57 hS5 hv5 hbq hbp f1 hqt
                  go_wp2_with (go_at_call 25; refine hsm.mono ?_; rintro e w8 ⟨rfl, bw8⟩)
                  go_meet
                  case rel => exact hS7.step bw8
              · go_wp2_with fail
                go_meet
                case rel => exact hS2
            case rest =>
              have hS3 := hcut
              clear hcut hS2
              as_aux_lemma =>
                obtain ⟨E, HEq⟩ : ∃ E, Hid (E = encL p) := ⟨_, rfl⟩
                have hel : E.length = N := by rw [HEq.out, encL_length]; exact HN.out.symm
                obtain ⟨hrow, hpk, hbel⟩ := hS3
                have hown := hrow.own hgw (by rw [← HEq.out, hel]; unfold maxLen; omega)
                rw [← HEq.out, hel] at hown
                have hvz := HV.out.below (Nat.le_refl _) hbel
                have hsum : E.length + zs.length ≤ 140737488355328 := by omega
                have HLE : Hid (E.length = N) := hel
                clear hel hrow
                go_upto_region 30 with (at_builtin; refine wpList_append_bytes rfl (.tmp 217) (.tmp 218) rfl w.heap.size _ E rfl hown _ zs rfl hvz hsum hbel.size ?_; intro vx wx ox growx)
                have bx : Below w.heap.size w wx := hbel.grown growx hbel.size (fun k hk => (hown.1.lt k hk).1)
                have hpx : PkAt wx B p (.slice ab nb cb) := by
                  unfold PkAt
                  rw [growx.block B hpk.lt (fun h => absurd (Option.some.inj (show some B = some g from h)) (by omega))]
                  exact hpk
                have hbx := ox.bytes (by rw [List.length_append]; omega)
                have hrd := read_any _ _ wx hbx
                rw [HEq.out, meas_enc p zs HI.out, readF_enc p zs HI.out, errV_ok] at hrd
                have eN : 18 + (p.body.length : Int) = (N : Int) := by have := HN.out; omega
                simp only [eN] at hrd
                unfold pkV at hrd
                clear growx hown hvz hsum hbx eN ox hpk hbel
                go_wp2_with fail
                refine hrd.mono ?_
                rintro e w5 ⟨v5, rfl, hv5, bw5⟩
                obtain ⟨a5, c5, rfl⟩ := len_body hv5
                have hp5 := hpx.below hpx.lt bw5
                have b5 : Below w.heap.size w w5 := bx.trans (bw5.mono bx.size)
                have hp6 := PkAt.new w5 p (.slice a5 p.body.length c5)
                have b56 : Below w5.heap.size w5 (w5.alloc (.cells #[.int .i64 p.kind, .int .i64 p.ttl, .int .i64 p.ident, .int .i64 p.src, .int .i64 p.dst, .int .i64 p.pos, .bool p.more, .slice a5 p.body.length c5] 47)) := (Below.refl _ _).alloc (Nat.le_refl _) _
                clear hrd hpx bw5 bx
                go_upto_region 31 with fail
                obtain ⟨w6, hw6⟩ : ∃ w6, w5.alloc (.cells #[.int .i64 p.kind, .int .i64 p.ttl, .int .i64 p.ident, .int .i64 p.src, .int .i64 p.dst, .int .i64 p.pos, .bool p.more, .slice a5 p.body.length c5] 47) = w6 := ⟨_, rfl⟩
                rw [hw6] at b56 hp6 ⊢
                have hq5 := hp5.below hp5.lt b56
                have b6 : Below w.heap.size w w6 := b5.trans (b56.mono b5.size)
                have hb1 := hv5.below (Nat.le_refl _) b56
                have hb2 := HB.out.below (Nat.le_refl _) b6
                rw [HNB.out] at hb1 hp6
                have hsm := samePk p _ _ w6 hb1 hb2
                unfold pkV at hsm
                obtain ⟨d0, d1, d2, d3, d4, d5, d6, d7⟩ := hp6.cells
                obtain ⟨c0, c1, c2, c3, c4, c5, c6, c7⟩ := hq5.cells
                clear hw6 hp6 hq5 hb1 hb2 b56 hp5 b5 hv5
                go_wp2_with (go_at_call 25; refine hsm.mono ?_; rintro e w8 ⟨rfl, bw8⟩)
                go_ret
                exact ⟨rfl, b6.trans (bw8.mono b6.size)⟩
  · generalize pkErr p = m at hen he
    go_wp2_with (go_at_call 22; refine hen.mono ?_; rintro e w3 ⟨_, hno, bw3⟩; obtain rfl := hno he; clear hno)
    go_ret
    exact ⟨rfl, bw2.trans (bw3.mono bw2.size)⟩
end Go.Proofs.YtpenenaifajejabDoor
