/- HeavyPlays: the law's walk, given what the reference's Merge leaves. -/
import Derived.Test.YtchailjgikjhlaaDoorHvPl0
import Derived.Test.YtchailjgikjhlaaDoorOpenSw
import Derived.Deep.LoopGhost
import Derived.Deep.CutBlock
namespace Go.Proofs.YtchailjgikjhlaaDoor
open Go.RowKit Go.Maps
set_option linter.unusedVariables false

/-- What the reference's Merge leaves. -/
def RMergeOk : Prop := ∀ (base b b' : Nat) (h o : Hv) (v v' : Value) (w : World), RfAt w base b h v → RfAt w base b' o v' → HvOk h → HvOk o → base ≤ w.heap.size → b ≠ b' → (∀ q, v.ownBlock = some q → v'.ownBlock ≠ some q) → o.n = h.n → ¬ 1099511627776 < h.all + o.all →
  Calls Tryd.prog 11 #[.pointer (some ⟨b, 0, none⟩), .pointer (some ⟨b', 0, none⟩)] w fun e w' => e = .returned (.int .i64 0) ∧ ∃ ql : Cs, ql.Perm (mergeL h.l o.l) ∧ FallC ql ∧ RfP w base b v (mrgS h o ql) w'
theorem Cts.len {w : World} {v : Value} {qs : List Ct} (h : Cts w v qs) : ∃ a c, v = .slice a qs.length c := by
  rcases h with ⟨rfl, rfl⟩ | ⟨b, len, cap, rfl, _, _, rfl, _⟩
  · exact ⟨_, _, rfl⟩
  · exact ⟨_, _, rfl⟩
theorem Cts.below {w w' : World} {v : Value} {qs : List Ct} (h : Cts w v qs) (hb : Below w.heap.size w w') : Cts w' v qs := by
  rcases h with h | ⟨b, len, cap, h1, h2, h3, h4, h5, h6⟩
  · exact .inl h
  · exact .inr ⟨b, len, cap, h1, h2, h3, h4, Nat.lt_of_lt_of_le h5 hb.size, fun i hi => ⟨(hb.cell (p := ⟨b, i * 3 + 0, none⟩) h5).trans (h6 i hi).1, (hb.cell (p := ⟨b, i * 3 + 1, none⟩) h5).trans (h6 i hi).2.1, (hb.cell (p := ⟨b, i * 3 + 2, none⟩) h5).trans (h6 i hi).2.2⟩⟩
theorem Cts.at {w : World} {v : Value} {qs : List Ct} (h : Cts w v qs) (hz : 0 < qs.length) : ∃ g c, v = .slice (some ⟨g, 0, none⟩) qs.length c ∧ qs.length ≤ c ∧ c ≤ maxLen ∧ ∀ i (hi : i < qs.length), w.cell? ⟨g, i * 3, none⟩ = some (.int .i64 qs[i].key) ∧ w.cell? ⟨g, i * 3 + 1, none⟩ = some (.int .i64 qs[i].many) ∧ w.cell? ⟨g, i * 3 + 2, none⟩ = some (.int .i64 qs[i].less) := by
  rcases h with ⟨rfl, rfl⟩ | ⟨b, len, cap, rfl, h2, h3, rfl, h5, h6⟩
  · simp at hz
  · exact ⟨b, cap, rfl, h2, h3, fun i hi => h6 i hi⟩
theorem rf_new {w : World} (n : Int) {B : Nat} (hB : w.heap.size < B) : RfAt (w.alloc (.cells #[.int .i64 n, .int .i64 0, .int .i64 0, .slice none 0 0] 32)) B w.heap.size { n := n, less := 0, all := 0, l := [] } (.slice none 0 0) := ⟨heap_alloc_new _ _, OwnN.nil _ _, hB⟩
theorem PlS.bPart {w X X1 : World} {n m : Int} {ma bx mb yb B : Nat} {ha hx hb hy : Hv} {vx vy : Value} (s : PlS w n m ma bx mb yb B ha hx hb hy vx vy X) (o : Ord w m ma bx mb yb B) (hm : numB m = true) (t : Turn (fun i => i = mb + 1 ∨ i = mb) X X1) :
    RfAt X1 B yb hy vy ∧ Below w.heap.size w X1 ∧ B ≤ X1.heap.size := by
  have o1 := o.o1
  have o2 := o.o2
  have o3 := o.o3
  have o4 := o.o4
  have o5 := o.o5 hm
  exact ⟨s.ry.turn t (by omega) (fun q hq => by have := (s.far.2 q hq).1; omega), t.below s.bel s.bel.size (fun i hi => by rcases hi with rfl | rfl <;> omega), Nat.le_trans s.hB t.size⟩
set_option maxRecDepth 100000 in
set_option maxHeartbeats 16000000 in
theorem hplays_early (n m : Int) (v1 v2 : Value) (key : Int) (w : World) (hn : numB n = false) (hE : ErrLaid w) :
    Calls Tryd.prog 3 #[.int .i64 n, .int .i64 m, v1, v2, .int .i64 key] w fun e w' => e = .returned (.bool true) ∧ Below w.heap.size w w' := by
  have hc := hnew_bad n w hn
  have he := err_same (a := 1) (b := 1) rfl w hE
  rw [show errI 1 = .iface 47 (.int .i64 1) from rfl] at he
  rcases (by unfold numB at hn; simp at hn; omega : n < 1 ∨ (¬ n < 1 ∧ 20 < n)) with h1 | ⟨h1, h2⟩
  all_goals
    clear hn
    go_enter Tryd.func3, Tryd.ntmps3
    go_wp2_with (first
      | (go_at_call 4; go_must (refine hc.mono ?_; rintro e W3 ⟨rfl, hW3⟩; rw [hW3]; clear hW3 W3))
      | (go_at_call 5; go_must (refine he.mono ?_; rintro e W4 ⟨rfl, b4⟩)))
    go_ret
    exact ⟨rfl, b4⟩
set_option maxRecDepth 100000 in
set_option maxHeartbeats 64000000 in
theorem hplays_any (RM : RMergeOk) (n m : Int) (v1 : Value) (l : List Sp) (v2 : Value) (l2 : List Sp) (key : Int) (w : World) (hn : numB n = true) (hv : Spns w v1 l) (hl : l.length ≤ 140737488355328) (hwf : ∀ p ∈ l, SpWf p) (hv2 : Spns w v2 l2) (hl2 : l2.length ≤ 140737488355328) (hwf2 : ∀ p ∈ l2, SpWf p) (hkw : WfK key) (hE : ErrLaid w) :
    Calls Tryd.prog 3 #[.int .i64 n, .int .i64 m, v1, v2, .int .i64 key] w fun e w' => e = .returned (.bool true) ∧ Below w.heap.size w w' := by
  have hc := hnew_ok n w hn
  have hn1 : 1 ≤ n := by unfold numB at hn; simp at hn; omega
  have hn2 : n ≤ 20 := by unfold numB at hn; simp at hn; omega
  obtain ⟨av, cv, rfl⟩ := hv.len
  obtain ⟨av2, cv2, rfl⟩ := hv2.len
  have HWF := hidE hwf
  have HWF2 := hidE hwf2
  have HKW := hidE hkw
  have HRM := hidE RM
  have HEL := hidE (fun X (b : Below w.heap.size w X) => hE.below b)
  have HSH : Hid (∀ i, i < l.length → ∃ g off, av = some ⟨g, off, none⟩ ∧ g < w.heap.size ∧ ∀ j (h : j < l.length), SpC w g (off + j * 2) l[j]) := fun i hi => by
    obtain ⟨g, off, h1, h2, _, _, h3⟩ := hv.shape (by omega)
    exact ⟨g, off, h1, h2, h3⟩
  have HSH2 : Hid (∀ i, i < l2.length → ∃ g off, av2 = some ⟨g, off, none⟩ ∧ g < w.heap.size ∧ ∀ j (h : j < l2.length), SpC w g (off + j * 2) l2[j]) := fun i hi => by
    obtain ⟨g, off, h1, h2, _, _, h3⟩ := hv2.shape (by omega)
    exact ⟨g, off, h1, h2, h3⟩
  clear hv hwf hn hv2 hwf2 hkw hE RM
  go_enter Tryd.func3, Tryd.ntmps3
  go_upto_region 2 with (go_at_call 4; go_must (refine hc.mono ?_; rintro e W1 ⟨rfl, k1, b1, s1⟩))
  have he := err_same (a := 0) (b := 0) rfl W1 (HEL.out W1 b1)
  rw [show errI 0 = .nilIface from rfl] at he
  go_upto_region 6 with (go_at_call 5; go_must (refine he.mono ?_; rintro e W2 ⟨rfl, b2⟩))
  have HK2 := hidE (k1.below b2)
  have HB2 := hidE (b1.trans (b2.mono b1.size))
  have hs2 : w.heap.size + 2 ≤ W2.heap.size := by have := b2.size; omega
  clear k1 b1 s1 b2 hc he
  go_upto_region 9 with fail
  obtain ⟨bx, hbx⟩ : ∃ bx, W2.heap.size = bx := ⟨_, rfl⟩
  have hx3 : (W2.alloc (.cells #[.int .i64 n, .int .i64 0, .int .i64 0, .slice none 0 0] 32)).heap[bx]? = some (.cells #[.int .i64 n, .int .i64 0, .int .i64 0, .slice none 0 0] 32 (0, 0)) := by rw [← hbx]; exact heap_alloc_new _ _
  have hz3 : (W2.alloc (.cells #[.int .i64 n, .int .i64 0, .int .i64 0, .slice none 0 0] 32)).heap.size = bx + 1 := by simp [hbx]
  have hB3 : Below W2.heap.size W2 (W2.alloc (.cells #[.int .i64 n, .int .i64 0, .int .i64 0, .slice none 0 0] 32)) := (Below.refl _ _).alloc (Nat.le_refl _) _
  have HK3 := hidE (HK2.out.below hB3)
  have HB3 := hidE (HB2.out.trans (hB3.mono HB2.out.size))
  obtain ⟨W3, hW3⟩ : ∃ W3, W2.alloc (.cells #[.int .i64 n, .int .i64 0, .int .i64 0, .slice none 0 0] 32) = W3 := ⟨_, rfl⟩
  rw [hW3] at hx3 hz3 HK3 HB3 ⊢
  rw [hbx] at hs2 ⊢
  have HX3 := hidE hx3
  clear hW3 hbx hB3 HK2 HB2 hx3
  go_cut [12, 16] (fun v12 v16 wx => ∃ mb : Nat, Hid ((numB m = true ∧ v12 = .nilIface ∧ v16 = .pointer (some ⟨mb + 1, 0, none⟩) ∧ bx < mb ∧ mb + 1 < wx.heap.size ∧ HvAt wx (mb + 1) mb { n := m, less := 0, all := 0, l := [] }) ∨ (numB m = false ∧ v12 = .iface 47 (.int .i64 1) ∧ v16 = .pointer none)) ∧ Hid (Below W3.heap.size W3 wx))
  case first =>
    cases hm : numB m
    · have hc := hnew_bad m W3 hm
      go_wp2_with (go_at_call 4; go_must (refine hc.mono ?_; rintro e W4 ⟨rfl, hW4⟩; rw [hW4]; clear hW4 W4))
      go_meet
      exact ⟨0, .inr ⟨hm, rfl, rfl⟩, Below.refl _ _⟩
    · have hc := hnew_ok m W3 hm
      go_wp2_with (go_at_call 4; go_must (refine hc.mono ?_; rintro e W4 ⟨rfl, k4, b4, s4⟩))
      go_meet
      exact ⟨W3.heap.size, .inl ⟨hm, rfl, by rw [hz3], by omega, by omega, k4⟩, b4⟩
  case rest =>
    obtain ⟨mb, HMB, HB4⟩ := hcut
    obtain ⟨W4, hW4⟩ : ∃ W4, wc = W4 := ⟨_, rfl⟩
    rw [hW4] at HMB HB4
    rw [hW4]
    clear hW4
    go_upto_region 11 with fail
    obtain ⟨yb, hyb⟩ : ∃ yb, W4.heap.size = yb := ⟨_, rfl⟩
    have hB5 : Below W4.heap.size W4 (W4.alloc (.cells #[.int .i64 m, .int .i64 0, .int .i64 0, .slice none 0 0] 32)) := (Below.refl _ _).alloc (Nat.le_refl _) _
    have HS0 : Hid (∃ hx hb hy vx vy ha, PlS w n m w.heap.size bx mb yb (yb + 1) ha hx hb hy vx vy (W4.alloc (.cells #[.int .i64 m, .int .i64 0, .int .i64 0, .slice none 0 0] 32)) ∧ hb = { n := m, less := 0, all := 0, l := [] }) := by
      have bA := HB4.out.trans (hB5.mono HB4.out.size)
      refine ⟨{ n := n, less := 0, all := 0, l := [] }, _, { n := m, less := 0, all := 0, l := [] }, .slice none 0 0, .slice none 0 0, { n := n, less := 0, all := 0, l := [] }, ⟨HK3.out.below bA, ⟨?_, OwnN.nil _ _, ?_⟩, fun e => ?_, ?_, SameH.refl _, HvOk.new ⟨hn1, hn2⟩, rfl, (fun q hq => nomatch hq), HB3.out.trans (bA.mono HB3.out.size), ?_⟩, rfl⟩
      · exact (bA.block bx (blkLt HX3.out)).trans HX3.out
      · have := HB4.out.size; omega
      · rcases HMB.out with ⟨_, _, _, q1, q2, q3⟩ | ⟨q0, _⟩
        · refine ⟨q3.below hB5, HvOk.new ?_, rfl, SameH.refl _⟩
          unfold numB at e; simp at e; omega
        · rw [q0] at e; cases e
      · have := rf_new (w := W4) m (B := yb + 1) (by omega)
        rw [hyb] at this
        exact this
      · simp [hyb]
    have HORD : Hid (Ord w m w.heap.size bx mb yb (yb + 1)) := by
      have q1 := HB4.out.size
      refine ⟨Nat.le_refl _, by omega, by omega, by omega, fun e => ?_⟩
      rcases HMB.out with ⟨_, _, _, q1, q2, q3⟩ | ⟨q0, _⟩
      · exact ⟨q1, by omega⟩
      · rw [q0] at e; cases e
    have HMC : Hid ((numB m = true ∧ u12 = .nilIface ∧ u16 = .pointer (some ⟨mb + 1, 0, none⟩)) ∨ (numB m = false ∧ u12 = .iface 47 (.int .i64 1) ∧ u16 = .pointer none)) := by
      rcases HMB.out with ⟨q0, q1, q2, _⟩ | q
      · exact .inl ⟨q0, q1, q2⟩
      · exact .inr q
    obtain ⟨W5, hW5⟩ : ∃ W5, W4.alloc (.cells #[.int .i64 m, .int .i64 0, .int .i64 0, .slice none 0 0] 32) = W5 := ⟨_, rfl⟩
    rw [hW5] at HS0 ⊢
    rw [hyb]
    clear hW5 hyb hB5 HB4 HX3 HK3 HB3 HMB
    go_upto_block 0 with fail
    go_cut [14, 18] (fun _ _ wx => Hid (∃ hx hb hy vx vy ha, PlS w n m w.heap.size bx mb yb (yb + 1) ha hx hb hy vx vy wx))
    case first =>
      go_wp2_with fail
      go_loopw [14, 18] (fun _ v18 wr => ∃ i : Nat, v18 = .int .i64 (i : Int) ∧ i ≤ 60 ∧ Hid (∃ hx hb hy vx vy ha, PlS w n m w.heap.size bx mb yb (yb + 1) ha hx hb hy vx vy wr)) (fun _ v18 _ => (100 - intOf v18).toNat)
      case atStart =>
        obtain ⟨hx, hb, hy, vx, vy, ha, h1, _⟩ := HS0.out
        exact ⟨0, rfl, by omega, ⟨hx, hb, hy, vx, vy, ha, h1⟩⟩
      case round =>
        clear HS0
        obtain ⟨i, rfl, hi60, HS⟩ := hrel
        by_cases hi : i < l.length ∧ i < 60
        · have hi1 : (i : Int) < (l.length : Int) := by omega
          have hi2 : (i : Int) < 60 := by omega
          obtain ⟨hx, hb, hy, vx, vy, ha, hS⟩ := HS.out
          obtain ⟨g, off, rfl, hg, hcells⟩ := HSH.out i hi.1
          obtain ⟨c0, c1⟩ := hcells i hi.1
          have hwk := HWF.out _ (List.getElem_mem hi.1)
          obtain ⟨k, hk⟩ : ∃ k, (l[i]'hi.1).1 = k := ⟨_, rfl⟩
          obtain ⟨mn, hmn⟩ : ∃ mn, (l[i]'hi.1).2 = mn := ⟨_, rfl⟩
          have HK : Hid (WfK k) := by rw [← hk]; exact wfOf hwk.1
          rw [hk] at c0
          rw [hmn] at c1
          have HCB : Hid (∀ X, Below w.heap.size w X → X.cell? ⟨g, off + i * 2, none⟩ = some (.int .i64 k) ∧ X.cell? ⟨g, off + i * 2 + 1, none⟩ = some (.int .i64 mn)) := fun X bX => ⟨(bX.cell (p := ⟨g, off + i * 2, none⟩) hg).trans c0, (bX.cell (p := ⟨g, off + i * 2 + 1, none⟩) hg).trans c1⟩
          have hSr := HCB.out _ hS.bel
          have HSS := hidE hS
          have hadd := add_any (w.heap.size + 1) w.heap.size ha k mn wr.drew (hS.va.keep rfl rfl) hS.oa HK.out
          clear hwk hcells hk hmn c0 c1 hS HS
          go_upto_block 1 with fail
          go_cut [14] (fun _ wx => Hid (∃ hx hb hy vx vy ha, PlS w n m w.heap.size bx mb yb (yb + 1) ha hx hb hy vx vy wx))
          case first =>
            go_upto_region 14 with fail
            go_region_held3 (fun X => X.cell? ⟨g, off + i * 2, none⟩ = some (.int .i64 k) ∧ X.cell? ⟨g, off + i * 2 + 1, none⟩ = some (.int .i64 mn)) (with_reducible first | assumption | exact hSr | go_keep) (first
              | (go_at_call 6; go_must ((with_reducible refine hadd.mono ?_); rintro e W6 ⟨rfl, k6, t6⟩; have t6' := Turn.drewN' t6; have p6 := HSS.out.aPart HORD.out k6 t6'; have hS6 := HCB.out W6 p6.2.2.2.1; have hradd := radd_any (yb + 1) bx hx vx k mn W6 p6.1 HSS.out.okx p6.2.2.2.2; have H6 : Hid (HvAt W6 (w.heap.size + 1) w.heap.size (addS ha k mn) ∧ Turn (fun i => i = w.heap.size + 1 ∨ i = w.heap.size) wr W6) := ⟨k6, t6'⟩; clear k6 t6 t6' p6))
              | (go_at_call 7; (with_reducible refine hradd.mono ?_); rintro e W7 ⟨rfl, k7⟩; obtain ⟨hx', vx', S7⟩ := HSS.out.stepA HORD.out H6.out.1 H6.out.2 k7 (HSS.out.sx.add HSS.out.okx k mn) (HSS.out.oa.add k mn) ((addS_n _ _ _).trans HSS.out.na); have hS7 := HCB.out W7 S7.bel; have herr := err_same (HSS.out.sx.addE mn).symm W7 (HEL.out W7 S7.bel); have HS7 := hidE S7; clear k7 S7)
              | (go_at_call 5; (with_reducible refine herr.mono ?_); rintro e W8 ⟨rfl, b8⟩; have HS8 := hidE (HS7.out.below b8); have hS8 := HCB.out W8 HS8.out.bel; clear b8))
            have HS9 := HS8
            have hcA : ∀ u : Ext W8, Calls Tryd.prog 8 #[.pointer (some ⟨w.heap.size + 1, 0, none⟩), .int .i64 k] u.W fun e w' => e = .returned (.agg #[.int .i64 k, .int .i64 (getC (addS ha k mn).l k), .int .i64 (addS ha k mn).less]) ∧ ∃ u' : Ext W8, w' = u'.W := fun u => (count_any _ _ _ k u.W (HS8.out.va.below u.h) HK.out).mono fun e w' ⟨he, hb⟩ => ⟨he, ⟨w', u.h.trans (hb.mono u.h.size)⟩, rfl⟩
            have hcX : ∀ u : Ext W8, Calls Tryd.prog 9 #[.pointer (some ⟨bx, 0, none⟩), .int .i64 k] u.W fun e w' => e = .returned (.agg #[.int .i64 k, .int .i64 (getC (addS ha k mn).l k), .int .i64 (addS ha k mn).less]) ∧ ∃ u' : Ext W8, w' = u'.W := fun u => (rcount_any _ _ _ _ k u.W (HS8.out.rx.below u.h) (by have := HS8.out.okx.le; have := HS8.out.okx.nn; omega) HS8.out.okx.ap).mono fun e w' ⟨he, hb⟩ => ⟨by rw [he, HS8.out.sx.get HS8.out.okx k, HS8.out.sx.less]; rfl, ⟨w', u.h.trans (hb.mono u.h.size)⟩, rfl⟩
            generalize getC (addS ha k mn).l k = G at hcA hcX
            generalize (addS ha k mn).less = LS at hcA hcX
            have hneq : ∀ u : Ext W8, (binOp .neq 37 (.agg #[.int .i64 k, .int .i64 G, .int .i64 LS]) (.agg #[.int .i64 k, .int .i64 G, .int .i64 LS])).run Tryd.prog u.W = .ok (.bool false) u.W := fun u => Tryd.cntNeq _ _ _ _
            have x0 := Ext.cell hS8.1
            go_upto_region 15 with fail
            refine wp_region_ext (by kernel_rfl) (by kernel_rfl) ?_
            repeat (go_big_quiet_step (first | (go_at_call 8; exact hcA _) | (go_at_call 9; exact hcX _)))
            refine wpQuiet_nil ?_
            rintro _ ⟨u, rfl⟩
            have HSU := hidE (HS9.out.below u.h)
            obtain ⟨WU, hWU⟩ : ∃ X9, u.W = X9 := ⟨_, rfl⟩
            rw [hWU] at HSU
            rw [hWU]
            clear hWU u hcA hcX hneq x0
            go_wp2_with fail
            go_meet
            exact ⟨_, _, _, _, _, _, HSU.out⟩
          case rest =>
            have HNX := hcut
            clear hcut hadd hSr
            go_wp2_with fail
            go_roundw
            case rel => exact ⟨i + 1, by simp, by omega, HNX⟩
            case measure => simp only [intOf]; omega
        · rcases (by omega : (¬ (i : Int) < (l.length : Int)) ∨ ((i : Int) < (l.length : Int) ∧ ¬ (i : Int) < 60)) with hd | ⟨hd, hd2⟩
          all_goals
            clear hi
            go_wp2_with fail
            go_meet
            exact HS
    case rest =>
      have HS1 := hcut
      clear hcut HS0
      have hcmp : ∀ X, (binOp .eql 25 u12 .nilIface).run Tryd.prog X = .ok (.bool (numB m)) X := by
        intro X
        rcases HMC.out with ⟨hm, h1, _⟩ | ⟨hm, h1, _⟩
        · rw [hm, h1]; exact run_eql_nil_nil _ _ (by kernel_rfl)
        · rw [hm, h1]; exact run_eql_held_nil _ _ _ _ (by kernel_rfl)
      have hgrd : ∀ X, (eqGuard .eql 25 (.tmp 109) (.const .nilIface) u12 .nilIface).run Tryd.prog X = .ok () X := by
        intro X
        rcases HMC.out with ⟨hm, h1, _⟩ | ⟨hm, h1, _⟩
        · rw [h1]; first | rfl | simp [eqGuard, go_sem]
        · rw [h1]; first | rfl | simp [eqGuard, go_sem]
      go_upto_if 110 with fail
      clear hcmp hgrd
      go_cut [14, 19] (fun _ _ wx => Hid (∃ hx hb hy vx vy ha, PlS w n m w.heap.size bx mb yb (yb + 1) ha hx hb hy vx vy wx))
      case first =>
        rcases HMC.out with ⟨hm, rfl, rfl⟩ | ⟨hm, rfl, rfl⟩
        · simp only [hm]
          go_upto_block 2 with fail
          go_cut [19] (fun _ wx => Hid (∃ hx hb hy vx vy ha, PlS w n m w.heap.size bx mb yb (yb + 1) ha hx hb hy vx vy wx))
          case first =>
            go_wp2_with fail
            go_loopw [19] (fun v19 wr => ∃ i : Nat, v19 = .int .i64 (i : Int) ∧ i ≤ 60 ∧ Hid (∃ hx hb hy vx vy ha, PlS w n m w.heap.size bx mb yb (yb + 1) ha hx hb hy vx vy wr)) (fun v19 _ => (100 - intOf v19).toNat)
            case atStart => exact ⟨0, rfl, by omega, HS1⟩
            case round =>
              clear HS1
              obtain ⟨i, rfl, hi60, HS⟩ := hrel
              by_cases hi : i < l2.length ∧ i < 60
              · have hi1 : (i : Int) < (l2.length : Int) := by omega
                have hi2 : (i : Int) < 60 := by omega
                obtain ⟨hx, hb, hy, vx, vy, ha, hS⟩ := HS.out
                obtain ⟨g, off, rfl, hg, hcells⟩ := HSH2.out i hi.1
                obtain ⟨c0, c1⟩ := hcells i hi.1
                have hwk := HWF2.out _ (List.getElem_mem hi.1)
                obtain ⟨k, hk⟩ : ∃ k, (l2[i]'hi.1).1 = k := ⟨_, rfl⟩
                obtain ⟨mn, hmn⟩ : ∃ mn, (l2[i]'hi.1).2 = mn := ⟨_, rfl⟩
                have HK : Hid (WfK k) := by rw [← hk]; exact wfOf hwk.1
                rw [hk] at c0
                rw [hmn] at c1
                have HCB : Hid (∀ X, Below w.heap.size w X → X.cell? ⟨g, off + i * 2, none⟩ = some (.int .i64 k) ∧ X.cell? ⟨g, off + i * 2 + 1, none⟩ = some (.int .i64 mn)) := fun X bX => ⟨(bX.cell (p := ⟨g, off + i * 2, none⟩) hg).trans c0, (bX.cell (p := ⟨g, off + i * 2 + 1, none⟩) hg).trans c1⟩
                have hSr := HCB.out _ hS.bel
                have HSS := hidE hS
                have hadd := add_any (mb + 1) mb hb k mn wr.drew ((hS.vb hm).1.keep rfl rfl) (hS.vb hm).2.1 HK.out
                clear hwk hcells hk hmn c0 c1 hS HS
                go_upto_region 21 with fail
                go_region_held3 (fun X => X.cell? ⟨g, off + i * 2, none⟩ = some (.int .i64 k) ∧ X.cell? ⟨g, off + i * 2 + 1, none⟩ = some (.int .i64 mn)) (with_reducible first | assumption | exact hSr | go_keep) (first
                  | (go_at_call 6; go_must ((with_reducible refine hadd.mono ?_); rintro e W6 ⟨rfl, k6, t6⟩; have t6' := Turn.drewN' t6; have p6 := HSS.out.bPart HORD.out hm t6'; have hS6 := HCB.out W6 p6.2.1; have hradd := radd_any (yb + 1) yb hy vy k mn W6.drew (p6.1.keep rfl (fun _ _ => rfl)) (HSS.out.oky hm) p6.2.2; have H6 : Hid (HvAt W6 (mb + 1) mb (addS hb k mn) ∧ Turn (fun i => i = mb + 1 ∨ i = mb) wr W6) := ⟨k6, t6'⟩; clear k6 t6 t6' p6)))
                go_upto_region 22 with fail
                go_region_held3 (fun X => X.cell? ⟨g, off + i * 2, none⟩ = some (.int .i64 k) ∧ X.cell? ⟨g, off + i * 2 + 1, none⟩ = some (.int .i64 mn)) (with_reducible first | assumption | exact hS6 | go_keep) (first
                  | (go_at_call 7; go_must ((with_reducible refine hradd.mono ?_); rintro e W7 ⟨rfl, k7⟩; have k7' : RfP W6 (yb + 1) yb vy (addS hy k mn) W7 := ⟨k7.ex, Turn.drewN' k7.tn⟩; obtain ⟨hy', vy', S7⟩ := HSS.out.stepB HORD.out hm H6.out.1 H6.out.2 k7' ((HSS.out.vb hm).2.2.2.add (HSS.out.oky hm) k mn) ((HSS.out.vb hm).2.1.add k mn) ((addS_n _ _ _).trans (HSS.out.vb hm).2.2.1); have hS7 := HCB.out W7 S7.bel; have HS7 := hidE S7; clear k7 k7' S7)))
                clear hadd hradd hSr hS6 hS7 HCB
                go_wp2_with fail
                go_roundw
                case rel => exact ⟨i + 1, by simp, by omega, ⟨_, _, _, _, _, _, HS7.out⟩⟩
                case measure => simp only [intOf]; omega
              · rcases (by omega : (¬ (i : Int) < (l2.length : Int)) ∨ ((i : Int) < (l2.length : Int) ∧ ¬ (i : Int) < 60)) with hd | ⟨hd, hd2⟩
                all_goals
                  clear hi
                  go_wp2_with fail
                  go_meet
                  exact HS
          case rest =>
            clear HS1
            obtain ⟨hx, hb, hy, vx, vy, ha, hS⟩ := hcut.out
            clear hcut
            obtain ⟨vb1, vb2, vb3, vb4⟩ := hS.vb hm
            have oky := hS.oky hm
            have okx := hS.okx
            have HSS := hidE hS
            have hod := HORD.out
            have od2 := hod.o2
            have od3 := hod.o3
            have od5 := hod.o5 hm
            by_cases hnm : hb.n = ha.n
            · by_cases hfl : 1099511627776 < ha.all + hb.all
              · have c1 := merge_full (w.heap.size + 1) w.heap.size (mb + 1) mb ha hb _ hS.va vb1 hS.oa vb2 hnm hfl
                clear hS
                go_upto_region 24 with (first
                  | (go_at_call 10; go_must ((with_reducible refine c1.mono ?_); rintro e W6 ⟨rfl, b6⟩; have S6 := HSS.out.below b6; have c2 := rmerge_full (yb + 1) bx yb hx hy vx vy W6 S6.rx S6.ry okx oky (by rw [S6.sx.n, (S6.vb hm).2.2.2.n]; exact hnm) (by rw [S6.sx.all, (S6.vb hm).2.2.2.all]; exact hfl); have HS6 := hidE S6; clear S6 b6))
                  | (go_at_call 11; go_must ((with_reducible refine c2.mono ?_); rintro e W7 ⟨rfl, b7⟩; have S7 := HS6.out.below b7; have c3 := err_same (a := 4) (b := 4) rfl W7 (HEL.out W7 S7.bel); rw [show errI 4 = .iface 47 (.int .i64 4) from rfl] at c3; have HS7 := hidE S7; clear S7 b7))
                  | (go_at_call 5; go_must ((with_reducible refine c3.mono ?_); rintro e W8 ⟨rfl, b8⟩; have HS8 := hidE (HS7.out.below b8); clear b8)))
                go_wp2_with fail
                go_meet
                exact ⟨_, _, _, _, _, _, HS8.out⟩
              · have c1 := merge_ok (w.heap.size + 1) w.heap.size (mb + 1) mb ha hb _ hS.va vb1 hS.oa vb2 (by omega) (by omega) hnm hfl
                clear hS
                go_upto_region 24 with (first
                  | (go_at_call 10; go_must ((with_reducible refine c1.mono ?_); rintro e W6 ⟨rfl, ql, hql, hfq, k6, t6⟩; have p6 := HSS.out.aPart HORD.out k6 t6; have c2 := HRM.out (yb + 1) bx yb hx hy vx vy W6 p6.1 p6.2.2.1 okx oky p6.2.2.2.2 (by omega) HSS.out.se (by rw [HSS.out.sx.n, vb4.n]; exact hnm) (by rw [HSS.out.sx.all, vb4.all]; exact hfl); have H6 : Hid (HvAt W6 (w.heap.size + 1) w.heap.size (mrgS ha hb ql) ∧ Turn (fun i => i = w.heap.size + 1 ∨ i = w.heap.size) _ W6 ∧ ql.Perm (mergeL ha.l hb.l) ∧ FallC ql) := ⟨k6, t6, hql, hfq⟩; clear k6 t6 p6 hql hfq))
                  | (go_at_call 11; go_must ((with_reducible refine c2.mono ?_); rintro e W7 ⟨rfl, ql', hql', hfq', k7⟩; obtain ⟨hx', vx', S7⟩ := HSS.out.stepA HORD.out H6.out.1 H6.out.2.1 k7 (HSS.out.sx.merge vb4 okx oky hql' hfq' H6.out.2.2.1 H6.out.2.2.2) (mrgS_ok HSS.out.oa vb2 hnm H6.out.2.2.1 H6.out.2.2.2 (by omega)) ((mrgS_n _ _ _).trans HSS.out.na); have c3 := err_same (a := 0) (b := 0) rfl W7 (HEL.out W7 S7.bel); rw [show errI 0 = .nilIface from rfl] at c3; have HS7 := hidE S7; clear S7 k7 hql' hfq'))
                  | (go_at_call 5; go_must ((with_reducible refine c3.mono ?_); rintro e W8 ⟨rfl, b8⟩; have HS8 := hidE (HS7.out.below b8); clear b8)))
                go_wp2_with fail
                go_meet
                exact ⟨_, _, _, _, _, _, HS8.out⟩
            · have c1 := merge_shape (w.heap.size + 1) w.heap.size (mb + 1) mb ha hb _ hS.va vb1 hnm
              clear hS
              go_upto_region 24 with (first
                | (go_at_call 10; go_must ((with_reducible refine c1.mono ?_); rintro e W6 ⟨rfl, b6⟩; have S6 := HSS.out.below b6; have c2 := rmerge_shape (yb + 1) bx yb hx hy vx vy W6 S6.rx S6.ry (by rw [S6.sx.n, (S6.vb hm).2.2.2.n]; exact hnm); have HS6 := hidE S6; clear S6 b6))
                | (go_at_call 11; go_must ((with_reducible refine c2.mono ?_); rintro e W7 ⟨rfl, b7⟩; have S7 := HS6.out.below b7; have c3 := err_same (a := 3) (b := 3) rfl W7 (HEL.out W7 S7.bel); rw [show errI 3 = .iface 47 (.int .i64 3) from rfl] at c3; have HS7 := hidE S7; clear S7 b7))
                | (go_at_call 5; go_must ((with_reducible refine c3.mono ?_); rintro e W8 ⟨rfl, b8⟩; have HS8 := hidE (HS7.out.below b8); clear b8)))
              go_wp2_with fail
              go_meet
              exact ⟨_, _, _, _, _, _, HS8.out⟩
        · simp only [hm]
          go_wp2_with fail
          go_meet
          exact HS1
      case rest =>
        obtain ⟨hx, hb, hy, vx, vy, ha, hS⟩ := hcut.out
        clear hcut HS1 HMC HWF HWF2 HSH HSH2
        have hln : ha.l.length ≤ 1000 := by have := hS.oa.le; have := hS.oa.nn; omega
        have hl20 : ha.l.length ≤ 20 := by have := hS.oa.le; have := hS.oa.nn; omega
        have htop := top_ok (w.heap.size + 1) w.heap.size ha 20 _ hS.va hln rfl
        have hq20 : (((20 : Nat) : Int)) = 20 := rfl
        rw [hq20] at htop
        have HSS := hidE hS
        clear hS hq20
        go_upto_region 27 with (go_at_call 12; go_must ((with_reducible refine htop.mono ?_); rintro e W6 ⟨v6, qs, rfl, q1, q2, q3, q4⟩))
        have hql : qs.length = ha.l.length := by rw [q2.length_eq, List.length_map]
        rw [List.take_of_length_le (by omega)] at q1
        have S6 := HSS.out.below q4
        have HST := hidE (rk_strict HSS.out.oa.ap q2 q3)
        have HQ2 := hidE q2
        have HC6 := hidE q1
        have hrt := rtop_any (yb + 1) bx hx vx W6 S6.rx S6.hB (by have := S6.okx.le; have := S6.okx.nn; omega) S6.okx.ap
        have HS6 := hidE S6
        obtain ⟨a6, c6, e6⟩ := q1.len
        subst e6
        clear q1 q2 q3 q4 S6 htop
        go_upto_region 28 with (go_at_call 13; go_must ((with_reducible refine hrt.mono ?_); rintro e W7 ⟨v7, qs', rfl, r1, r2, r3, r4⟩))
        have S7 := HS6.out.below r4
        have hpq : qs.Perm qs' := by
          refine HQ2.out.trans (List.Perm.trans ?_ r2.symm)
          rw [← S7.sx.less]
          exact (S7.sx.l.symm).map _
        obtain rfl : qs = qs' := eq_of_permR LtC_irr (fun _ _ _ => LtC_trans) hpq HST.out r3
        have HC7 := hidE (HC6.out.below r4)
        have HD7 := hidE r1
        have HS7 := hidE S7
        obtain ⟨a7, c7, e7⟩ := OwnN.len r1
        subst e7
        have hcA : ∀ u : Ext W7, Calls Tryd.prog 8 #[.pointer (some ⟨w.heap.size + 1, 0, none⟩), .int .i64 key] u.W fun e w' => e = .returned (.agg #[.int .i64 key, .int .i64 (getC ha.l key), .int .i64 ha.less]) ∧ ∃ u' : Ext W7, w' = u'.W := fun u => (count_any _ _ _ key u.W (S7.va.below u.h) HKW.out).mono fun e w' ⟨he, hb⟩ => ⟨he, ⟨w', u.h.trans (hb.mono u.h.size)⟩, rfl⟩
        have hcX : ∀ u : Ext W7, Calls Tryd.prog 9 #[.pointer (some ⟨bx, 0, none⟩), .int .i64 key] u.W fun e w' => e = .returned (.agg #[.int .i64 key, .int .i64 (getC ha.l key), .int .i64 ha.less]) ∧ ∃ u' : Ext W7, w' = u'.W := fun u => (rcount_any _ _ _ _ key u.W (S7.rx.below u.h) (by have := S7.okx.le; have := S7.okx.nn; omega) S7.okx.ap).mono fun e w' ⟨he, hb⟩ => ⟨by rw [he, S7.sx.get S7.okx key, S7.sx.less]; rfl, ⟨w', u.h.trans (hb.mono u.h.size)⟩, rfl⟩
        have hAll : ∀ u : Ext W7, Calls Tryd.prog 14 #[.pointer (some ⟨w.heap.size + 1, 0, none⟩)] u.W fun e w' => e = .returned (.int .i64 ha.all) ∧ ∃ u' : Ext W7, w' = u'.W := fun u => (hall_any _ _ ha u.W (S7.va.below u.h)).mono fun e w' ⟨he, hb⟩ => ⟨he, u, hb⟩
        have x2 := Ext.cell (rf_cells S7.rx.blk).2.2.1
        rw [S7.sx.all] at x2
        generalize getC ha.l key = G at hcA hcX
        generalize ha.less = LS at hcA hcX
        generalize ha.all = AL at hAll x2
        have hneq : ∀ u : Ext W7, (binOp .neq 37 (.agg #[.int .i64 key, .int .i64 G, .int .i64 LS]) (.agg #[.int .i64 key, .int .i64 G, .int .i64 LS])).run Tryd.prog u.W = .ok (.bool false) u.W := fun u => Tryd.cntNeq _ _ _ _
        clear r1 r2 r3 r4 hpq S7 hrt HSS HS6 HC6 HST HQ2
        refine wp_region_ext (by kernel_rfl) (by kernel_rfl) ?_
        repeat (go_big_quiet_step (first | (go_at_call 8; exact hcA _) | (go_at_call 9; exact hcX _) | (go_at_call 14; exact hAll _)))
        refine wpQuiet_nil ?_
        rintro _ ⟨u, rfl⟩
        have HB8 := hidE (HS7.out.bel.trans (u.h.mono HS7.out.bel.size))
        have HC8 := hidE (HC7.out.below u.h)
        have HD8 := hidE (OwnN.below HD7.out u.h)
        obtain ⟨W8, hW8⟩ : ∃ X9, u.W = X9 := ⟨_, rfl⟩
        rw [hW8] at HB8 HC8 HD8
        rw [hW8]
        clear hW8 u hcA hcX hAll x2 hneq HC7 HD7 HS7
        go_upto_region 31 with fail
        go_loopw [22] (fun v22 wr => ∃ j : Nat, v22 = .int .i64 (j : Int) ∧ j ≤ qs.length ∧ Hid (Below W8.heap.size W8 wr)) (fun v22 _ => ((qs.length : Int) - intOf v22).toNat)
        case atStart => exact ⟨0, rfl, Nat.zero_le _, Below.refl _ _⟩
        case round =>
          obtain ⟨j, rfl, hj, HB⟩ := hrel
          by_cases hjl : j < qs.length
          · have hj1 : (j : Int) < (qs.length : Int) := by omega
            obtain ⟨g2, cc2, e2, l2', m2', hc2⟩ := (HC8.out.below HB.out).at (by omega)
            have oX := OwnN.below HD8.out HB.out
            obtain ⟨g3, cc3, e3, _, _, l3', m3'⟩ := OwnN.shape oX (by omega)
            simp only [Value.slice.injEq, true_and] at e2 e3
            obtain ⟨rfl, rfl⟩ := e2
            obtain ⟨rfl, rfl⟩ := e3
            obtain ⟨x0, x1, x2⟩ := hc2 j hjl
            obtain ⟨y0, y1, y2⟩ := own_ct oX j hjl
            have x0 := Ext.cell x0
            have x1 := Ext.cell x1
            have x2 := Ext.cell x2
            have y0 := Ext.cell y0
            have y1 := Ext.cell y1
            have y2 := Ext.cell y2
            generalize qs[j].key = ck at x0 y0
            generalize qs[j].many = cm at x1 y1
            generalize qs[j].less = cl at x2 y2
            have hneq : ∀ u : Ext wr, (binOp .neq 37 (.agg #[.int .i64 ck, .int .i64 cm, .int .i64 cl]) (.agg #[.int .i64 ck, .int .i64 cm, .int .i64 cl])).run Tryd.prog u.W = .ok (.bool false) u.W := fun u => Tryd.cntNeq _ _ _ _
            clear hc2 oX
            go_upto_region 33 with fail
            refine wp_region_ext (by kernel_rfl) (by kernel_rfl) ?_
            repeat (go_big_quiet_step (fail))
            refine wpQuiet_nil ?_
            rintro _ ⟨u, rfl⟩
            have HBU := hidE (HB.out.trans (u.h.mono HB.out.size))
            obtain ⟨WU, hWU⟩ : ∃ X9, u.W = X9 := ⟨_, rfl⟩
            rw [hWU] at HBU
            rw [hWU]
            clear hWU u x0 x1 x2 y0 y1 y2 hneq
            go_wp2_with fail
            go_roundw
            case rel => exact ⟨j + 1, by simp, by omega, HBU⟩
            case measure => simp only [intOf]; omega
          · have hj1 : ¬ (j : Int) < (qs.length : Int) := by omega
            have HF := hidE (HB8.out.trans (HB.out.mono HB8.out.size))
            go_wp2_with fail
            go_ret
            exact ⟨rfl, HF.out⟩
end Go.Proofs.YtchailjgikjhlaaDoor
