/- What Gaps of package audit returns. -/
import Derived.Test.YtfgaalhaeadhmaaDoorAuMs
import Derived.Lib.MinMax
namespace Go.Proofs.YtfgaalhaeadhmaaDoor
open Go.RowKit
set_option linter.unusedVariables false

theorem enter20 : ∀ args W, (callFunc 39 args).run Tryd.prog W = .ok (.enter 39 args) W := fun _ _ => by kernel_rfl
set_option maxRecDepth 100000 in
set_option maxHeartbeats 16000000 in
theorem gap_any (u l tt b : Int) (G P : Nat) (w : World) (h1 : OneAt w G (.int .i64 l) 3) (h2 : OneAt w (G + 1) (.int .i64 tt) 3) (h3 : OneAt w P (.int .i64 b) 3) (hP : G + 1 < P)
    (hu : 0 ≤ u ∧ u ≤ 1000000) (hb : 0 ≤ b ∧ b ≤ 1000000) (ht : -2000000000 ≤ tt ∧ tt ≤ 2000000000) :
    Calls Tryd.prog 39 #[.int .i64 u, .pointer (some ⟨G, 0, none⟩), .pointer (some ⟨P, 0, none⟩), .pointer (some ⟨G + 1, 0, none⟩)] w fun e w' => e = .returned (.tuple #[]) ∧ w' = (w.setCell ⟨G, 0, none⟩ (.int .i64 (max l (u - b)))).setCell ⟨G + 1, 0, none⟩ (.int .i64 (tt + (u - b))) := by
  have p1 := h1.cell
  have p2 := h2.cell
  have p3 := h3.cell
  have f1 := h1.free
  have f2 := h2.free
  have hw1 : wrap64 (u - b) = u - b := by unfold wrap64; omega
  have hw2 : wrap64 (tt + (u - b)) = tt + (u - b) := by unfold wrap64; omega
  have hne1 : ¬ P = G := by omega
  have hne2 : ¬ G = P := by omega
  have hne3 : ¬ G + 1 = P := by omega
  clear h1 h2 h3 hu hb ht hP
  go_enter Tryd.func39, Tryd.ntmps39
  go_wp2_with fail
  go_end0
  exact ⟨rfl, by first | rfl | rw [hw1, hw2]⟩
/-- The variables of Gaps: how long at most, in all, and when the last Master ended; the row of Masters. -/
structure GpS (G P : Nat) (r : Value) (ms : List Ms) (s : Int × Int × Int) (W : World) : Prop where
  l : OneAt W G (.int .i64 s.1) 3
  t : OneAt W (G + 1) (.int .i64 s.2.1) 3
  b : OneAt W P (.int .i64 s.2.2) 3
  own : OwnMs W (G + 2) r ms
  out : r.ownBlock ≠ some P
  gp : G + 1 < P
theorem GpS.below {G P : Nat} {r : Value} {ms : List Ms} {s : Int × Int × Int} {W W' : World} (h : GpS G P r ms s W) (hb : Below W.heap.size W W') : GpS G P r ms s W' :=
  ⟨h.l.below h.l.lt hb, h.t.below h.t.lt hb, h.b.below h.b.lt hb, OwnN.below h.own hb, h.out, h.gp⟩
theorem GpS.ne {G P : Nat} {r : Value} {ms : List Ms} {s : Int × Int × Int} {W : World} (h : GpS G P r ms s W) (i : Nat) (hi : i < 2) : r.ownBlock ≠ some (G + i) := by
  intro e
  have := (OwnN.block h.own _ e).1
  omega
theorem GpS.sl {G P : Nat} {r : Value} {ms : List Ms} {s : Int × Int × Int} {W : World} (h : GpS G P r ms s W) (u : Int) : GpS G P r ms (u, s.2.1, s.2.2) (W.setCell ⟨G, 0, none⟩ (.int .i64 u)) :=
  ⟨h.l.set _, h.t.other (by omega) _ _, h.b.other (by have := h.gp; omega) _ _, OwnN.other h.own (h.ne 0 (by omega)) _, h.out, h.gp⟩
theorem GpS.st {G P : Nat} {r : Value} {ms : List Ms} {s : Int × Int × Int} {W : World} (h : GpS G P r ms s W) (u : Int) : GpS G P r ms (s.1, u, s.2.2) (W.setCell ⟨G + 1, 0, none⟩ (.int .i64 u)) :=
  ⟨h.l.other (by omega) _ _, h.t.set _, h.b.other (by have := h.gp; omega) _ _, OwnN.other h.own (h.ne 1 (by omega)) _, h.out, h.gp⟩
theorem GpS.sb {G P : Nat} {r : Value} {ms : List Ms} {s : Int × Int × Int} {W : World} (h : GpS G P r ms s W) (u : Int) : GpS G P r ms (s.1, s.2.1, u) (W.setCell ⟨P, 0, none⟩ (.int .i64 u)) :=
  ⟨h.l.other (by have := h.gp; omega) _ _, h.t.other (by have := h.gp; omega) _ _, h.b.set _, OwnN.other h.own h.out _, h.out, h.gp⟩
theorem GpS.drew {G P : Nat} {r : Value} {ms : List Ms} {s : Int × Int × Int} {W : World} (h : GpS G P r ms s W) : GpS G P r ms s W.drew := ⟨h.l, h.t, h.b, h.own, h.out, h.gp⟩
theorem gapS_any (u : Int) (G P : Nat) (r : Value) (ms : List Ms) (s : Int × Int × Int) (w : World) (h : GpS G P r ms s w) (hu : 0 ≤ u ∧ u ≤ 1000000) (hb : 0 ≤ s.2.2 ∧ s.2.2 ≤ 1000000) (ht : -2000000000 ≤ s.2.1 ∧ s.2.1 ≤ 2000000000) :
    Calls Tryd.prog 39 #[.int .i64 u, .pointer (some ⟨G, 0, none⟩), .pointer (some ⟨P, 0, none⟩), .pointer (some ⟨G + 1, 0, none⟩)] w fun e w' => e = .returned (.tuple #[]) ∧ GpS G P r ms (max s.1 (u - s.2.2), s.2.1 + (u - s.2.2), s.2.2) w' ∧ Below G w w' ∧ ∀ i, i ≠ G → i ≠ G + 1 → w'.heap[i]? = w.heap[i]? := by
  refine (gap_any u s.1 s.2.1 s.2.2 G P w h.l h.t h.b h.gp hu hb ht).mono ?_
  rintro e w' ⟨h1, rfl⟩
  exact ⟨h1, (h.sl _).st _, ((Below.refl _ _).setCell (by simp) _).setCell (by simp) _, fun i h1 h2 => by rw [Below.heap_setCell _ _ _ _ h2, Below.heap_setCell _ _ _ _ h1]⟩
/-- Three numbers in a block of their own. -/
def A3At (w : World) (b : Nat) (m : Ms) : Prop := w.heap[b]? = some (.cells #[.int .i64 m.b, .int .i64 m.e, .int .i64 m.n] 59 (0, 0))
set_option maxRecDepth 100000 in
set_option maxHeartbeats 64000000 in
theorem gaps_any (es : List Ev) (v : Value) (t : Int) (w : World) (hv : Evs w v es) : Calls Tryd.prog 20 #[v, .int .i64 t] w fun e w' => e = .returned (.tuple (if msE es t = 0 then #[.int .i64 (gpF (rfM es t) t).1, .int .i64 (gpF (rfM es t) t).2, .nilIface] else #[.int .i64 0, .int .i64 0, auV (msE es t)])) ∧ Below w.heap.size w w' := by
  obtain ⟨Q, hQ⟩ : ∃ Q : Ending → World → Prop, Q = fun e w' => e = .returned (.tuple (if msE es t = 0 then #[.int .i64 (gpF (rfM es t) t).1, .int .i64 (gpF (rfM es t) t).2, .nilIface] else #[.int .i64 0, .int .i64 0, auV (msE es t)])) ∧ Below w.heap.size w w' := ⟨_, rfl⟩
  have HQ0 : Hid (∀ x y w', msE es t = 0 → x = (gpF (rfM es t) t).1 → y = (gpF (rfM es t) t).2 → Below w.heap.size w w' → Q (.returned (.tuple #[.int .i64 x, .int .i64 y, .nilIface])) w') := by
    rw [hQ]; intro x y w' h0 h1 h2 h3; rw [if_pos h0, h1, h2]; exact ⟨rfl, h3⟩
  have HQ1 : Hid (∀ c w', msE es t = c → c ≠ 0 → Below w.heap.size w w' → Q (.returned (.tuple #[.int .i64 0, .int .i64 0, .iface 73 (.int .i64 c)])) w') := by
    rw [hQ]; intro c w' h0 h1 h3; rw [h0, if_neg h1, auV_ne h1]; exact ⟨rfl, h3⟩
  rw [← hQ]
  clear hQ
  obtain ⟨W0, hW0⟩ : ∃ W0, (w.alloc (.cells #[.int .i64 0] 3)).alloc (.cells #[.int .i64 0] 3) = W0 := ⟨_, rfl⟩
  have l0 : OneAt W0 w.heap.size (.int .i64 0) 3 := by rw [← hW0]; exact (OneAt.new _ _ _).alloc _
  have t0 : OneAt W0 (w.heap.size + 1) (.int .i64 0) 3 := by
    rw [← hW0]
    have := OneAt.new (w.alloc (.cells #[.int .i64 0] 3)) (.int .i64 0) 3
    simpa using this
  have hb : Below w.heap.size w W0 := by
    rw [← hW0]
    exact ((Below.refl _ _).alloc (Nat.le_refl _) _).alloc (by simp) _
  have hsz : W0.heap.size = w.heap.size + 2 := by rw [← hW0]; simp
  have hw := masters_any es v t W0 (hv.below hb)
  rw [hsz] at hw
  have HL0 := hidA l0
  have HT0 := hidA t0
  have HB0 := hidA hb
  have HSZ := hidA hsz
  clear hv l0 t0 hb hsz
  obtain ⟨c, hc⟩ : ∃ c, msE es t = c := ⟨_, rfl⟩
  have HC := hidA hc
  rw [hc] at hw
  clear hc
  by_cases hz : c = 0
  · rw [hz, show auV 0 = .nilIface from rfl] at hw
    simp only [if_true] at hw
    obtain ⟨hok, ht1, ht2⟩ := msE_good (HC.out.trans hz)
    obtain ⟨hgd, hlen⟩ := aud_gd hok
    have hgd0 : 0 ≤ (stA es es.length).1 := by
      rcases Nat.eq_zero_or_pos es.length with h | h
      · rw [h]; exact Int.le_refl _
      · obtain ⟨k, hk⟩ : ∃ k, es.length = k + 1 := ⟨es.length - 1, by omega⟩
        rw [hk, stA_succ (by omega)]
        exact (hgd.times _ (List.getElem_mem (by omega))).1
    have HBD := hidA (rf_bd es t hgd.times (by omega) (by omega))
    have HTT := hidA (show 0 ≤ t ∧ t ≤ 1000000 by omega)
    have hml := rf_len es t
    have HML := hidA (show (rfM es t).length ≤ 1000 by omega)
    obtain ⟨ms, hms⟩ : ∃ ms, rfM es t = ms := ⟨_, rfl⟩
    rw [hms] at hw HBD HML HQ0
    subst hz
    clear hok ht1 ht2 hgd hlen hgd0 hml hms
    go_enter Tryd.func20, Tryd.ntmps20
    go_upto_region 4 with (go_at_call 19; go_must ((with_reducible refine hw.mono ?_); rintro e W1 ⟨r, rfl, own1, b1⟩; have HO1 := hidA own1; have HB1 := hidA b1; clear own1 b1 hw))
    have S1 : GpS w.heap.size W1.heap.size r ms (0, 0, 0) (W1.alloc (.cells #[.int .i64 0] 3)) := by
      have hs := HB1.out.size
      have h2 := HSZ.out
      refine ⟨(HL0.out.below (by omega) HB1.out).alloc _, (HT0.out.below (by omega) HB1.out).alloc _, OneAt.new _ _ _, OwnN.alloc HO1.out _, ?_, by omega⟩
      intro e
      have := (OwnN.block HO1.out _ e).2
      omega
    have b1 : Below w.heap.size w (W1.alloc (.cells #[.int .i64 0] 3)) := (HB0.out.trans (HB1.out.mono (by omega))).alloc (by have := HB1.out.size; have := HSZ.out; omega) _
    have HS1 := hidA S1
    have HBB1 := hidA b1
    obtain ⟨rl, rc, hr⟩ := OwnN.len HO1.out
    obtain ⟨M, hM⟩ : ∃ M, ms.length = M := ⟨_, rfl⟩
    have HM := hidA hM
    rw [hM] at hr
    subst hr
    obtain ⟨P, hP⟩ : ∃ P, W1.heap.size = P := ⟨_, rfl⟩
    rw [hP] at HS1
    clear S1 b1 hM
    go_upto_region 7 with fail
    go_wp2_with fail
    go_loopw [24] (fun i wr => ∃ k : Nat, k ≤ M ∧ i = .int .i64 k ∧ GpS w.heap.size P (.slice rl M rc) ms (gpK ms k) wr ∧ Below w.heap.size w wr) (fun i _ => M - (intOf i).toNat)
    case atStart => exact ⟨0, Nat.zero_le _, by go_num, HS1.out, HBB1.out⟩
    case round =>
      obtain ⟨k, hk, rfl, hS, hb⟩ := hrel
      have HS := hidA hS
      have HB := hidA hb
      have HBK := hidA (gp_bd HBD.out k (by rw [HM.out]; exact hk))
      clear hb
      by_cases hlt : k < M
      · have hlt' : (k : Int) < (M : Int) := by omega
        have hke : k < ms.length := by rw [HM.out]; exact hlt
        obtain ⟨g, c0, hv0, _, _, hcc, hcm⟩ := OwnN.shape hS.own (by omega)
        simp only [Value.slice.injEq] at hv0
        obtain ⟨rfl, hmid, rfl⟩ := hv0
        clear hmid
        rw [HM.out] at hcc
        have q0 : wr.cell? ⟨g, k * 3, none⟩ = some (.int .i64 ms[k].b) := by simpa using OwnN.cell (enc := msRow) hS.own (fun _ => rfl) k hke 0 (.int .i64 ms[k].b) rfl
        have q1 : wr.cell? ⟨g, k * 3 + 1, none⟩ = some (.int .i64 ms[k].e) := OwnN.cell (enc := msRow) hS.own (fun _ => rfl) k hke 1 (.int .i64 ms[k].e) rfl
        have q2 : wr.cell? ⟨g, k * 3 + 2, none⟩ = some (.int .i64 ms[k].n) := OwnN.cell (enc := msRow) hS.own (fun _ => rfl) k hke 2 (.int .i64 ms[k].n) rfl
        have HGK := hidA (gpK_succ hke)
        have HMK := hidA (HBD.out ms[k] (List.getElem_mem hke))
        obtain ⟨m, hm⟩ : ∃ m, ms[k] = m := ⟨_, rfl⟩
        rw [hm] at q0 q1 q2 HGK HMK
        clear hm hke hS
        go_upto_region 9 with fail
        have A1 : A3At (wr.alloc (.cells #[.int .i64 m.b, .int .i64 m.e, .int .i64 m.n] 59)) wr.heap.size m := heap_alloc_new wr _
        have SA := HS.out.below ((Below.refl wr.heap.size wr).alloc (Nat.le_refl _) (.cells #[.int .i64 m.b, .int .i64 m.e, .int .i64 m.n] 59))
        have BA : Below w.heap.size w (wr.alloc (.cells #[.int .i64 m.b, .int .i64 m.e, .int .i64 m.n] 59)) := HB.out.alloc HB.out.size _
        have hwx : w.heap.size + 1 < wr.heap.size := HS.out.t.lt
        obtain ⟨X1, hX1⟩ : ∃ X1, wr.alloc (.cells #[.int .i64 m.b, .int .i64 m.e, .int .i64 m.n] 59) = X1 := ⟨_, rfl⟩
        rw [hX1] at A1 SA BA ⊢
        obtain ⟨R, hR⟩ : ∃ R, wr.heap.size = R := ⟨_, rfl⟩
        rw [hR] at A1 hwx ⊢
        have HSA := hidA SA
        have HBA := hidA BA
        have HA1 := hidA A1
        have d0 : X1.cell? ⟨R, 0, none⟩ = some (.int .i64 m.b) := by rw [cell_of_row X1 R 0 _ _ _ A1]; rfl
        clear q0 q1 q2 SA BA A1 hX1 hR
        have hga := gapS_any m.b w.heap.size P _ ms _ X1 HSA.out HMK.out.1 HBK.out.2.2 (by have := HBK.out.2.1; have := HML.out; have := HM.out; omega)
        go_upto_region 10 with (go_at_call 39; go_must ((with_reducible refine hga.mono ?_); rintro e X2 ⟨rfl, s2, b2, o2⟩; have HS2 := hidA s2; have HB2 := hidA (HBA.out.trans b2); have HA2 := hidA (show A3At X2 R m by unfold A3At; rw [o2 R (by omega) (by omega)]; exact HA1.out); clear s2 b2 o2 hga d0))
        have d1 : X2.cell? ⟨R, 1, none⟩ = some (.int .i64 m.e) := by rw [cell_of_row X2 R 1 _ _ _ HA2.out]; rfl
        have p2 := HS2.out.b.cell
        have f2 := HS2.out.b.free
        have HS3 := hidA (HS2.out.sb m.e)
        have hPG : w.heap.size + 1 < P := HS2.out.gp
        have HB3 := hidA (HB2.out.setCell (p := ⟨P, 0, none⟩) (by simp; omega) (.int .i64 m.e))
        simp only at HS3
        obtain ⟨X3, hX3⟩ : ∃ X3, X2.setCell ⟨P, 0, none⟩ (.int .i64 m.e) = X3 := ⟨_, rfl⟩
        rw [hX3] at HS3 HB3
        have hM1 : (M : Int) ≤ 1000 := by have := HML.out; have := HM.out; omega
        go_wp2_with fail
        go_roundw
        case rel => exact ⟨k + 1, by omega, by go_num, by rw [HGK.out]; exact HS3.out, HB3.out⟩
        case measure => simp [intOf]; omega
      · have hlt' : ¬ (k : Int) < (M : Int) := by omega
        obtain rfl : k = M := by omega
        have hga := gapS_any t w.heap.size P _ ms _ wr HS.out HTT.out HBK.out.2.2 (by have := HBK.out.2.1; have := HML.out; have := HM.out; omega)
        have HGF := hidA (show gpF ms t = (max (gpK ms k).1 (t - (gpK ms k).2.2), (gpK ms k).2.1 + (t - (gpK ms k).2.2)) by unfold gpF; rw [HM.out])
        obtain ⟨x, hx⟩ : ∃ x, max (gpK ms k).1 (t - (gpK ms k).2.2) = x := ⟨_, rfl⟩
        obtain ⟨y, hy⟩ : ∃ y, (gpK ms k).2.1 + (t - (gpK ms k).2.2) = y := ⟨_, rfl⟩
        rw [hx, hy] at hga HGF
        clear hlt hS hx hy
        go_upto_region 13 with (go_at_call 39; go_must ((with_reducible refine hga.mono ?_); rintro e X2 ⟨rfl, s2, b2, o2⟩; have HS2 := hidA s2; have HB2 := hidA (HB.out.trans b2); clear s2 b2 o2 hga))
        have p0 := HS2.out.l.cell
        have f0 := HS2.out.l.free
        have p1 := HS2.out.t.cell
        have f1 := HS2.out.t.free
        have HS3 := hidA ((HS2.out.sl x).st y)
        have HB3 := hidA ((HB2.out.setCell (p := ⟨w.heap.size, 0, none⟩) (by simp) (.int .i64 x)).setCell (p := ⟨w.heap.size + 1, 0, none⟩) (by simp) (.int .i64 y))
        simp only at HS3 p0 p1
        go_region
        have HS4 := hidA HS3.out.drew
        have HB4 := hidA HB3.out.drew
        obtain ⟨X3, hX3⟩ : ∃ X3, ((X2.setCell ⟨w.heap.size, 0, none⟩ (.int .i64 x)).setCell ⟨w.heap.size + 1, 0, none⟩ (.int .i64 y)).drew = X3 := ⟨_, rfl⟩
        rw [hX3] at HS4 HB4 ⊢
        have r0 := HS4.out.l.cell
        have r1 := HS4.out.t.cell
        simp only at r0 r1
        have HQ2 := hidA (HQ0.out x y X3 HC.out (by rw [HGF.out]) (by rw [HGF.out]) HB4.out)
        clear p0 p1 f0 f1
        go_wp2_with fail
        exact bodyPost_ret (v := .tuple #[.int .i64 x, .int .i64 y, .nilIface]) (by simp [results, Tryd.results20, go_sem, r0, r1]) rfl HQ2.out
  · rw [auV_ne hz] at hw
    have HZ := hidA hz
    simp only [if_neg hz] at hw
    clear hz
    go_enter Tryd.func20, Tryd.ntmps20
    go_upto_region 3 with (go_at_call 19; go_must ((with_reducible refine hw.mono ?_); rintro e W1 ⟨r, rfl, own1, b1⟩; have HB1 := hidA b1; clear own1 b1 hw))
    have l1 := HL0.out.below (by have := HSZ.out; omega) HB1.out
    have t1 := HT0.out.below (by have := HSZ.out; omega) HB1.out
    have p0 := l1.cell
    have f0 := l1.free
    have p1 := t1.cell
    have f1 := t1.free
    have r0 := ((l1.set (.int .i64 0)).other (g := w.heap.size + 1) (by omega) 0 (.int .i64 0)).cell
    have r1 := ((t1.other (g := w.heap.size) (by omega) 0 (.int .i64 0)).set (.int .i64 0)).cell
    have HQ2 := hidA (HQ1.out c ((W1.setCell ⟨w.heap.size, 0, none⟩ (.int .i64 0)).setCell ⟨w.heap.size + 1, 0, none⟩ (.int .i64 0)) HC.out HZ.out (((HB0.out.trans (HB1.out.mono (by omega))).setCell (by simp) _).setCell (by simp) _))
    obtain ⟨W2, hW2⟩ : ∃ W2, (W1.setCell ⟨w.heap.size, 0, none⟩ (.int .i64 0)).setCell ⟨w.heap.size + 1, 0, none⟩ (.int .i64 0) = W2 := ⟨_, rfl⟩
    rw [hW2] at HQ2 r0 r1
    clear l1 t1
    go_wp2_with fail
    exact bodyPost_ret (v := .tuple #[.int .i64 0, .int .i64 0, .iface 73 (.int .i64 c)]) (by simp [results, Tryd.results20, go_sem, r0, r1]) rfl HQ2.out
end Go.Proofs.YtfgaalhaeadhmaaDoor
