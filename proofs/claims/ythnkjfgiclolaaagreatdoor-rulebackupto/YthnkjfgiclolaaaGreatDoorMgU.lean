/- What read's closure for a side does (package rule). -/
import Derived.Test.YthnkjfgiclolaaaGreatDoorMgT
namespace Go.Proofs.YthnkjfgiclolaaaGreatDoor
open Go.RowKit
set_option linter.unusedVariables false
set_option maxRecDepth 10000

/-- The error of a side. -/
def okE (b : Bool) : Value := if b = true then .nilIface else .iface 45 (.int .i64 2)
theorem OthersB {W W' : World} (h : Below W.drew.heap.size W.drew W') : Below W.heap.size W W' := ⟨h.os, h.tape, h.output, h.size, h.block⟩
theorem OnlyD {g : Nat} {W W' : World} (h : Only g W.drew W') : Only g W W' := ⟨h.os, h.tape, h.output, h.size, h.block⟩
theorem spParse_some (y : List UInt8) (ps : List Sp) (w : World) (hs : y.length ≤ 1048576) (ht : TxE w) (h : readR y = some ps) :
    Calls Tryz.prog 62 #[.string (mkB y)] w fun e w' => ∃ a8 n8 c8, e = .returned (.tuple #[.slice a8 n8 c8, .nilIface]) ∧ OwnSp w' w.heap.size (.slice a8 n8 c8) ps ∧ Below w.heap.size w w' := by
  refine (parse_own (mkB y) w (by rw [mkB_size]; exact hs) ht).mono ?_
  rintro e w' ⟨v, er, rfl, h2, hb⟩
  rw [parse_is, mkB_toList, h] at h2
  rcases h2 with ⟨l, h3, rfl, h5, _⟩ | ⟨h3, _⟩
  · cases h3
    obtain ⟨a8, c8, rfl⟩ := h5.len
    exact ⟨a8, _, c8, rfl, h5, hb⟩
  · cases h3
theorem spParse_none (y : List UInt8) (w : World) (hs : y.length ≤ 1048576) (ht : TxE w) (h : readR y = none) :
    Calls Tryz.prog 62 #[.string (mkB y)] w fun e w' => e = .returned (.tuple #[.slice none 0 0, .iface 45 (.int .i64 2)]) ∧ Below w.heap.size w w' := by
  refine (parse_own (mkB y) w (by rw [mkB_size]; exact hs) ht).mono ?_
  rintro e w' ⟨v, er, rfl, h2, hb⟩
  rw [parse_is, mkB_toList, h] at h2
  rcases h2 with ⟨l, h3, _⟩ | ⟨_, rfl, rfl⟩
  · cases h3
  · exact ⟨rfl, hb⟩
theorem trimP_no {l p : List UInt8} (h : Lib.hasPrefix l p = false) : Lib.trimPrefix l p = l := by unfold Lib.trimPrefix; rw [h]; rfl

set_option maxHeartbeats 16000000 in
theorem rd3_from (w0 : World) (S : Nat) (r : Rl) (tv : Value) (l : List UInt8) (W : World) (h : RdSt w0 W S r (.slice none 0 0) (tv) l) (hfr : r.fr = []) (hl : l.length ≤ 1048576) (htx : TxE w0) (hw0 : w0.heap.size = S) :
    Calls Tryz.prog 60 #[sideV (mkB fromL) (S + 1) 5 9, .pointer (some ⟨S + 3, 0, none⟩), .pointer (some ⟨S + 4, 0, none⟩)] W fun e w' => ∃ fv', e = .returned (okE (sideO fromL l).ok) ∧ RdSt w0 w' S { r with sa := (sideO fromL l).a, sl := (sideO fromL l).n, fr := (sideO fromL l).ps } (fv') (tv) (sideO fromL l).rest := by
  obtain ⟨Q, hQ⟩ : ∃ Q : Ending → World → Prop, Q = fun e w' => ∃ fv', e = .returned (okE (sideO fromL l).ok) ∧ RdSt w0 w' S { r with sa := (sideO fromL l).a, sl := (sideO fromL l).n, fr := (sideO fromL l).ps } (fv') (tv) (sideO fromL l).rest := ⟨_, rfl⟩
  have HQ : Hid (∀ fv' w', RdSt w0 w' S { r with sa := (sideO fromL l).a, sl := (sideO fromL l).n, fr := (sideO fromL l).ps } (fv') (tv) (sideO fromL l).rest → Q (.returned (okE (sideO fromL l).ok)) w') := by rw [hQ]; exact fun v w' h => ⟨v, rfl, h⟩
  rw [← hQ]
  clear hQ
  have HTX := hidE htx
  have HW0 := hidE hw0
  have HFR := hidE hfr
  clear htx hw0 hfr
  have b1 : Below W.heap.size W (W.alloc (.cells #[.string (mkB fromL), .pointer (some ⟨S + 1, 5, none⟩), .pointer (some ⟨S + 1, 9, none⟩)] 80)) := (Below.refl _ _).alloc (Nat.le_refl _) _
  have hsd := heap_alloc_new W (.cells #[.string (mkB fromL), .pointer (some ⟨S + 1, 5, none⟩), .pointer (some ⟨S + 1, 9, none⟩)] 80)
  obtain ⟨X, hX⟩ : ∃ X, W.heap.size = X := ⟨_, rfl⟩
  have HX := hidE (show S + 5 ≤ X by rw [← hX]; exact h.sz)
  have R1 := h.step b1
  unfold sideV
  rw [hX] at hsd
  have HXE := hidE hX
  clear hX
  obtain ⟨W1, hW1⟩ : ∃ W1, W.alloc (.cells #[.string (mkB fromL), .pointer (some ⟨S + 1, 5, none⟩), .pointer (some ⟨S + 1, 9, none⟩)] 80) = W1 := ⟨_, rfl⟩
  have HW1 := hidE hW1
  rw [hW1] at hsd R1 b1
  have HX1 := hidE (show X < W1.heap.size from (Array.getElem?_eq_some_iff.1 hsd).1)
  have SD : Hid (∀ W' : World, W'.heap[X]? = W1.heap[X]? → W'.cell? ⟨X, 0, none⟩ = some (.string (mkB fromL)) ∧ W'.cell? ⟨X, 1, none⟩ = some (.pointer (some ⟨S + 1, 5, none⟩)) ∧ W'.cell? ⟨X, 2, none⟩ = some (.pointer (some ⟨S + 1, 9, none⟩))) := fun W' hb => by
    have hs := hb.trans hsd
    refine ⟨?_, ?_, ?_⟩ <;> (rw [cell_of_row W' X _ _ _ _ hs]; rfl)
  clear hW1 b1 h hsd
  have hc1 := cut1_any (S + 2) l fromL W1 R1.st
  obtain ⟨m, hm⟩ : ∃ m, Lib.trimPrefix l fromL = m := ⟨_, rfl⟩
  have hml : m.length ≤ 1048576 := by rw [← hm]; exact Nat.le_trans (trimP_len _ _) hl
  rw [hm] at hc1
  have HM := hidE hm
  clear hm
  generalize Lib.hasPrefix l fromL = t0 at hc1
  go_enter Tryz.func60, Tryz.ntmps60
  go_upto_region 1 with fail
  rw [HXE.out, HW1.out]
  clear HW1
  obtain ⟨s0, s1, s2⟩ := SD.out W1 rfl
  have cc := R1.cuc
  go_upto_region 2 with (go_at_call 56; go_must (refine hc1.mono ?_; rintro e W2 ⟨rfl, st2, o2⟩))
  have R2 := hidE (R1.rest st2 o2)
  have H2 := hidE (show W2.heap[X]? = W1.heap[X]? from o2.block X (by have := HX.out; omega))
  have HX2 := hidE (show X < W2.heap.size by rw [o2.size]; exact HX1.out)
  clear R1 hc1 s0 s1 s2 cc st2 o2 HX1
  obtain ⟨x, hx⟩ : ∃ x, (splitC 32 m).1 = x := ⟨_, rfl⟩
  obtain ⟨m2, hm2⟩ : ∃ m2, m.drop x.length = m2 := ⟨_, rfl⟩
  have hn2 := nxt_any (S + 2) m W2.drew R2.out.drew.st hml
  rw [hx, hm2] at hn2
  have hxl : x.length ≤ 1048576 := by rw [← hx]; exact Nat.le_trans (splitC_len 32 m).1 hml
  have hm2l : m2.length ≤ 1048576 := by rw [← hm2, List.length_drop]; omega
  have HXX := hidE hx
  have HM2 := hidE hm2
  clear hx hm2
  have hpp := fun W => parsePrefix_any x W (by omega)
  obtain ⟨q1, q2, q3⟩ := SD.out W2 H2.out
  have qn := R2.out.nxc
  have HST := hidE (fun (W3 : World) (o : Only (S + 2) W2.drew W3) => (show W3.cell? ⟨X, 1, none⟩ = some (.pointer (some ⟨S + 1, 5, none⟩)) ∧ W3.cell? ⟨S + 4, 0, none⟩ = some (.func (.func 58) #[] #[.pointer (some ⟨S + 2, 0, none⟩)]) from
    ⟨(SD.out W3 (((OnlyD o).block X (by have := HX.out; omega)).trans H2.out)).2.1, (World.cell?_of_block (w := W2) (a := ⟨S + 4, 0, none⟩) ((OnlyD o).block (S + 4) (by omega))).trans qn⟩))
  obtain ⟨a, n, ok, hrp⟩ : ∃ a n ok, readP x = (a, n, ok) := ⟨_, _, _, rfl⟩
  rw [hrp] at hpp
  have HRP := hidE hrp
  clear hrp
  have hS : W2.cell? ⟨X, 1, none⟩ = some (.pointer (some ⟨S + 1, 5, none⟩)) ∧ W2.cell? ⟨S + 4, 0, none⟩ = some (.func (.func 58) #[] #[.pointer (some ⟨S + 2, 0, none⟩)]) := ⟨q2, qn⟩
  have hxs : ¬ X = S + 1 := by have := HX.out; omega
  clear q1 q3
  cases ok with
  | false =>
    rw [show prefR (a, n, false) = .tuple #[.agg #[.int .i64 0, .int .i64 0], .iface 45 (.int .i64 2)] from rfl] at hpp
    go_region_held3 (fun W => W.cell? ⟨X, 1, none⟩ = some (.pointer (some ⟨S + 1, 5, none⟩)) ∧ W.cell? ⟨S + 4, 0, none⟩ = some (.func (.func 58) #[] #[.pointer (some ⟨S + 2, 0, none⟩)])) (with_reducible first | assumption | go_keep) (first
      | (go_at_call 58; refine hn2.mono ?_; rintro e W3 ⟨rfl, st3, o3⟩; have hS3 := HST.out W3 o3; have R3 := hidE (R2.out.rest st3 (OnlyD o3)); have hx3 : X < W3.heap.size := (by rw [(OnlyD o3).size]; exact HX2.out))
      | (go_at_call 61; refine (hpp _).mono ?_; rintro e W4 ⟨rfl, b4⟩; have R4 := hidE (R3.out.step b4); have hS4 : W4.cell? ⟨X, 1, none⟩ = some (.pointer (some ⟨S + 1, 5, none⟩)) ∧ W4.cell? ⟨S + 4, 0, none⟩ = some (.func (.func 58) #[] #[.pointer (some ⟨S + 2, 0, none⟩)]) := ⟨(b4.cell (p := ⟨X, 1, none⟩) hx3).trans hS3.1, (b4.cell (p := ⟨S + 4, 0, none⟩) (by have := R3.out.sz; show S + 4 < _; omega)).trans hS3.2⟩; have c5 := R4.out.rl.cells; have f5 := R4.out.rl.freeA 5; have f6 := R4.out.rl.freeA 6; have o5 := ((Only.refl (S + 1) W4).setCell 5 (.int .i64 0)).setCell 6 (.int .i64 0); have hS5 : ((W4.setCell ⟨S + 1, 5, none⟩ (.int .i64 0)).setCell ⟨S + 1, 6, none⟩ (.int .i64 0)).cell? ⟨X, 1, none⟩ = some (.pointer (some ⟨S + 1, 5, none⟩)) ∧ ((W4.setCell ⟨S + 1, 5, none⟩ (.int .i64 0)).setCell ⟨S + 1, 6, none⟩ (.int .i64 0)).cell? ⟨S + 4, 0, none⟩ = some (.func (.func 58) #[] #[.pointer (some ⟨S + 2, 0, none⟩)]) := ⟨(o5.cell (p := ⟨X, 1, none⟩) hxs).trans hS4.1, (o5.cell (p := ⟨S + 4, 0, none⟩) (by show ¬ S + 4 = S + 1; omega)).trans hS4.2⟩))
    obtain ⟨W5, hW5, r5, o5'⟩ := R4.out.rl.storeP 0 0
    rw [hW5]
    have R5 := R4.out.rule r5 o5' R4.out.pf R4.out.pt
    have hso : sideO fromL l = ⟨false, 0, 0, [], m2⟩ := by
      unfold sideO
      rw [HM.out, HXX.out, HM2.out, HRP.out]
      rfl
    rw [hso] at HQ
    have hre : ({ r with sa := 0, sl := 0, fr := [] } : Rl) = { r with sa := 0, sl := 0 } := by rw [← HFR.out]
    have HF := hidE (HQ.out (.slice none 0 0) W5 (by rw [hre]; exact R5))
    clear hS hS3 hS4 hS5 o5 c5 f5 f6 hW5 r5 o5' R5 hso hre hpp hn2 hxs q2 qn hx3 b4 st3 o3 HQ
    go_wp2_with fail
    exact HF.out
  | true =>
    rw [show prefR (a, n, true) = .tuple #[.agg #[.int .i64 a, .int .i64 n], .nilIface] from rfl] at hpp
    go_region_held3 (fun W => W.cell? ⟨X, 1, none⟩ = some (.pointer (some ⟨S + 1, 5, none⟩)) ∧ W.cell? ⟨S + 4, 0, none⟩ = some (.func (.func 58) #[] #[.pointer (some ⟨S + 2, 0, none⟩)])) (with_reducible first | assumption | go_keep) (first
      | (go_at_call 58; refine hn2.mono ?_; rintro e W3 ⟨rfl, st3, o3⟩; have hS3 := HST.out W3 o3; have R3 := hidE (R2.out.rest st3 (OnlyD o3)); have hx3 : X < W3.heap.size := (by rw [(OnlyD o3).size]; exact HX2.out); have hb3 := (OnlyD o3).block X (by have := HX.out; omega))
      | (go_at_call 61; refine (hpp _).mono ?_; rintro e W4 ⟨rfl, b4⟩; have R4 := hidE (R3.out.step b4); have hS4 : W4.cell? ⟨X, 1, none⟩ = some (.pointer (some ⟨S + 1, 5, none⟩)) ∧ W4.cell? ⟨S + 4, 0, none⟩ = some (.func (.func 58) #[] #[.pointer (some ⟨S + 2, 0, none⟩)]) := ⟨(b4.cell (p := ⟨X, 1, none⟩) hx3).trans hS3.1, (b4.cell (p := ⟨S + 4, 0, none⟩) (by have := R3.out.sz; show S + 4 < _; omega)).trans hS3.2⟩; have c5 := R4.out.rl.cells; have f5 := R4.out.rl.freeA 5; have f6 := R4.out.rl.freeA 6; have o5 := ((Only.refl (S + 1) W4).setCell 5 (.int .i64 a)).setCell 6 (.int .i64 n); have hS5 : ((W4.setCell ⟨S + 1, 5, none⟩ (.int .i64 a)).setCell ⟨S + 1, 6, none⟩ (.int .i64 n)).cell? ⟨X, 1, none⟩ = some (.pointer (some ⟨S + 1, 5, none⟩)) ∧ ((W4.setCell ⟨S + 1, 5, none⟩ (.int .i64 a)).setCell ⟨S + 1, 6, none⟩ (.int .i64 n)).cell? ⟨S + 4, 0, none⟩ = some (.func (.func 58) #[] #[.pointer (some ⟨S + 2, 0, none⟩)]) := ⟨(o5.cell (p := ⟨X, 1, none⟩) hxs).trans hS4.1, (o5.cell (p := ⟨S + 4, 0, none⟩) (by show ¬ S + 4 = S + 1; omega)).trans hS4.2⟩))
    obtain ⟨W5, hW5, r5, o5'⟩ := R4.out.rl.storeP a n
    rw [hW5]
    have R5 := hidE (R4.out.rule r5 o5' R4.out.pf R4.out.pt)
    have H5 := hidE (show W5.heap[X]? = W1.heap[X]? from (o5'.block X hxs).trans ((b4.block X hx3).trans (hb3.trans H2.out)))
    have HX5 := hidE (show X < W5.heap.size by rw [o5'.size]; exact Nat.lt_of_lt_of_le hx3 b4.size)
    clear hS hS3 hS4 hS5 o5 c5 f5 f6 hW5 r5 o5' hpp hn2 q2 qn hx3 b4 st3 o3 hb3 HST R2 R3 R4 H2 HX2
    have cc5 := R5.out.cuc
    have hcp := cut1_any (S + 2) m2 portL W5 R5.out.st
    rw [show mkB portL = ⟨#[32, 112, 111, 114, 116, 32]⟩ from rfl] at hcp
    obtain ⟨t1, ht1⟩ : ∃ t1, Lib.hasPrefix m2 portL = t1 := ⟨_, rfl⟩
    rw [ht1] at hcp
    have HT1 := hidE ht1
    clear ht1
    cases t1 with
    | false =>
      have hso : sideO fromL l = ⟨true, a, n, [], m2⟩ := by
        unfold sideO
        rw [HM.out, HXX.out, HM2.out, HRP.out, HT1.out]
        rfl
      rw [hso] at HQ
      rw [trimP_no HT1.out] at hcp
      have hre : ({ r with sa := a, sl := n, fr := [] } : Rl) = { r with sa := a, sl := n } := by rw [← HFR.out]
      have HF := hidE (fun (W6 : World) (h6 : RdSt w0 W6 S { r with sa := a, sl := n } (.slice none 0 0) (tv) m2) => HQ.out (.slice none 0 0) W6 (by rw [hre]; exact h6))
      clear hso hre HQ hxs
      go_wp2_with (go_at_call 56; go_must (refine hcp.mono ?_; rintro e W6 ⟨rfl, st6, o6⟩; have R6 := hidE (R5.out.rest st6 o6)))
      exact HF.out W6 R6.out
    | true =>
      obtain ⟨m3, hm3⟩ : ∃ m3, Lib.trimPrefix m2 portL = m3 := ⟨_, rfl⟩
      rw [hm3] at hcp
      have hm3l : m3.length ≤ 1048576 := by rw [← hm3]; exact Nat.le_trans (trimP_len _ _) hm2l
      have HM3 := hidE hm3
      clear hm3
      go_upto_region 4 with (go_at_call 56; go_must (refine hcp.mono ?_; rintro e W6 ⟨rfl, st6, o6⟩))
      have R6 := hidE (R5.out.rest st6 o6)
      have H6 := hidE (show W6.heap[X]? = W1.heap[X]? from (o6.block X (by have := HX.out; omega)).trans H5.out)
      have HX6 := hidE (show X < W6.heap.size by rw [o6.size]; exact HX5.out)
      clear hcp cc5 st6 o6 R5 H5 HX5
      obtain ⟨y, hy⟩ : ∃ y, (splitC 32 m3).1 = y := ⟨_, rfl⟩
      obtain ⟨m4, hm4⟩ : ∃ m4, m3.drop y.length = m4 := ⟨_, rfl⟩
      have hn6 := nxt_any (S + 2) m3 W6.drew R6.out.drew.st hm3l
      rw [hy, hm4] at hn6
      have hyl : y.length ≤ 1048576 := by rw [← hy]; exact Nat.le_trans (splitC_len 32 m3).1 hm3l
      have HY := hidE hy
      have HM4 := hidE hm4
      clear hy hm4
      obtain ⟨p1, p2, p3⟩ := SD.out W6 H6.out
      have pn := R6.out.nxc
      have HST := hidE (fun (W3 : World) (o : Only (S + 2) W6.drew W3) => (show W3.cell? ⟨X, 2, none⟩ = some (.pointer (some ⟨S + 1, 9, none⟩)) ∧ W3.cell? ⟨S + 4, 0, none⟩ = some (.func (.func 58) #[] #[.pointer (some ⟨S + 2, 0, none⟩)]) from
        ⟨(SD.out W3 (((OnlyD o).block X (by have := HX.out; omega)).trans H6.out)).2.2, (World.cell?_of_block (w := W6) (a := ⟨S + 4, 0, none⟩) ((OnlyD o).block (S + 4) (by omega))).trans pn⟩))
      have hS : W6.cell? ⟨X, 2, none⟩ = some (.pointer (some ⟨S + 1, 9, none⟩)) ∧ W6.cell? ⟨S + 4, 0, none⟩ = some (.func (.func 58) #[] #[.pointer (some ⟨S + 2, 0, none⟩)]) := ⟨p3, pn⟩
      clear p1 p2
      have HTW := hidE (fun (W : World) (hb : Below S w0 W) => HTX.out.below (w' := W) (by rw [HW0.out]; exact hb))
      rcases hrr : readR y with _ | ps
      · have hsp := fun (W : World) (hb : Below S w0 W) => spParse_none y W hyl (HTW.out W hb) hrr
        have hso : sideO fromL l = ⟨false, a, n, [], m4⟩ := by
          unfold sideO
          rw [HM.out, HXX.out, HM2.out, HRP.out, HT1.out, HM3.out, HY.out, HM4.out, hrr]
          rfl
        rw [hso] at HQ
        clear hrr
        go_region_held3 (fun W => W.cell? ⟨X, 2, none⟩ = some (.pointer (some ⟨S + 1, 9, none⟩)) ∧ W.cell? ⟨S + 4, 0, none⟩ = some (.func (.func 58) #[] #[.pointer (some ⟨S + 2, 0, none⟩)])) (with_reducible first | assumption | go_keep) (first
          | (go_at_call 58; refine hn6.mono ?_; rintro e W7 ⟨rfl, st7, o7⟩; have hS7 := HST.out W7 o7; have R7 := hidE (R6.out.rest st7 (OnlyD o7)); have hx7 : X < W7.heap.size := (by rw [(OnlyD o7).size]; exact HX6.out))
          | (go_at_call 62; refine (hsp _ R7.out.bel).mono ?_; rintro e W8 ⟨rfl, b8⟩; have R8 := hidE (R7.out.step b8); have hS8 : W8.cell? ⟨X, 2, none⟩ = some (.pointer (some ⟨S + 1, 9, none⟩)) ∧ W8.cell? ⟨S + 4, 0, none⟩ = some (.func (.func 58) #[] #[.pointer (some ⟨S + 2, 0, none⟩)]) := ⟨(b8.cell (p := ⟨X, 2, none⟩) hx7).trans hS7.1, (b8.cell (p := ⟨S + 4, 0, none⟩) (by have := R7.out.sz; show S + 4 < _; omega)).trans hS7.2⟩; have c9 := R8.out.rl.cells; have f9 := R8.out.rl.freeA 9; have o9 := (Only.refl (S + 1) W8).setCell 9 (.slice none 0 0); have hS9 : (W8.setCell ⟨S + 1, 9, none⟩ (.slice none 0 0)).cell? ⟨X, 2, none⟩ = some (.pointer (some ⟨S + 1, 9, none⟩)) ∧ (W8.setCell ⟨S + 1, 9, none⟩ (.slice none 0 0)).cell? ⟨S + 4, 0, none⟩ = some (.func (.func 58) #[] #[.pointer (some ⟨S + 2, 0, none⟩)]) := ⟨(o9.cell (p := ⟨X, 2, none⟩) hxs).trans hS8.1, (o9.cell (p := ⟨S + 4, 0, none⟩) (by show ¬ S + 4 = S + 1; omega)).trans hS8.2⟩))
        obtain ⟨W9, hW9, r9, o9'⟩ := R8.out.rl.storeF (.slice none 0 0) []
        rw [hW9]
        have R9 := R8.out.rule r9 o9' (OwnSp.nil _ _) R8.out.pt
        have HF := hidE (HQ.out (.slice none 0 0) W9 R9)
        clear hS hS7 hS8 hS9 o9 c9 f9 hW9 r9 o9' R9 hso hn6 hxs p3 pn hx7 b8 st7 o7 HQ hsp
        go_wp2_with fail
        exact HF.out
      · have hsp := fun (W : World) (hb : Below S w0 W) => spParse_some y ps W hyl (HTW.out W hb) hrr
        have hso : sideO fromL l = ⟨true, a, n, ps, m4⟩ := by
          unfold sideO
          rw [HM.out, HXX.out, HM2.out, HRP.out, HT1.out, HM3.out, HY.out, HM4.out, hrr]
          rfl
        rw [hso] at HQ
        clear hrr
        go_region_held3 (fun W => W.cell? ⟨X, 2, none⟩ = some (.pointer (some ⟨S + 1, 9, none⟩)) ∧ W.cell? ⟨S + 4, 0, none⟩ = some (.func (.func 58) #[] #[.pointer (some ⟨S + 2, 0, none⟩)])) (with_reducible first | assumption | go_keep) (first
          | (go_at_call 58; refine hn6.mono ?_; rintro e W7 ⟨rfl, st7, o7⟩; have hS7 := HST.out W7 o7; have R7 := hidE (R6.out.rest st7 (OnlyD o7)); have hx7 : X < W7.heap.size := (by rw [(OnlyD o7).size]; exact HX6.out))
          | (go_at_call 62; refine (hsp _ R7.out.bel).mono ?_; rintro e W8 ⟨a8, n8, c8, rfl, own8, b8⟩; have R8 := hidE (R7.out.step b8); have OW8 := hidE (own8.base (b' := S + 5) R7.out.sz); have hS8 : W8.cell? ⟨X, 2, none⟩ = some (.pointer (some ⟨S + 1, 9, none⟩)) ∧ W8.cell? ⟨S + 4, 0, none⟩ = some (.func (.func 58) #[] #[.pointer (some ⟨S + 2, 0, none⟩)]) := ⟨(b8.cell (p := ⟨X, 2, none⟩) hx7).trans hS7.1, (b8.cell (p := ⟨S + 4, 0, none⟩) (by have := R7.out.sz; show S + 4 < _; omega)).trans hS7.2⟩; have c9 := R8.out.rl.cells; have f9 := R8.out.rl.freeA 9; have o9 := (Only.refl (S + 1) W8).setCell 9 (.slice a8 n8 c8); have hS9 : (W8.setCell ⟨S + 1, 9, none⟩ (.slice a8 n8 c8)).cell? ⟨X, 2, none⟩ = some (.pointer (some ⟨S + 1, 9, none⟩)) ∧ (W8.setCell ⟨S + 1, 9, none⟩ (.slice a8 n8 c8)).cell? ⟨S + 4, 0, none⟩ = some (.func (.func 58) #[] #[.pointer (some ⟨S + 2, 0, none⟩)]) := ⟨(o9.cell (p := ⟨X, 2, none⟩) hxs).trans hS8.1, (o9.cell (p := ⟨S + 4, 0, none⟩) (by show ¬ S + 4 = S + 1; omega)).trans hS8.2⟩; clear own8))
        obtain ⟨W9, hW9, r9, o9'⟩ := R8.out.rl.storeF (.slice a8 n8 c8) ps
        rw [hW9]
        have R9 := R8.out.rule r9 o9' OW8.out R8.out.pt
        have HF := hidE (HQ.out (.slice a8 n8 c8) W9 R9)
        clear hS hS7 hS8 hS9 o9 c9 f9 hW9 r9 o9' R9 hso hn6 hxs p3 pn hx7 b8 st7 o7 HQ hsp
        go_wp2_with fail
        exact HF.out

set_option maxHeartbeats 16000000 in
theorem rd3_to (w0 : World) (S : Nat) (r : Rl) (fv : Value) (l : List UInt8) (W : World) (h : RdSt w0 W S r (fv) (.slice none 0 0) l) (hfr : r.tl = []) (hl : l.length ≤ 1048576) (htx : TxE w0) (hw0 : w0.heap.size = S) :
    Calls Tryz.prog 60 #[sideV (mkB toL) (S + 1) 7 10, .pointer (some ⟨S + 3, 0, none⟩), .pointer (some ⟨S + 4, 0, none⟩)] W fun e w' => ∃ fv', e = .returned (okE (sideO toL l).ok) ∧ RdSt w0 w' S { r with da := (sideO toL l).a, dl := (sideO toL l).n, tl := (sideO toL l).ps } (fv) (fv') (sideO toL l).rest := by
  obtain ⟨Q, hQ⟩ : ∃ Q : Ending → World → Prop, Q = fun e w' => ∃ fv', e = .returned (okE (sideO toL l).ok) ∧ RdSt w0 w' S { r with da := (sideO toL l).a, dl := (sideO toL l).n, tl := (sideO toL l).ps } (fv) (fv') (sideO toL l).rest := ⟨_, rfl⟩
  have HQ : Hid (∀ fv' w', RdSt w0 w' S { r with da := (sideO toL l).a, dl := (sideO toL l).n, tl := (sideO toL l).ps } (fv) (fv') (sideO toL l).rest → Q (.returned (okE (sideO toL l).ok)) w') := by rw [hQ]; exact fun v w' h => ⟨v, rfl, h⟩
  rw [← hQ]
  clear hQ
  have HTX := hidE htx
  have HW0 := hidE hw0
  have HFR := hidE hfr
  clear htx hw0 hfr
  have b1 : Below W.heap.size W (W.alloc (.cells #[.string (mkB toL), .pointer (some ⟨S + 1, 7, none⟩), .pointer (some ⟨S + 1, 10, none⟩)] 80)) := (Below.refl _ _).alloc (Nat.le_refl _) _
  have hsd := heap_alloc_new W (.cells #[.string (mkB toL), .pointer (some ⟨S + 1, 7, none⟩), .pointer (some ⟨S + 1, 10, none⟩)] 80)
  obtain ⟨X, hX⟩ : ∃ X, W.heap.size = X := ⟨_, rfl⟩
  have HX := hidE (show S + 5 ≤ X by rw [← hX]; exact h.sz)
  have R1 := h.step b1
  unfold sideV
  rw [hX] at hsd
  have HXE := hidE hX
  clear hX
  obtain ⟨W1, hW1⟩ : ∃ W1, W.alloc (.cells #[.string (mkB toL), .pointer (some ⟨S + 1, 7, none⟩), .pointer (some ⟨S + 1, 10, none⟩)] 80) = W1 := ⟨_, rfl⟩
  have HW1 := hidE hW1
  rw [hW1] at hsd R1 b1
  have HX1 := hidE (show X < W1.heap.size from (Array.getElem?_eq_some_iff.1 hsd).1)
  have SD : Hid (∀ W' : World, W'.heap[X]? = W1.heap[X]? → W'.cell? ⟨X, 0, none⟩ = some (.string (mkB toL)) ∧ W'.cell? ⟨X, 1, none⟩ = some (.pointer (some ⟨S + 1, 7, none⟩)) ∧ W'.cell? ⟨X, 2, none⟩ = some (.pointer (some ⟨S + 1, 10, none⟩))) := fun W' hb => by
    have hs := hb.trans hsd
    refine ⟨?_, ?_, ?_⟩ <;> (rw [cell_of_row W' X _ _ _ _ hs]; rfl)
  clear hW1 b1 h hsd
  have hc1 := cut1_any (S + 2) l toL W1 R1.st
  obtain ⟨m, hm⟩ : ∃ m, Lib.trimPrefix l toL = m := ⟨_, rfl⟩
  have hml : m.length ≤ 1048576 := by rw [← hm]; exact Nat.le_trans (trimP_len _ _) hl
  rw [hm] at hc1
  have HM := hidE hm
  clear hm
  generalize Lib.hasPrefix l toL = t0 at hc1
  go_enter Tryz.func60, Tryz.ntmps60
  go_upto_region 1 with fail
  rw [HXE.out, HW1.out]
  clear HW1
  obtain ⟨s0, s1, s2⟩ := SD.out W1 rfl
  have cc := R1.cuc
  go_upto_region 2 with (go_at_call 56; go_must (refine hc1.mono ?_; rintro e W2 ⟨rfl, st2, o2⟩))
  have R2 := hidE (R1.rest st2 o2)
  have H2 := hidE (show W2.heap[X]? = W1.heap[X]? from o2.block X (by have := HX.out; omega))
  have HX2 := hidE (show X < W2.heap.size by rw [o2.size]; exact HX1.out)
  clear R1 hc1 s0 s1 s2 cc st2 o2 HX1
  obtain ⟨x, hx⟩ : ∃ x, (splitC 32 m).1 = x := ⟨_, rfl⟩
  obtain ⟨m2, hm2⟩ : ∃ m2, m.drop x.length = m2 := ⟨_, rfl⟩
  have hn2 := nxt_any (S + 2) m W2.drew R2.out.drew.st hml
  rw [hx, hm2] at hn2
  have hxl : x.length ≤ 1048576 := by rw [← hx]; exact Nat.le_trans (splitC_len 32 m).1 hml
  have hm2l : m2.length ≤ 1048576 := by rw [← hm2, List.length_drop]; omega
  have HXX := hidE hx
  have HM2 := hidE hm2
  clear hx hm2
  have hpp := fun W => parsePrefix_any x W (by omega)
  obtain ⟨q1, q2, q3⟩ := SD.out W2 H2.out
  have qn := R2.out.nxc
  have HST := hidE (fun (W3 : World) (o : Only (S + 2) W2.drew W3) => (show W3.cell? ⟨X, 1, none⟩ = some (.pointer (some ⟨S + 1, 7, none⟩)) ∧ W3.cell? ⟨S + 4, 0, none⟩ = some (.func (.func 58) #[] #[.pointer (some ⟨S + 2, 0, none⟩)]) from
    ⟨(SD.out W3 (((OnlyD o).block X (by have := HX.out; omega)).trans H2.out)).2.1, (World.cell?_of_block (w := W2) (a := ⟨S + 4, 0, none⟩) ((OnlyD o).block (S + 4) (by omega))).trans qn⟩))
  obtain ⟨a, n, ok, hrp⟩ : ∃ a n ok, readP x = (a, n, ok) := ⟨_, _, _, rfl⟩
  rw [hrp] at hpp
  have HRP := hidE hrp
  clear hrp
  have hS : W2.cell? ⟨X, 1, none⟩ = some (.pointer (some ⟨S + 1, 7, none⟩)) ∧ W2.cell? ⟨S + 4, 0, none⟩ = some (.func (.func 58) #[] #[.pointer (some ⟨S + 2, 0, none⟩)]) := ⟨q2, qn⟩
  have hxs : ¬ X = S + 1 := by have := HX.out; omega
  clear q1 q3
  cases ok with
  | false =>
    rw [show prefR (a, n, false) = .tuple #[.agg #[.int .i64 0, .int .i64 0], .iface 45 (.int .i64 2)] from rfl] at hpp
    go_region_held3 (fun W => W.cell? ⟨X, 1, none⟩ = some (.pointer (some ⟨S + 1, 7, none⟩)) ∧ W.cell? ⟨S + 4, 0, none⟩ = some (.func (.func 58) #[] #[.pointer (some ⟨S + 2, 0, none⟩)])) (with_reducible first | assumption | go_keep) (first
      | (go_at_call 58; refine hn2.mono ?_; rintro e W3 ⟨rfl, st3, o3⟩; have hS3 := HST.out W3 o3; have R3 := hidE (R2.out.rest st3 (OnlyD o3)); have hx3 : X < W3.heap.size := (by rw [(OnlyD o3).size]; exact HX2.out))
      | (go_at_call 61; refine (hpp _).mono ?_; rintro e W4 ⟨rfl, b4⟩; have R4 := hidE (R3.out.step b4); have hS4 : W4.cell? ⟨X, 1, none⟩ = some (.pointer (some ⟨S + 1, 7, none⟩)) ∧ W4.cell? ⟨S + 4, 0, none⟩ = some (.func (.func 58) #[] #[.pointer (some ⟨S + 2, 0, none⟩)]) := ⟨(b4.cell (p := ⟨X, 1, none⟩) hx3).trans hS3.1, (b4.cell (p := ⟨S + 4, 0, none⟩) (by have := R3.out.sz; show S + 4 < _; omega)).trans hS3.2⟩; have c5 := R4.out.rl.cells; have f5 := R4.out.rl.freeA 7; have f6 := R4.out.rl.freeA 8; have o5 := ((Only.refl (S + 1) W4).setCell 7 (.int .i64 0)).setCell 8 (.int .i64 0); have hS5 : ((W4.setCell ⟨S + 1, 7, none⟩ (.int .i64 0)).setCell ⟨S + 1, 8, none⟩ (.int .i64 0)).cell? ⟨X, 1, none⟩ = some (.pointer (some ⟨S + 1, 7, none⟩)) ∧ ((W4.setCell ⟨S + 1, 7, none⟩ (.int .i64 0)).setCell ⟨S + 1, 8, none⟩ (.int .i64 0)).cell? ⟨S + 4, 0, none⟩ = some (.func (.func 58) #[] #[.pointer (some ⟨S + 2, 0, none⟩)]) := ⟨(o5.cell (p := ⟨X, 1, none⟩) hxs).trans hS4.1, (o5.cell (p := ⟨S + 4, 0, none⟩) (by show ¬ S + 4 = S + 1; omega)).trans hS4.2⟩))
    obtain ⟨W5, hW5, r5, o5'⟩ := R4.out.rl.storeD 0 0
    rw [hW5]
    have R5 := R4.out.rule r5 o5' R4.out.pf R4.out.pt
    have hso : sideO toL l = ⟨false, 0, 0, [], m2⟩ := by
      unfold sideO
      rw [HM.out, HXX.out, HM2.out, HRP.out]
      rfl
    rw [hso] at HQ
    have hre : ({ r with da := 0, dl := 0, tl := [] } : Rl) = { r with da := 0, dl := 0 } := by rw [← HFR.out]
    have HF := hidE (HQ.out (.slice none 0 0) W5 (by rw [hre]; exact R5))
    clear hS hS3 hS4 hS5 o5 c5 f5 f6 hW5 r5 o5' R5 hso hre hpp hn2 hxs q2 qn hx3 b4 st3 o3 HQ
    go_wp2_with fail
    exact HF.out
  | true =>
    rw [show prefR (a, n, true) = .tuple #[.agg #[.int .i64 a, .int .i64 n], .nilIface] from rfl] at hpp
    go_region_held3 (fun W => W.cell? ⟨X, 1, none⟩ = some (.pointer (some ⟨S + 1, 7, none⟩)) ∧ W.cell? ⟨S + 4, 0, none⟩ = some (.func (.func 58) #[] #[.pointer (some ⟨S + 2, 0, none⟩)])) (with_reducible first | assumption | go_keep) (first
      | (go_at_call 58; refine hn2.mono ?_; rintro e W3 ⟨rfl, st3, o3⟩; have hS3 := HST.out W3 o3; have R3 := hidE (R2.out.rest st3 (OnlyD o3)); have hx3 : X < W3.heap.size := (by rw [(OnlyD o3).size]; exact HX2.out); have hb3 := (OnlyD o3).block X (by have := HX.out; omega))
      | (go_at_call 61; refine (hpp _).mono ?_; rintro e W4 ⟨rfl, b4⟩; have R4 := hidE (R3.out.step b4); have hS4 : W4.cell? ⟨X, 1, none⟩ = some (.pointer (some ⟨S + 1, 7, none⟩)) ∧ W4.cell? ⟨S + 4, 0, none⟩ = some (.func (.func 58) #[] #[.pointer (some ⟨S + 2, 0, none⟩)]) := ⟨(b4.cell (p := ⟨X, 1, none⟩) hx3).trans hS3.1, (b4.cell (p := ⟨S + 4, 0, none⟩) (by have := R3.out.sz; show S + 4 < _; omega)).trans hS3.2⟩; have c5 := R4.out.rl.cells; have f5 := R4.out.rl.freeA 7; have f6 := R4.out.rl.freeA 8; have o5 := ((Only.refl (S + 1) W4).setCell 7 (.int .i64 a)).setCell 8 (.int .i64 n); have hS5 : ((W4.setCell ⟨S + 1, 7, none⟩ (.int .i64 a)).setCell ⟨S + 1, 8, none⟩ (.int .i64 n)).cell? ⟨X, 1, none⟩ = some (.pointer (some ⟨S + 1, 7, none⟩)) ∧ ((W4.setCell ⟨S + 1, 7, none⟩ (.int .i64 a)).setCell ⟨S + 1, 8, none⟩ (.int .i64 n)).cell? ⟨S + 4, 0, none⟩ = some (.func (.func 58) #[] #[.pointer (some ⟨S + 2, 0, none⟩)]) := ⟨(o5.cell (p := ⟨X, 1, none⟩) hxs).trans hS4.1, (o5.cell (p := ⟨S + 4, 0, none⟩) (by show ¬ S + 4 = S + 1; omega)).trans hS4.2⟩))
    obtain ⟨W5, hW5, r5, o5'⟩ := R4.out.rl.storeD a n
    rw [hW5]
    have R5 := hidE (R4.out.rule r5 o5' R4.out.pf R4.out.pt)
    have H5 := hidE (show W5.heap[X]? = W1.heap[X]? from (o5'.block X hxs).trans ((b4.block X hx3).trans (hb3.trans H2.out)))
    have HX5 := hidE (show X < W5.heap.size by rw [o5'.size]; exact Nat.lt_of_lt_of_le hx3 b4.size)
    clear hS hS3 hS4 hS5 o5 c5 f5 f6 hW5 r5 o5' hpp hn2 q2 qn hx3 b4 st3 o3 hb3 HST R2 R3 R4 H2 HX2
    have cc5 := R5.out.cuc
    have hcp := cut1_any (S + 2) m2 portL W5 R5.out.st
    rw [show mkB portL = ⟨#[32, 112, 111, 114, 116, 32]⟩ from rfl] at hcp
    obtain ⟨t1, ht1⟩ : ∃ t1, Lib.hasPrefix m2 portL = t1 := ⟨_, rfl⟩
    rw [ht1] at hcp
    have HT1 := hidE ht1
    clear ht1
    cases t1 with
    | false =>
      have hso : sideO toL l = ⟨true, a, n, [], m2⟩ := by
        unfold sideO
        rw [HM.out, HXX.out, HM2.out, HRP.out, HT1.out]
        rfl
      rw [hso] at HQ
      rw [trimP_no HT1.out] at hcp
      have hre : ({ r with da := a, dl := n, tl := [] } : Rl) = { r with da := a, dl := n } := by rw [← HFR.out]
      have HF := hidE (fun (W6 : World) (h6 : RdSt w0 W6 S { r with da := a, dl := n } (fv) (.slice none 0 0) m2) => HQ.out (.slice none 0 0) W6 (by rw [hre]; exact h6))
      clear hso hre HQ hxs
      go_wp2_with (go_at_call 56; go_must (refine hcp.mono ?_; rintro e W6 ⟨rfl, st6, o6⟩; have R6 := hidE (R5.out.rest st6 o6)))
      exact HF.out W6 R6.out
    | true =>
      obtain ⟨m3, hm3⟩ : ∃ m3, Lib.trimPrefix m2 portL = m3 := ⟨_, rfl⟩
      rw [hm3] at hcp
      have hm3l : m3.length ≤ 1048576 := by rw [← hm3]; exact Nat.le_trans (trimP_len _ _) hm2l
      have HM3 := hidE hm3
      clear hm3
      go_upto_region 4 with (go_at_call 56; go_must (refine hcp.mono ?_; rintro e W6 ⟨rfl, st6, o6⟩))
      have R6 := hidE (R5.out.rest st6 o6)
      have H6 := hidE (show W6.heap[X]? = W1.heap[X]? from (o6.block X (by have := HX.out; omega)).trans H5.out)
      have HX6 := hidE (show X < W6.heap.size by rw [o6.size]; exact HX5.out)
      clear hcp cc5 st6 o6 R5 H5 HX5
      obtain ⟨y, hy⟩ : ∃ y, (splitC 32 m3).1 = y := ⟨_, rfl⟩
      obtain ⟨m4, hm4⟩ : ∃ m4, m3.drop y.length = m4 := ⟨_, rfl⟩
      have hn6 := nxt_any (S + 2) m3 W6.drew R6.out.drew.st hm3l
      rw [hy, hm4] at hn6
      have hyl : y.length ≤ 1048576 := by rw [← hy]; exact Nat.le_trans (splitC_len 32 m3).1 hm3l
      have HY := hidE hy
      have HM4 := hidE hm4
      clear hy hm4
      obtain ⟨p1, p2, p3⟩ := SD.out W6 H6.out
      have pn := R6.out.nxc
      have HST := hidE (fun (W3 : World) (o : Only (S + 2) W6.drew W3) => (show W3.cell? ⟨X, 2, none⟩ = some (.pointer (some ⟨S + 1, 10, none⟩)) ∧ W3.cell? ⟨S + 4, 0, none⟩ = some (.func (.func 58) #[] #[.pointer (some ⟨S + 2, 0, none⟩)]) from
        ⟨(SD.out W3 (((OnlyD o).block X (by have := HX.out; omega)).trans H6.out)).2.2, (World.cell?_of_block (w := W6) (a := ⟨S + 4, 0, none⟩) ((OnlyD o).block (S + 4) (by omega))).trans pn⟩))
      have hS : W6.cell? ⟨X, 2, none⟩ = some (.pointer (some ⟨S + 1, 10, none⟩)) ∧ W6.cell? ⟨S + 4, 0, none⟩ = some (.func (.func 58) #[] #[.pointer (some ⟨S + 2, 0, none⟩)]) := ⟨p3, pn⟩
      clear p1 p2
      have HTW := hidE (fun (W : World) (hb : Below S w0 W) => HTX.out.below (w' := W) (by rw [HW0.out]; exact hb))
      rcases hrr : readR y with _ | ps
      · have hsp := fun (W : World) (hb : Below S w0 W) => spParse_none y W hyl (HTW.out W hb) hrr
        have hso : sideO toL l = ⟨false, a, n, [], m4⟩ := by
          unfold sideO
          rw [HM.out, HXX.out, HM2.out, HRP.out, HT1.out, HM3.out, HY.out, HM4.out, hrr]
          rfl
        rw [hso] at HQ
        clear hrr
        go_region_held3 (fun W => W.cell? ⟨X, 2, none⟩ = some (.pointer (some ⟨S + 1, 10, none⟩)) ∧ W.cell? ⟨S + 4, 0, none⟩ = some (.func (.func 58) #[] #[.pointer (some ⟨S + 2, 0, none⟩)])) (with_reducible first | assumption | go_keep) (first
          | (go_at_call 58; refine hn6.mono ?_; rintro e W7 ⟨rfl, st7, o7⟩; have hS7 := HST.out W7 o7; have R7 := hidE (R6.out.rest st7 (OnlyD o7)); have hx7 : X < W7.heap.size := (by rw [(OnlyD o7).size]; exact HX6.out))
          | (go_at_call 62; refine (hsp _ R7.out.bel).mono ?_; rintro e W8 ⟨rfl, b8⟩; have R8 := hidE (R7.out.step b8); have hS8 : W8.cell? ⟨X, 2, none⟩ = some (.pointer (some ⟨S + 1, 10, none⟩)) ∧ W8.cell? ⟨S + 4, 0, none⟩ = some (.func (.func 58) #[] #[.pointer (some ⟨S + 2, 0, none⟩)]) := ⟨(b8.cell (p := ⟨X, 2, none⟩) hx7).trans hS7.1, (b8.cell (p := ⟨S + 4, 0, none⟩) (by have := R7.out.sz; show S + 4 < _; omega)).trans hS7.2⟩; have c9 := R8.out.rl.cells; have f9 := R8.out.rl.freeA 10; have o9 := (Only.refl (S + 1) W8).setCell 10 (.slice none 0 0); have hS9 : (W8.setCell ⟨S + 1, 10, none⟩ (.slice none 0 0)).cell? ⟨X, 2, none⟩ = some (.pointer (some ⟨S + 1, 10, none⟩)) ∧ (W8.setCell ⟨S + 1, 10, none⟩ (.slice none 0 0)).cell? ⟨S + 4, 0, none⟩ = some (.func (.func 58) #[] #[.pointer (some ⟨S + 2, 0, none⟩)]) := ⟨(o9.cell (p := ⟨X, 2, none⟩) hxs).trans hS8.1, (o9.cell (p := ⟨S + 4, 0, none⟩) (by show ¬ S + 4 = S + 1; omega)).trans hS8.2⟩))
        obtain ⟨W9, hW9, r9, o9'⟩ := R8.out.rl.storeT (.slice none 0 0) []
        rw [hW9]
        have R9 := R8.out.rule r9 o9' R8.out.pf (OwnSp.nil _ _)
        have HF := hidE (HQ.out (.slice none 0 0) W9 R9)
        clear hS hS7 hS8 hS9 o9 c9 f9 hW9 r9 o9' R9 hso hn6 hxs p3 pn hx7 b8 st7 o7 HQ hsp
        go_wp2_with fail
        exact HF.out
      · have hsp := fun (W : World) (hb : Below S w0 W) => spParse_some y ps W hyl (HTW.out W hb) hrr
        have hso : sideO toL l = ⟨true, a, n, ps, m4⟩ := by
          unfold sideO
          rw [HM.out, HXX.out, HM2.out, HRP.out, HT1.out, HM3.out, HY.out, HM4.out, hrr]
          rfl
        rw [hso] at HQ
        clear hrr
        go_region_held3 (fun W => W.cell? ⟨X, 2, none⟩ = some (.pointer (some ⟨S + 1, 10, none⟩)) ∧ W.cell? ⟨S + 4, 0, none⟩ = some (.func (.func 58) #[] #[.pointer (some ⟨S + 2, 0, none⟩)])) (with_reducible first | assumption | go_keep) (first
          | (go_at_call 58; refine hn6.mono ?_; rintro e W7 ⟨rfl, st7, o7⟩; have hS7 := HST.out W7 o7; have R7 := hidE (R6.out.rest st7 (OnlyD o7)); have hx7 : X < W7.heap.size := (by rw [(OnlyD o7).size]; exact HX6.out))
          | (go_at_call 62; refine (hsp _ R7.out.bel).mono ?_; rintro e W8 ⟨a8, n8, c8, rfl, own8, b8⟩; have R8 := hidE (R7.out.step b8); have OW8 := hidE (own8.base (b' := S + 5) R7.out.sz); have hS8 : W8.cell? ⟨X, 2, none⟩ = some (.pointer (some ⟨S + 1, 10, none⟩)) ∧ W8.cell? ⟨S + 4, 0, none⟩ = some (.func (.func 58) #[] #[.pointer (some ⟨S + 2, 0, none⟩)]) := ⟨(b8.cell (p := ⟨X, 2, none⟩) hx7).trans hS7.1, (b8.cell (p := ⟨S + 4, 0, none⟩) (by have := R7.out.sz; show S + 4 < _; omega)).trans hS7.2⟩; have c9 := R8.out.rl.cells; have f9 := R8.out.rl.freeA 10; have o9 := (Only.refl (S + 1) W8).setCell 10 (.slice a8 n8 c8); have hS9 : (W8.setCell ⟨S + 1, 10, none⟩ (.slice a8 n8 c8)).cell? ⟨X, 2, none⟩ = some (.pointer (some ⟨S + 1, 10, none⟩)) ∧ (W8.setCell ⟨S + 1, 10, none⟩ (.slice a8 n8 c8)).cell? ⟨S + 4, 0, none⟩ = some (.func (.func 58) #[] #[.pointer (some ⟨S + 2, 0, none⟩)]) := ⟨(o9.cell (p := ⟨X, 2, none⟩) hxs).trans hS8.1, (o9.cell (p := ⟨S + 4, 0, none⟩) (by show ¬ S + 4 = S + 1; omega)).trans hS8.2⟩; clear own8))
        obtain ⟨W9, hW9, r9, o9'⟩ := R8.out.rl.storeT (.slice a8 n8 c8) ps
        rw [hW9]
        have R9 := R8.out.rule r9 o9' R8.out.pf OW8.out
        have HF := hidE (HQ.out (.slice a8 n8 c8) W9 R9)
        clear hS hS7 hS8 hS9 o9 c9 f9 hW9 r9 o9' R9 hso hn6 hxs p3 pn hx7 b8 st7 o7 HQ hsp
        go_wp2_with fail
        exact HF.out
end Go.Proofs.YthnkjfgiclolaaaGreatDoor

namespace Go.Proofs.YthnkjfgiclolaaaGreatDoor
open Go.RowKit
set_option linter.unusedVariables false
set_option maxRecDepth 10000

/-- What is read of both sides. -/
def bothR (r : Rl) (l : List UInt8) : Rl :=
  if (sideO fromL l).ok = true then { r with sa := (sideO fromL l).a, sl := (sideO fromL l).n, fr := (sideO fromL l).ps, da := (sideO toL (sideO fromL l).rest).a, dl := (sideO toL (sideO fromL l).rest).n, tl := (sideO toL (sideO fromL l).rest).ps }
  else { r with sa := (sideO fromL l).a, sl := (sideO fromL l).n, fr := (sideO fromL l).ps }
def bothRest (l : List UInt8) : List UInt8 := if (sideO fromL l).ok = true then (sideO toL (sideO fromL l).rest).rest else (sideO fromL l).rest
def bothOk (l : List UInt8) : Bool := (sideO fromL l).ok && (sideO toL (sideO fromL l).rest).ok
theorem okE_t : okE true = .nilIface := rfl
theorem okE_f : okE false = .iface 45 (.int .i64 2) := rfl
set_option maxHeartbeats 8000000 in
theorem sidesR (w0 : World) (S : Nat) (r : Rl) (l : List UInt8) (W : World) (h : RdSt w0 W S r (.slice none 0 0) (.slice none 0 0) l) (hfr : r.fr = []) (htl : r.tl = []) (hl : l.length ≤ 1048576) (htx : TxE w0) (hw0 : w0.heap.size = S) :
    Calls Tryz.prog 43 #[.pointer (some ⟨S + 1, 0, none⟩), .func (.func 60) #[] #[.pointer (some ⟨S + 3, 0, none⟩), .pointer (some ⟨S + 4, 0, none⟩)]] W fun e w' => ∃ fv' tv', e = .returned (okE (bothOk l)) ∧ RdSt w0 w' S (bothR r l) fv' tv' (bothRest l) := by
  obtain ⟨Q, hQ⟩ : ∃ Q : Ending → World → Prop, Q = fun e w' => ∃ fv' tv', e = .returned (okE (bothOk l)) ∧ RdSt w0 w' S (bothR r l) fv' tv' (bothRest l) := ⟨_, rfl⟩
  have HQ : Hid (∀ fv' tv' w', RdSt w0 w' S (bothR r l) fv' tv' (bothRest l) → Q (.returned (okE (bothOk l))) w') := by rw [hQ]; exact fun v v2 w' h => ⟨v, v2, rfl, h⟩
  rw [← hQ]
  clear hQ
  have hA1 := rd3_from w0 S r (.slice none 0 0) l W.drew h.drew hfr hl htx hw0
  unfold sideV at hA1
  rw [show mkB fromL = ⟨#[32, 102, 114, 111, 109, 32]⟩ from rfl] at hA1
  have HB1 := hidE (fun (fv' : Value) (W1 : World) (h1 : RdSt w0 W1 S { r with sa := (sideO fromL l).a, sl := (sideO fromL l).n, fr := (sideO fromL l).ps } fv' (.slice none 0 0) (sideO fromL l).rest) => rd3_to w0 S _ fv' (sideO fromL l).rest W1.drew h1.drew htl (Nat.le_trans (sideO_len _ _) hl) htx hw0)
  unfold sideV at HB1
  rw [show mkB toL = ⟨#[32, 116, 111, 32]⟩ from rfl] at HB1
  rcases hok : (sideO fromL l).ok with _ | _
  · have e1 : bothOk l = false := by unfold bothOk; rw [hok]; rfl
    have e2 : bothR r l = { r with sa := (sideO fromL l).a, sl := (sideO fromL l).n, fr := (sideO fromL l).ps } := by unfold bothR; rw [hok]; rfl
    have e3 : bothRest l = (sideO fromL l).rest := by unfold bothRest; rw [hok]; rfl
    rw [e1, e2, e3, okE_f] at HQ
    rw [hok, okE_f] at hA1
    generalize sideO fromL l = o at hA1 HQ
    clear e1 e2 e3 hok HB1 h hfr htl hl htx hw0
    go_enter Tryz.func43, Tryz.ntmps43
    go_upto_region 1 with fail
    go_region_with (go_at_call 60; go_must (refine hA1.mono ?_; rintro e w1 ⟨fv', rfl, h1⟩))
    have HF := hidE (HQ.out _ _ _ h1)
    clear hA1 h1 HQ
    go_wp2_with fail
    exact HF.out
  · have e1 : bothOk l = (sideO toL (sideO fromL l).rest).ok := by unfold bothOk; rw [hok]; rfl
    have e2 : bothR r l = { r with sa := (sideO fromL l).a, sl := (sideO fromL l).n, fr := (sideO fromL l).ps, da := (sideO toL (sideO fromL l).rest).a, dl := (sideO toL (sideO fromL l).rest).n, tl := (sideO toL (sideO fromL l).rest).ps } := by unfold bothR; rw [hok]; rfl
    have e3 : bothRest l = (sideO toL (sideO fromL l).rest).rest := by unfold bothRest; rw [hok]; rfl
    rw [e1, e2, e3] at HQ
    rw [hok, okE_t] at hA1
    generalize sideO fromL l = o at hA1 HQ HB1
    generalize sideO toL o.rest = p at HQ HB1
    obtain ⟨er, her⟩ : ∃ er, okE p.ok = er := ⟨_, rfl⟩
    rw [her] at HQ HB1
    clear e1 e2 e3 hok h hfr htl hl htx hw0 her
    go_enter Tryz.func43, Tryz.ntmps43
    go_upto_region 1 with fail
    go_region_with (go_at_call 60; go_must (refine hA1.mono ?_; rintro e w1 ⟨fv', rfl, h1⟩))
    have hB2 := HB1.out fv' w1 h1
    clear hA1 h1 HB1
    go_upto_region 4 with fail
    go_region_with (go_at_call 60; go_must (refine hB2.mono ?_; rintro e w2 ⟨tv', rfl, h2⟩))
    have HF := hidE (HQ.out _ _ _ h2)
    clear hB2 h2 HQ
    go_wp2_with fail
    go_ret
    exact HF.out
end Go.Proofs.YthnkjfgiclolaaaGreatDoor
