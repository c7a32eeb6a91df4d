/- The law WireGoes of package portlaw1 returns true, for every packet and every bytes, where errors.errorType holds the handle of the type error; the walk of its text. -/
import Derived.Test.YtpenenaifajejabDoorWireStep
import Derived.Test.YtpenenaifajejabDoorTold
import Derived.Test.YtpenenaifajejabDoorRefEnc
import Derived.Test.YtpenenaifajejabDoorRefRead
import Derived.Test.YtpenenaifajejabDoorWireEnc
namespace Go.Proofs.YtpenenaifajejabDoor
open Go.RowKit
set_option linter.unusedVariables false

theorem errV_val (e : Int) : ErrVal (errV e) e := by
  unfold errV
  split
  · exact .inl ⟨rfl, by assumption⟩
  · exact .inr rfl
def encW (p : Pk) : List Int := if pkErr p = 0 then encL p else []
def stepW (zs : List Int) : List Int := if stepE zs = 0 then stepL zs else []
theorem bytes_nil (w : World) : Bytes w (.slice none 0 0) [] := .inl ⟨rfl, _, _, rfl, fun _ => rfl⟩
theorem encode_val (p : Pk) (bv : Value) (w : World) (hb : Bytes w bv p.body) :
    Calls Tryd.prog 22 #[pkV p bv] w fun e w' => ∃ v, e = .returned (.tuple #[v, errV (pkErr p)]) ∧ Bytes w' v (encW p) ∧ Below w.heap.size w w' := by
  refine (encode_any p bv w hb).mono ?_
  rintro e w' ⟨h1, h2, h3⟩
  by_cases he : pkErr p = 0
  · obtain ⟨g, rfl, hr, _⟩ := h1 he
    have hl := (pkErr_ok he).2
    refine ⟨_, by rw [he, errV_ok], ?_, h3⟩
    have e := encL_length p
    have hb := hr.bytes 0 (18 + p.body.length) (18 + p.body.length) (by omega) (by omega) (by unfold maxLen; omega) (by omega)
    rw [List.drop_zero, List.take_of_length_le (by omega)] at hb
    unfold encW; rw [if_pos he]; exact hb
  · obtain rfl := h2 he
    refine ⟨_, by rw [errV_no he], ?_, h3⟩
    unfold encW; rw [if_neg he]; exact bytes_nil _
theorem stepL_length (zs : List Int) : (stepL zs).length = zs.length := by unfold stepL; rw [List.length_set, List.length_set, List.length_set]
theorem step_val (v : Value) (zs : List Int) (w : World) (h : Bytes w v zs) (hl : zs.length < 2 ^ 62) :
    Calls Tryd.prog 28 #[v] w fun e w' => ∃ v, e = .returned (.tuple #[v, errV (stepE zs)]) ∧ Bytes w' v (stepW zs) ∧ Below w.heap.size w w' := by
  refine (step_any v zs w h).mono ?_
  rintro e w' ⟨h1, h2, h3⟩
  by_cases he : stepE zs = 0
  · obtain ⟨v', rfl, ho⟩ := h1 he
    refine ⟨_, by rw [he, errV_ok], ?_, h3⟩
    unfold stepW; rw [if_pos he]
    exact ho.bytes (by rw [stepL_length]; exact hl)
  · obtain rfl := h2 he
    refine ⟨_, by rw [errV_no he], ?_, h3⟩
    unfold stepW; rw [if_neg he]; exact bytes_nil _
theorem refWire_val (p : Pk) (bv : Value) (w : World) (hb : Bytes w bv p.body) (he : pkErr p = 0) :
    Calls Tryd.prog 19 #[pkV p bv] w fun e w' => ∃ v, e = .returned v ∧ Bytes w' v (encW p) ∧ Below w.heap.size w w' := by
  obtain ⟨a, c, rfl⟩ := len_body hb
  refine (refWire_any p a _ c w rfl hb he).mono ?_
  rintro e w' ⟨v, rfl, ho, hw⟩
  refine ⟨v, rfl, ?_, hw⟩
  unfold encW; rw [if_pos he]
  exact ho.bytes (by rw [encL_length]; have := (pkErr_ok he).2; omega)

theorem stepE_3 {zs : List Int} (hb : ∀ x ∈ zs, 0 ≤ x ∧ x ≤ 255) (h2 : (meas zs).2 = 0) (h1 : ¬ (meas zs).1 = (zs.length : Int)) : stepE zs = 3 := by
  rcases meas_cases zs hb with ⟨h, _⟩ | ⟨n, hn, _, _, hl⟩
  · exact absurd h2 h
  · unfold stepE
    rw [hn] at h1 ⊢
    rw [if_neg (by simp), if_pos (by simp at h1 ⊢; omega)]
theorem readF_ttl {zs : List Int} (h2 : (meas zs).2 = 0) : (readF zs).ttl = zs.getD 1 0 := by unfold readF; rw [if_pos h2]; rfl
theorem stepE_6 {zs : List Int} (h2 : (meas zs).2 = 0) (h1 : (meas zs).1 = (zs.length : Int)) (ht : (readF zs).ttl = 0) : stepE zs = 6 := by
  rw [readF_ttl h2] at ht
  unfold stepE
  rw [if_neg (by simp [h2]), if_neg (by omega), if_pos ht]
theorem stepE_0 {zs : List Int} (h2 : (meas zs).2 = 0) (h1 : (meas zs).1 = (zs.length : Int)) (ht : ¬ (readF zs).ttl = 0) : stepE zs = 0 := by
  rw [readF_ttl h2] at ht
  unfold stepE
  rw [if_neg (by simp [h2]), if_neg (by omega), if_neg ht]

set_option maxRecDepth 100000 in
set_option maxHeartbeats 40000000 in
theorem goes_any (p : Pk) (ab : Option Addr) (nb cb : Nat) (av : Option Addr) (nv cv : Nat) (zs : List Int) (w : World) (hnb : p.body.length = nb) (hnv : zs.length = nv) (hb : Bytes w (.slice ab nb cb) p.body) (hv : Bytes w (.slice av nv cv) zs) (hvl : zs.length ≤ 140737488351232) (hE : ErrLaid w) :
    Calls Tryd.prog 5 #[pkV p (.slice ab nb cb), .slice av nv cv] w fun e w' => e = .returned (.bool true) ∧ Below w.heap.size w w' := by
  have HV : Hid (Bytes w (.slice av nv cv) zs) := hv
  have HB : Hid (Bytes w (.slice ab nb cb) p.body) := hb
  have HE : Hid (ErrLaid w) := hE
  have hp1 := PkAt.new w p (.slice ab nb cb)
  have b1 : Below w.heap.size w (w.alloc (.cells #[.int .i64 p.kind, .int .i64 p.ttl, .int .i64 p.ident, .int .i64 p.src, .int .i64 p.dst, .int .i64 p.pos, .bool p.more, .slice ab nb cb] 47)) := (Below.refl _ _).alloc (Nat.le_refl _) _
  have hrp := refPacket_any p _ _ (hb.below (Nat.le_refl _) b1)
  unfold pkV at *
  obtain ⟨m, hm⟩ : ∃ m, m = pkErr p := ⟨_, rfl⟩
  rw [← hm] at hrp
  have HM : Hid (m = pkErr p) := hm
  have HNV : Hid (zs.length = nv) := hnv
  have hnv1 : nv ≤ 140737488351232 := by omega
  clear hv hb hE hm hnv hnb hvl
  go_enter Tryd.func5, Tryd.ntmps5
  go_wp2_with fail
  refine hrp.mono ?_
  rintro e w2 ⟨rfl, bw2⟩
  have hp2 := hp1.below hp1.lt bw2
  have e2 : Below w.heap.size w w2 := b1.trans (bw2.mono b1.size)
  obtain ⟨B, hB⟩ : ∃ B, B = w.heap.size := ⟨_, rfl⟩
  rw [← hB] at hp2 ⊢
  clear hrp hp1 b1 bw2 hB
  go_upto_if 24 with fail
  go_cut [6] (fun s ww => Bytes ww s (encW p) ∧ PkAt ww B p (.slice ab nb cb) ∧ Below w.heap.size w ww)
  case first =>
    as_aux_lemma =>
      by_cases he : m = 0
      · have hrw := refWire_val p _ w2 (HB.out.below (Nat.le_refl _) e2) (by rw [← HM.out]; exact he)
        unfold pkV at hrw
        obtain ⟨c0, c1, c2, c3, c4, c5, c6, c7⟩ := hp2.cells
        subst he
        go_wp2_with (go_at_call 19; refine hrw.mono ?_; rintro e w3 ⟨v3, rfl, hb3, bw3⟩)
        go_meet
        case rel => exact ⟨hb3, hp2.below hp2.lt bw3, e2.trans (bw3.mono e2.size)⟩
      · have hz : encW p = [] := by unfold encW; rw [if_neg (by rw [← HM.out]; exact he)]
        have hmb : (m == 0) = false := by simpa using he
        go_wp2_with fail
        go_meet
        case rel => exact ⟨by rw [hz]; exact bytes_nil _, hp2, e2⟩
  case rest =>
    obtain ⟨hbw, hp3, e3⟩ := hcut
    clear hp2 e2
    obtain ⟨c0, c1, c2, c3, c4, c5, c6, c7⟩ := hp3.cells
    have hck := check_any p _ wc (HB.out.below (Nat.le_refl _) e3)
    rw [← HM.out] at hck
    unfold pkV at hck
    obtain ⟨ev, HEV⟩ : ∃ ev, Hid (ev = errV m) := ⟨_, rfl⟩
    rw [← HEV.out] at hck
    have HVL : Hid (ErrVal ev m) := by show ErrVal ev m; rw [HEV.out]; exact errV_val m
    go_wp2_with fail
    refine hck.mono ?_
    rintro e w4 ⟨rfl, bw4⟩
    have e4 : Below w.heap.size w w4 := e3.trans (bw4.mono e3.size)
    have hp4 := hp3.below hp3.lt bw4
    have hbw4 := hbw.below (Nat.le_refl _) bw4
    have her := error_val HVL.out m w4 (HE.out.below e4)
    rw [show (m == m) = true by simp] at her
    clear hck bw4 hbw hp3 e3 c0 c1 c2 c3 c4 c5 c6 c7
    go_wp2_with fail
    refine her.mono ?_
    rintro e w5 ⟨rfl, bw5⟩
    have e5 : Below w.heap.size w w5 := e4.trans (bw5.mono e4.size)
    have hp5 := hp4.below hp4.lt bw5
    have hbw5 := hbw4.below (Nat.le_refl _) bw5
    have hen := encode_val p _ w5 (HB.out.below (Nat.le_refl _) e5)
    rw [← HM.out, ← HEV.out] at hen
    unfold pkV at hen
    obtain ⟨c0, c1, c2, c3, c4, c5, c6, c7⟩ := hp5.cells
    clear her bw5 hbw4 hp4 e4
    go_wp2_with fail
    refine hen.mono ?_
    rintro e w6 ⟨v6, rfl, hb6, bw6⟩
    have e6 : Below w.heap.size w w6 := e5.trans (bw6.mono e5.size)
    have hbw6 := hbw5.below (Nat.le_refl _) bw6
    have her := error_val HVL.out m w6 (HE.out.below e6)
    rw [show (m == m) = true by simp] at her
    clear hen bw6 hbw5 hp5 e5 c0 c1 c2 c3 c4 c5 c6 c7
    go_wp2_with fail
    refine her.mono ?_
    rintro e w7 ⟨rfl, bw7⟩
    have e7 : Below w.heap.size w w7 := e6.trans (bw7.mono e6.size)
    have q1 := conv_bytes (hb6.below (Nat.le_refl _) bw7)
    have q2 := conv_bytes (hbw6.below (Nat.le_refl _) bw7)
    generalize strOfNums (encW p) = St at q1 q2
    have hrr := refRead_any _ zs w7 (HV.out.below (Nat.le_refl _) e7)
    obtain ⟨q, HQ⟩ : ∃ q, Hid (q = readF zs) := ⟨_, rfl⟩
    obtain ⟨m1, HM1⟩ : ∃ x, Hid (x = (meas zs).1) := ⟨_, rfl⟩
    obtain ⟨m2, HM2⟩ : ∃ x, Hid (x = (meas zs).2) := ⟨_, rfl⟩
    rw [← HQ.out, ← HM1.out, ← HM2.out] at hrr
    unfold pkV at hrr
    clear her bw7 hbw6 hb6 e6
    go_wp2_with fail
    refine hrr.mono ?_
    rintro e w8 ⟨v8, rfl, hb8, bw8⟩
    obtain ⟨a8, c8, rfl⟩ := len_body hb8
    clear hrr q1 q2
    go_upto_region 11 with fail
    have hp9 := PkAt.new w8 q (.slice a8 q.body.length c8)
    have b89 : Below w8.heap.size w8 (w8.alloc (.cells #[.int .i64 q.kind, .int .i64 q.ttl, .int .i64 q.ident, .int .i64 q.src, .int .i64 q.dst, .int .i64 q.pos, .bool q.more, .slice a8 q.body.length c8] 47)) := (Below.refl _ _).alloc (Nat.le_refl _) _
    obtain ⟨w9, hw9⟩ : ∃ w9, w8.alloc (.cells #[.int .i64 q.kind, .int .i64 q.ttl, .int .i64 q.ident, .int .i64 q.src, .int .i64 q.dst, .int .i64 q.pos, .bool q.more, .slice a8 q.body.length c8] 47) = w9 := ⟨_, rfl⟩
    rw [hw9] at hp9 b89 ⊢
    obtain ⟨B9, hB9⟩ : ∃ B9, B9 = w8.heap.size := ⟨_, rfl⟩
    rw [← hB9] at hp9 ⊢
    have e8 : Below w.heap.size w w8 := e7.trans (bw8.mono e7.size)
    have e9 : Below w.heap.size w w9 := e8.trans (b89.mono e8.size)
    have hb9 := hb8.below (Nat.le_refl _) b89
    have hrd := read_any _ zs w9 (HV.out.below (Nat.le_refl _) e9)
    obtain ⟨ev2, HEV2⟩ : ∃ ev, Hid (ev = errV m2) := ⟨_, rfl⟩
    have HVL2 : Hid (ErrVal ev2 m2) := by show ErrVal ev2 m2; rw [HEV2.out]; exact errV_val m2
    rw [← HQ.out, ← HM1.out, ← HM2.out, ← HEV2.out] at hrd
    unfold pkV at hrd
    clear hw9 hB9 bw8 hb8 b89 e7 e8
    go_wp2_with fail
    refine hrd.mono ?_
    rintro e w10 ⟨v10, rfl, hb10, bw10⟩
    obtain ⟨a10, c10, rfl⟩ := len_body hb10
    clear hrd
    go_upto_region 12 with fail
    have hp11 := PkAt.new w10 q (.slice a10 q.body.length c10)
    have b1011 : Below w10.heap.size w10 (w10.alloc (.cells #[.int .i64 q.kind, .int .i64 q.ttl, .int .i64 q.ident, .int .i64 q.src, .int .i64 q.dst, .int .i64 q.pos, .bool q.more, .slice a10 q.body.length c10] 47)) := (Below.refl _ _).alloc (Nat.le_refl _) _
    obtain ⟨w11, hw11⟩ : ∃ w11, w10.alloc (.cells #[.int .i64 q.kind, .int .i64 q.ttl, .int .i64 q.ident, .int .i64 q.src, .int .i64 q.dst, .int .i64 q.pos, .bool q.more, .slice a10 q.body.length c10] 47) = w11 := ⟨_, rfl⟩
    rw [hw11] at hp11 b1011 ⊢
    obtain ⟨B11, hB11⟩ : ∃ B11, B11 = w10.heap.size := ⟨_, rfl⟩
    rw [← hB11] at hp11 ⊢
    have b911 : Below w9.heap.size w9 w11 := bw10.trans (b1011.mono bw10.size)
    have e11 : Below w.heap.size w w11 := e9.trans (b911.mono e9.size)
    have hp9' := hp9.below hp9.lt b911
    have hb9' := hb9.below (Nat.le_refl _) b911
    have hb11 := hb10.below (Nat.le_refl _) b1011
    have her := error_val HVL2.out m2 w11 (HE.out.below e11)
    rw [show (m2 == m2) = true by simp] at her
    clear hw11 hB11 bw10 hb10 b1011 b911 e9 hb9 hp9
    go_wp2_with fail
    refine her.mono ?_
    rintro e w12 ⟨rfl, bw12⟩
    have e12 : Below w.heap.size w w12 := e11.trans (bw12.mono e11.size)
    have hp9b := hp9'.below hp9'.lt bw12
    have hp11b := hp11.below hp11.lt bw12
    have hsm := samePk q _ _ w12 (hb11.below (Nat.le_refl _) bw12) (hb9'.below (Nat.le_refl _) bw12)
    unfold pkV at hsm
    obtain ⟨c0, c1, c2, c3, c4, c5, c6, c7⟩ := hp9b.cells
    obtain ⟨d0, d1, d2, d3, d4, d5, d6, d7⟩ := hp11b.cells
    clear her bw12 hp9' hp11 hb9' hb11 e11
    go_wp2_with fail
    refine hsm.mono ?_
    rintro e w13 ⟨rfl, bw13⟩
    have e13 : Below w.heap.size w w13 := e12.trans (bw13.mono e12.size)
    have ct := (hp9b.below hp9b.lt bw13).cells.2.1
    clear hsm bw13 hp9b hp11b e12 c0 c1 c2 c3 c4 c5 c6 c7 d0 d1 d2 d3 d4 d5 d6 d7
    go_upto_region 17 with fail
    have hmc := meas_cases zs HV.out.byte
    by_cases h2 : m2 = 0
    · have H2 : Hid ((meas zs).2 = 0) := by show (meas zs).2 = 0; rw [← HM2.out]; exact h2
      subst h2
      by_cases h1 : m1 = (nv : Int)
      · have H1 : Hid ((meas zs).1 = (zs.length : Int)) := by show (meas zs).1 = (zs.length : Int); rw [← HM1.out, HNV.out]; exact h1
        subst h1
        by_cases h0 : q.ttl = 0
        · as_aux_lemma =>
            have HK : Hid (stepE zs = 6) := stepE_6 H2.out H1.out (by rw [← HQ.out]; exact h0)
            have HLW : Hid (stepW zs = []) := by show stepW zs = []; unfold stepW; rw [HK.out]; rfl
            rw [h0] at ct
            clear h0 hmc
            have hst := step_val _ zs w13 (HV.out.below (Nat.le_refl _) e13) (by have := HNV.out; omega)
            rw [HK.out, HLW.out] at hst
            obtain ⟨ev3, HEV3⟩ : ∃ ev, Hid (ev = errV 6) := ⟨_, rfl⟩
            have HVL3 : Hid (ErrVal ev3 6) := by show ErrVal ev3 6; rw [HEV3.out]; exact errV_val _
            rw [← HEV3.out] at hst
            go_wp2_with fail
            refine hst.mono ?_
            rintro e w14 ⟨v14, rfl, hb14, bw14⟩
            have e14 : Below w.heap.size w w14 := e13.trans (bw14.mono e13.size)
            have her := error_val HVL3.out 6 w14 (HE.out.below e14)
            rw [show ((6 : Int) == 6) = true by simp] at her
            have hwant : Bytes w14 (.slice none 0 0) [] := (bytes_nil w13).below (Nat.le_refl _) bw14
            clear hst bw14 HEV3
            go_wp2_with fail
            refine her.mono ?_
            rintro e w15 ⟨rfl, bw15⟩
            have e15 : Below w.heap.size w w15 := e14.trans (bw15.mono e14.size)
            have r1 := conv_bytes (hb14.below (Nat.le_refl _) bw15)
            have r2 := conv_bytes (hwant.below (Nat.le_refl _) bw15)
            generalize strOfNums [] = St at r1 r2
            clear her bw15 hb14 hwant e14
            go_wp2
            go_ret
            exact ⟨rfl, e15⟩
        · as_aux_lemma =>
            have HK : Hid (stepE zs = 0) := stepE_0 H2.out H1.out (by rw [← HQ.out]; exact h0)
            have HLW : Hid (stepW zs = stepL zs) := by show stepW zs = stepL zs; unfold stepW; rw [HK.out]; rfl
            have htz : ¬ zs.getD 1 0 = 0 := by rw [← readF_ttl H2.out, ← HQ.out]; exact h0
            have hq0 : (q.ttl == 0) = false := by simpa using h0
            have hz := HNV.out
            obtain ⟨n, hn, k0, k1, k2⟩ : ∃ n : Nat, meas zs = ((n : Int), 0) ∧ 18 ≤ n ∧ n ≤ 4018 ∧ n ≤ zs.length := hmc.resolve_left (fun h => h.1 H2.out)
            have h18 : 18 ≤ nv := by omega
            have h40 : nv ≤ 4018 := by have h := H1.out; rw [hn] at h; simp only at h; omega
            rcases HV.out with ⟨hx, _⟩ | ⟨bb, bo, bl, bc, hv, g1, g2, g3, g4, g5⟩
            · rw [hx] at hz; simp at hz; omega
            simp only [Value.slice.injEq] at hv
            obtain ⟨hav, hbl, hbc⟩ := hv
            subst hav hbl hbc
            have hbb := g5.lt (by omega)
            have hr13 := g5.below hbb e13
            have b0 := getD_byte (by omega : 0 < zs.length) g5.2
            have b1 := getD_byte (by omega : 1 < zs.length) g5.2
            have b8 := getD_byte (by omega : 8 < zs.length) g5.2
            have b9 := getD_byte (by omega : 9 < zs.length) g5.2
            have x0 : w13.cell? ⟨bb, bo, none⟩ = some (.int .u8 (zs.getD 0 0)) := hr13.1 0 (by omega)
            have x1 : w13.cell? ⟨bb, bo + 1, none⟩ = some (.int .u8 (zs.getD 1 0)) := hr13.1 1 (by omega)
            have hN8 := refN2 hr13 8 (cv - 8) (by omega) (by omega) (by unfold maxLen at *; omega)
            simp only [Nat.reduceAdd] at hN8
            have eS : 65535 - addS (addS (65535 - (zs.getD 8 0 * 256 + zs.getD 9 0)) (65535 - zs.getD 0 0 * 256 - zs.getD 1 0)) (zs.getD 0 0 * 256 + zs.getD 1 0 - 1) = stepS zs := by
              unfold stepS
              rw [show (65535 : Int) - zs.getD 0 0 * 256 - zs.getD 1 0 = 65535 - (zs.getD 0 0 * 256 + zs.getD 1 0) by omega]
            have hSr := stepS_range zs g5.2 (by omega) (by omega)
            obtain ⟨z0, HZ0⟩ : ∃ z, Hid (z = zs.getD 0 0) := ⟨_, rfl⟩
            obtain ⟨z1, HZ1⟩ : ∃ z, Hid (z = zs.getD 1 0) := ⟨_, rfl⟩
            obtain ⟨sm, HSM⟩ : ∃ z, Hid (z = zs.getD 8 0 * 256 + zs.getD 9 0) := ⟨_, rfl⟩
            rw [← HSM.out] at hN8 eS
            have hsm : 0 ≤ sm ∧ sm ≤ 65535 := by rw [HSM.out]; omega
            rw [← HZ0.out] at x0 b0 eS
            rw [← HZ1.out] at x1 b1 htz eS
            have ra := addS_range (a := 65535 - sm) (b := 65535 - z0 * 256 - z1) (by omega) (by omega) (by omega) (by omega)
            have hA1 := fun W => refAdd_any (65535 - sm) (65535 - z0 * 256 - z1) W (by omega) (by omega) (by omega) (by omega)
            obtain ⟨A1, HA1⟩ : ∃ z, Hid (z = addS (65535 - sm) (65535 - z0 * 256 - z1)) := ⟨_, rfl⟩
            rw [← HA1.out] at hA1 ra eS
            have rb := addS_range (a := A1) (b := z0 * 256 + z1 - 1) (by omega) (by omega) (by omega) (by omega)
            have hA2 := fun W => refAdd_any A1 (z0 * 256 + z1 - 1) W (by omega) (by omega) (by omega) (by omega)
            obtain ⟨A2, HA2⟩ : ∃ z, Hid (z = addS A1 (z0 * 256 + z1 - 1)) := ⟨_, rfl⟩
            rw [← HA2.out] at hA2 rb eS
            have HS : Hid (65535 - A2 = stepS zs) := eS
            obtain ⟨X, HX⟩ : ∃ z, Hid (z = z0 * 256) := ⟨_, rfl⟩
            obtain ⟨K1, HK1⟩ : ∃ z, Hid (z = 65535 - sm) := ⟨_, rfl⟩
            obtain ⟨K2, HK2⟩ : ∃ z, Hid (z = 65535 - z0 * 256) := ⟨_, rfl⟩
            obtain ⟨K3, HK3⟩ : ∃ z, Hid (z = 65535 - z0 * 256 - z1) := ⟨_, rfl⟩
            obtain ⟨K4, HK4⟩ : ∃ z, Hid (z = z0 * 256 + z1) := ⟨_, rfl⟩
            obtain ⟨K5, HK5⟩ : ∃ z, Hid (z = z0 * 256 + z1 - 1) := ⟨_, rfl⟩
            obtain ⟨tt, HT0⟩ : ∃ z, Hid (65535 - A2 = z) := ⟨_, rfl⟩
            have p1 : IntKind.i64.wrap (65535 - sm) = K1 := by rw [HK1.out, IntKind.wrap_i64]; omega
            have p2 : IntKind.i64.wrap (65535 - X) = K2 := by rw [HX.out, HK2.out, IntKind.wrap_i64]; omega
            have p3 : IntKind.i64.wrap (K2 - z1) = K3 := by rw [HK2.out, HK3.out, IntKind.wrap_i64]; omega
            have p4 : IntKind.i64.wrap (X + z1) = K4 := by rw [HX.out, HK4.out, IntKind.wrap_i64]; omega
            have p5 : IntKind.i64.wrap (K4 - 1) = K5 := by rw [HK4.out, HK5.out, IntKind.wrap_i64]; omega
            have p6 : IntKind.i64.wrap (65535 - A2) = tt := by rw [← HT0.out, IntKind.wrap_i64]; omega
            rw [← HK1.out, ← HK3.out] at hA1
            rw [← HK5.out] at hA2
            have hcm := g2
            unfold maxLen at hcm
            have n8 : ¬ cv = 8 := by omega
            have i0 : (0 : Int) < (nv : Int) := by omega
            have i1 : (1 : Int) < (nv : Int) := by omega
            have i2 : (10 : Int) ≤ (cv : Int) := by omega
            have HG5 : Hid (Row w bb bo zs) := g5
            clear hmc hn k0 k1 k2 eS h0 hz g5 hr13 b8 b9 hSr
            go_wp2_with fail
            refine hN8.mono ?_
            rintro e w' ⟨rfl, rfl⟩
            go_upto_region 24 with fail
            rw [← HX.out]
            have HF : Hid ((¬ z1 = 0) ∧ (0 ≤ A2 ∧ A2 ≤ 65535) ∧ nv ≤ 4018 ∧ 18 ≤ nv ∧ 0 ≤ z1 ∧ z1 ≤ 255) := ⟨htz, rb, h40, h18, b1⟩
            have p0 : IntKind.i64.wrap z1 = z1 := by rw [IntKind.wrap_i64]; omega
            clear x0 hN8 hq0 ct b0 b1 htz hsm ra rb hcm n8 i0 i2 g1 g2 g3 g4 hnv1 h40 h18 hbb HA1 HA2 HSM HZ0 HG5
            go_big_quiet ((first
              | (go_at_call_of 27 (Value.int IntKind.i64 A1); exact Calls.quiet_of_same (hA2 _))
              | (go_at_call 27; exact Calls.quiet_of_same (hA1 _))))
            go_upto_region 25 with fail
            obtain ⟨htz, rb, h40, h18, b1⟩ := HF.out
            have ed : Below w.heap.size w (w'.drewN nq) := below_drewN e13 nq
            obtain ⟨wd, hwd⟩ : ∃ wd, w'.drewN nq = wd := ⟨_, rfl⟩
            rw [hwd] at ed ⊢
            have HTT : Hid (tt = stepS zs) := by show tt = stepS zs; rw [← HT0.out]; exact HS.out
            have htr : 0 ≤ tt ∧ tt ≤ 65535 := by rw [← HT0.out]; omega
            have hbx := HV.out.below (Nat.le_refl _) ed
            have hz := HNV.out
            clear hwd p0 p1 p2 p3 p4 p5 p6 hA1 hA2 x1 e13
            go_upto_region 26 with (at_builtin; refine wpList_append_bytes rfl (.tmp 125) (.tmp 126) rfl wd.heap.size _ [] rfl (OwnB.nil _ _) _ zs rfl hbx (by simp; omega) (Nat.le_refl _) ?_; intro vy wy oy growy)
            have ey : Below w.heap.size w wy := ed.grown growy ed.size (fun k hk => by cases hk)
            rw [List.nil_append] at oy
            have oy := oy.base ed.size
            obtain ⟨gy, capy, hvy, hgy0, hgy1, hlcy, hcmy⟩ := oy.shape (by omega)
            subst hvy
            rw [hz] at oy hlcy ⊢
            have y1 := oy.cell hz.symm 1 (by omega)
            have f1 := oy.free hz.symm 1
            rw [← HZ1.out] at y1
            have i8 : (8 : Int) < (nv : Int) := by omega
            have i9 : (9 : Int) < (nv : Int) := by omega
            have u1 : IntKind.u8.wrap (z1 - 1) = z1 - 1 := by rw [IntKind.wrap_u8]; omega
            clear growy hbx ed
            go_upto_region 27 with fail
            have oy1 := oy.store hz.symm 1 (z1 - 1) (by omega) (by omega)
            have ey1 := ey.setCell (p := ⟨gy, 1, none⟩) hgy0 (.int .u8 (z1 - 1))
            obtain ⟨wa, hwa⟩ : ∃ wa, wy.setCell ⟨gy, 1, none⟩ (.int .u8 (z1 - 1)) = wa := ⟨_, rfl⟩
            rw [hwa] at oy1 ey1 ⊢
            have hz1 : Hid (nv = (zs.set 1 (z1 - 1)).length) := by show nv = _; rw [List.length_set]; exact hz.symm
            have y8 := oy1.cell hz1.out 8 (by rw [← hz1.out]; omega)
            have f8 := oy1.free hz1.out 8
            clear hwa oy ey y1 f1
            go_upto_region 28 with fail
            have oy2 := oy1.store hz1.out 8 (tt / 256) (by omega) (by omega)
            have ey2 := ey1.setCell (p := ⟨gy, 8, none⟩) hgy0 (.int .u8 (tt / 256))
            obtain ⟨wb, hwb⟩ : ∃ wb, wa.setCell ⟨gy, 8, none⟩ (.int .u8 (tt / 256)) = wb := ⟨_, rfl⟩
            rw [hwb] at oy2 ey2 ⊢
            have hz2 : Hid (nv = ((zs.set 1 (z1 - 1)).set 8 (tt / 256)).length) := by show nv = _; rw [List.length_set]; exact hz1.out
            have y9 := oy2.cell hz2.out 9 (by rw [← hz2.out]; omega)
            have f9 := oy2.free hz2.out 9
            clear hwb oy1 ey1 y8 f8
            go_upto_region 29 with fail
            have oy3 := oy2.store hz2.out 9 (tt % 256) (by omega) (by omega)
            have ey3 := ey2.setCell (p := ⟨gy, 9, none⟩) hgy0 (.int .u8 (tt % 256))
            obtain ⟨wf, hwf⟩ : ∃ wf, wb.setCell ⟨gy, 9, none⟩ (.int .u8 (tt % 256)) = wf := ⟨_, rfl⟩
            rw [hwf] at oy3 ey3 ⊢
            have eL : ((zs.set 1 (z1 - 1)).set 8 (tt / 256)).set 9 (tt % 256) = stepL zs := by
              unfold stepL
              rw [← HZ1.out, ← HTT.out, show tt / 256 % 256 = tt / 256 by omega]
            rw [eL] at oy3
            have hbo := oy3.bytes (by rw [stepL_length]; omega)
            clear hwf oy2 ey2 y9 f9 eL oy3 hz1 hz2 hz u1
            have hst := step_val _ zs wf (HV.out.below (Nat.le_refl _) ey3) (by have := HNV.out; omega)
            rw [HK.out, HLW.out] at hst
            obtain ⟨ev3, HEV3⟩ : ∃ ev, Hid (ev = errV 0) := ⟨_, rfl⟩
            have HVL3 : Hid (ErrVal ev3 0) := by show ErrVal ev3 0; rw [HEV3.out]; exact errV_val _
            rw [← HEV3.out] at hst
            go_wp2_with fail
            refine hst.mono ?_
            rintro e w14 ⟨v14, rfl, hb14, bw14⟩
            have e14 : Below w.heap.size w w14 := ey3.trans (bw14.mono ey3.size)
            have her := error_val HVL3.out 0 w14 (HE.out.below e14)
            rw [show ((0 : Int) == 0) = true by simp] at her
            have hwant : Bytes w14 (.slice (some ⟨gy, 0, none⟩) nv capy) (stepL zs) := (hbo).below (Nat.le_refl _) bw14
            clear hst bw14 HEV3
            go_wp2_with fail
            refine her.mono ?_
            rintro e w15 ⟨rfl, bw15⟩
            have e15 : Below w.heap.size w w15 := e14.trans (bw15.mono e14.size)
            have r1 := conv_bytes (hb14.below (Nat.le_refl _) bw15)
            have r2 := conv_bytes (hwant.below (Nat.le_refl _) bw15)
            generalize strOfNums (stepL zs) = St2 at r1 r2
            clear her bw15 hb14 hwant e14
            go_wp2
            go_ret
            exact ⟨rfl, e15⟩
      · as_aux_lemma =>
          have HK : Hid (stepE zs = 3) := stepE_3 HV.out.byte H2.out (by rw [← HM1.out, HNV.out]; exact h1)
          have HLW : Hid (stepW zs = []) := by show stepW zs = []; unfold stepW; rw [HK.out]; rfl
          have h1b : (m1 != (nv : Int)) = true := by simpa using h1
          clear h1 hmc
          have hst := step_val _ zs w13 (HV.out.below (Nat.le_refl _) e13) (by have := HNV.out; omega)
          rw [HK.out, HLW.out] at hst
          obtain ⟨ev3, HEV3⟩ : ∃ ev, Hid (ev = errV 3) := ⟨_, rfl⟩
          have HVL3 : Hid (ErrVal ev3 3) := by show ErrVal ev3 3; rw [HEV3.out]; exact errV_val _
          rw [← HEV3.out] at hst
          go_wp2_with fail
          refine hst.mono ?_
          rintro e w14 ⟨v14, rfl, hb14, bw14⟩
          have e14 : Below w.heap.size w w14 := e13.trans (bw14.mono e13.size)
          have her := error_val HVL3.out 3 w14 (HE.out.below e14)
          rw [show ((3 : Int) == 3) = true by simp] at her
          have hwant : Bytes w14 (.slice none 0 0) [] := (bytes_nil w13).below (Nat.le_refl _) bw14
          clear hst bw14 HEV3
          go_wp2_with fail
          refine her.mono ?_
          rintro e w15 ⟨rfl, bw15⟩
          have e15 : Below w.heap.size w w15 := e14.trans (bw15.mono e14.size)
          have r1 := conv_bytes (hb14.below (Nat.le_refl _) bw15)
          have r2 := conv_bytes (hwant.below (Nat.le_refl _) bw15)
          generalize strOfNums [] = St at r1 r2
          clear her bw15 hb14 hwant e14
          go_wp2
          go_ret
          exact ⟨rfl, e15⟩
    · as_aux_lemma =>
        have HK : Hid (stepE zs = m2) := by show stepE zs = m2; rw [HM2.out]; exact stepE_meas (by rw [← HM2.out]; exact h2)
        have HLW : Hid (stepW zs = []) := by show stepW zs = []; unfold stepW; rw [HK.out, if_neg h2]
        have h2b : (m2 == 0) = false := by simpa using h2
        clear h2 hmc
        have hst := step_val _ zs w13 (HV.out.below (Nat.le_refl _) e13) (by have := HNV.out; omega)
        rw [HK.out, HLW.out] at hst
        obtain ⟨ev3, HEV3⟩ : ∃ ev, Hid (ev = errV m2) := ⟨_, rfl⟩
        have HVL3 : Hid (ErrVal ev3 m2) := by show ErrVal ev3 m2; rw [HEV3.out]; exact errV_val _
        rw [← HEV3.out] at hst
        go_wp2_with fail
        refine hst.mono ?_
        rintro e w14 ⟨v14, rfl, hb14, bw14⟩
        have e14 : Below w.heap.size w w14 := e13.trans (bw14.mono e13.size)
        have her := error_val HVL3.out m2 w14 (HE.out.below e14)
        rw [show ((m2 : Int) == m2) = true by simp] at her
        have hwant : Bytes w14 (.slice none 0 0) [] := (bytes_nil w13).below (Nat.le_refl _) bw14
        clear hst bw14 HEV3
        go_wp2_with fail
        refine her.mono ?_
        rintro e w15 ⟨rfl, bw15⟩
        have e15 : Below w.heap.size w w15 := e14.trans (bw15.mono e14.size)
        have r1 := conv_bytes (hb14.below (Nat.le_refl _) bw15)
        have r2 := conv_bytes (hwant.below (Nat.le_refl _) bw15)
        generalize strOfNums [] = St at r1 r2
        clear her bw15 hb14 hwant e14
        go_wp2
        go_ret
        exact ⟨rfl, e15⟩
end Go.Proofs.YtpenenaifajejabDoor
