/- What Encode of package wire returns, for every packet: its bytes, in a row of the call's own, or Check's error. -/
import Derived.Test.YtpenenaifajejabDoorWireRead
import Derived.Laws.CopyOwn
import Derived.Laws.MakeOwn
namespace Go.Proofs.YtpenenaifajejabDoor
open Go.RowKit
set_option linter.unusedVariables false

set_option maxHeartbeats 4000000 in
theorem encode_no (p : Pk) (bv : Value) (w : World) (hb : Bytes w bv p.body) (he : ¬ pkErr p = 0) :
    Calls Tryd.prog 22 #[pkV p bv] w fun e w' => e = .returned (.tuple #[.slice none 0 0, .iface 65 (.int .i64 (pkErr p))]) ∧ Below w.heap.size w w' := by
  have b1 : Below w.heap.size w (w.alloc (.cells #[.int .i64 p.kind, .int .i64 p.ttl, .int .i64 p.ident, .int .i64 p.src, .int .i64 p.dst, .int .i64 p.pos, .bool p.more, bv] 47)) := (Below.refl _ _).alloc (Nat.le_refl _) _
  have hc := check_any p bv _ (hb.below (Nat.le_refl _) b1)
  rw [errV_no he] at hc
  obtain ⟨a, c, rfl⟩ := len_body hb
  unfold pkV at *
  generalize pkErr p = m at *
  clear he hb
  go_enter Tryd.func22, Tryd.ntmps22
  go_wp2_with (go_at_call 21; refine hc.mono ?_; rintro e wa ⟨rfl, hwa⟩)
  go_ret2
  exact ⟨rfl, b1.trans (hwa.mono (by simp))⟩

theorem src_cells {w : World} {a : Option Addr} {n c : Nat} {zs : List Int} (h : Bytes w (.slice a n c) zs) (hn : 0 < n) : ∃ ad, a = some ad ∧ ∀ j v, (zs.map (Value.int .u8))[j]? = some v → w.cell? (ad.add j) = some v := by
  rcases h with ⟨rfl, a', c', h, _⟩ | ⟨b, off, len, cap, h, h2, h3, h4, h5, h6⟩
  · simp only [Value.slice.injEq] at h; omega
  · simp only [Value.slice.injEq] at h
    obtain ⟨rfl, rfl, rfl⟩ := h
    refine ⟨_, rfl, fun j v hj => ?_⟩
    obtain ⟨y, hy, rfl⟩ := by simpa using hj
    have hj' : j < zs.length := by
      rcases Nat.lt_or_ge j zs.length with h | h
      · exact h
      · simp [List.getElem?_eq_none h] at hy
    have ea : Addr.add ⟨b, off, none⟩ j = ⟨b, off + j, none⟩ := by by_cases hi0 : j = 0 <;> simp [Addr.add, hi0]
    rw [ea, h6.1 j hj']
    simp [List.getD, hy]
theorem splice_map (L cs : List Int) (o : Nat) : splice (L.map (Value.int .u8)) o (cs.map (Value.int .u8)) = (splice L o cs).map (Value.int .u8) := by
  unfold splice; rw [List.map_append, List.map_append, List.map_take, List.map_drop, List.length_map]
/-- The rows that Encode makes, one after the other, come to the packet's bytes. -/
theorem enc_rows (p : Pk) (n cp : Nat) (hn : n = p.body.length) (hc : cp = 18 + n) {Z0 Z1 Z2 Z3 Z4 Z5 Z6 Z7 Z8 : List Int} {T : Int} (h0 : Z0 = List.replicate cp (0 : Int)) (h1 : Z1 = putL Z0 0 1 (80 + p.kind)) (h2 : Z2 = putL Z1 1 1 p.ttl) (h3 : Z3 = putL Z2 2 2 (cp : Int))
    (h4 : Z4 = putL Z3 4 2 p.ident) (h5 : Z5 = putL Z4 6 2 (plc p)) (h6 : Z6 = putL Z5 10 4 p.src) (h7 : Z7 = putL Z6 14 4 p.dst) (hT : T = tot 0 ((Z7.drop 0).take 18)) (h8 : Z8 = putL Z7 8 2 (65535 - T)) : splice Z8 18 p.body = encL p := by
  have hz : Z0 = 0 :: 0 :: 0 :: 0 :: 0 :: 0 :: 0 :: 0 :: 0 :: 0 :: 0 :: 0 :: 0 :: 0 :: 0 :: 0 :: 0 :: 0 :: List.replicate n (0 : Int) := by
    rw [h0, hc, Nat.add_comm]; rfl
  have hcp : (cp : Int) = 18 + (p.body.length : Int) := by omega
  rw [hcp] at h3
  have e7 : Z7 = headZ p 0 ++ List.replicate n 0 := by
    rw [h7, h6, h5, h4, h3, h2, h1, hz]; rfl
  have eT : T = tot 0 (headZ p 0) := by
    rw [hT, e7, List.drop_zero, List.take_append_of_le_length (by rw [headZ_length]; omega), List.take_of_length_le (by rw [headZ_length]; omega)]
  have e8 : Z8 = headZ p (sumH p) ++ List.replicate n 0 := by
    rw [h8, e7, eT]; rfl
  rw [e8]
  unfold splice encL
  rw [List.take_append_of_le_length (by rw [headZ_length]; omega), List.take_of_length_le (by rw [headZ_length]; omega)]
  rw [List.drop_eq_nil_of_le (by rw [List.length_append, headZ_length, List.length_replicate]; omega), List.append_nil]
theorem ret_row (g : Nat) {cp n : Nat} (h : cp = 18 + n) : Ending.returned (.tuple #[.slice (some ⟨g, 0, none⟩) cp cp, .nilIface]) = .returned (.tuple #[.slice (some ⟨g, 0, none⟩) (18 + n) (18 + n), .nilIface]) := by rw [h]
theorem made_bytes (n : Nat) : madeCells (Value.int .u8 0).cells n = ((List.replicate n (0 : Int)).map (Value.int .u8)).toArray := by
  apply Array.ext
  · simp [madeCells]
  · intro i h1 h2
    simp [madeCells, Value.cells, Nat.mod_one]
/-- A row of bytes that is made. -/
theorem make_row (w : World) (n : Nat) (l : Int) (hl : l = (n : Int)) (h : n ≤ 281474976710656) :
    ∃ w', (Instr.makeSlice 45 (.int .i64 l) (.int .i64 l)).run Tryd.prog w = .ok (.slice (some ⟨w.heap.size, 0, none⟩) n n) w' ∧ RowB w' w.heap.size (List.replicate n 0) ∧ Below w.heap.size w w' ∧ w'.heap.size = w.heap.size + 1 := by
  obtain ⟨i0, hi, hz0, hz1, hz2⟩ := info_parts Tryd.infoU8
  have hr := run_make (P := Tryd.prog) w 45 5 i0 (.int .u8 0) Tryd.underlying45 hi hz0 .i64 .i64 l l (by omega) (Int.le_refl _) (by rw [hz2]; omega) (by omega)
  subst hl
  rw [Int.toNat_natCast, hz1, Nat.mul_one, made_bytes] at hr
  refine ⟨_, hr, RowB.new w _ (fun x hx => ?_), (Below.refl _ _).alloc (Nat.le_refl _) _, by simp⟩
  rw [List.eq_of_mem_replicate hx]; omega
/-- What holds all the way through Encode. -/
def EnS (w : World) (B g : Nat) (p : Pk) (bv : Value) (zs : List Int) (w' : World) : Prop := RowB w' g zs ∧ PkAt w' B p bv ∧ Below w.heap.size w w' ∧ B < g ∧ w.heap.size ≤ B
theorem EnS.drew {w : World} {B g : Nat} {p : Pk} {bv : Value} {zs : List Int} {w' : World} (h : EnS w B g p bv zs w') : EnS w B g p bv zs w'.drew := ⟨h.1, h.2.1, h.2.2.1.drew, h.2.2.2⟩
theorem EnS.same {w : World} {B g : Nat} {p : Pk} {bv : Value} {zs : List Int} {w' w'' : World} (h : EnS w B g p bv zs w') (hs : Same w' w'') : EnS w B g p bv zs w'' :=
  ⟨h.1.same hs, h.2.1.same hs, below_same h.2.2.1 hs, h.2.2.2⟩
theorem EnS.put {w : World} {B g : Nat} {p : Pk} {bv : Value} {zs zs' : List Int} {w' w'' : World} (h : EnS w B g p bv zs w') (hr : RowB w'' g zs') (ho : Only g w' w'') : EnS w B g p bv zs' w'' :=
  ⟨hr, h.2.1.only (by have := h.2.2.2.1; omega) ho, ho.below (by have := h.2.2.2; omega) h.2.2.1, h.2.2.2⟩

set_option maxRecDepth 100000 in
set_option maxHeartbeats 8000000 in
theorem encode_ok (p : Pk) (a : Option Addr) (n c : Nat) (w : World) (hn : n = p.body.length) (hb : Bytes w (.slice a n c) p.body) (he : pkErr p = 0) :
    Calls Tryd.prog 22 #[pkV p (.slice a n c)] w fun e w' => ∃ g, e = .returned (.tuple #[.slice (some ⟨g, 0, none⟩) (18 + n) (18 + n), .nilIface]) ∧ RowB w' g (encL p) ∧ w.heap.size ≤ g ∧ Below w.heap.size w w' := by
  have b1 : Below w.heap.size w (w.alloc (.cells #[.int .i64 p.kind, .int .i64 p.ttl, .int .i64 p.ident, .int .i64 p.src, .int .i64 p.dst, .int .i64 p.pos, .bool p.more, (.slice a n c)] 47)) := (Below.refl _ _).alloc (Nat.le_refl _) _
  have hp1 := PkAt.new w p (.slice a n c)
  have hc := check_any p _ _ (hb.below (Nat.le_refl _) b1)
  rw [he, errV_ok] at hc
  obtain ⟨hpk, hlen⟩ := pkErr_ok he
  obtain ⟨hk, ht, hi, hs, hd, ho⟩ := of_pkIn hpk
  rw [← hn] at hlen
  have HN : Hid (n = p.body.length) := hn
  unfold pkV at *
  clear hn he hpk
  obtain ⟨i0, hinfo, hz0, hz1, hz2⟩ := info_parts Tryd.infoU8
  go_enter Tryd.func22, Tryd.ntmps22
  go_upto_region 4 with (go_at_call 21; refine hc.mono ?_; rintro e wa ⟨rfl, hwa⟩)
  have hpa := hp1.below hp1.lt hwa
  have ba : Below w.heap.size w wa := b1.trans (hwa.mono (by simp))
  have hba := hb.below (Nat.le_refl _) ba
  clear hp1 hwa b1 hc
  obtain ⟨c0, c1, c2, c3, c4, c5, c6, c7⟩ := hpa.cells
  generalize Value.agg #[.int .i64 p.kind, .int .i64 p.ttl, .int .i64 p.ident, .int .i64 p.src, .int .i64 p.dst, .int .i64 p.pos, .bool p.more, .slice a n c] = V0
  go_upto_if 15 with fail
  go_cut [5] (fun s ww => s = .int .i64 (plc p) ∧ ww = wa)
  case first =>
    rcases hm : p.more with _ | _
    · have e : Hid (p.pos = plc p) := by unfold plc; rw [hm]; rfl
      go_wp2_with fail
      go_meet
      case rel => exact ⟨congrArg (Value.int .i64) e.out, rfl⟩
    · have e : Hid (p.pos + 32768 = plc p) := by unfold plc; rw [hm]; rfl
      go_wp2_with fail
      go_meet
      case rel => exact ⟨congrArg (Value.int .i64) e.out, rfl⟩
  case rest =>
    obtain ⟨hx, hy⟩ := hcut
    subst hx hy
    obtain ⟨w0, hrun, hr0, hbel, hsz⟩ := make_row wc (18 + n) (18 + (n : Int)) (by omega) (by omega)
    go_upto_region 8 with fail
    have hB := hpa.lt
    obtain ⟨g, hg⟩ : ∃ g, g = wc.heap.size := ⟨_, rfl⟩
    obtain ⟨B, hBe⟩ : ∃ B, B = w.heap.size := ⟨_, rfl⟩
    rw [← hg] at hr0 hB ⊢
    have hp0 : PkAt w0 w.heap.size p (.slice a n c) := hpa.below hpa.lt hbel
    have hb0 : Below w.heap.size w w0 := ba.trans (hbel.mono ba.size)
    have hbz : Bytes w0 (.slice a n c) p.body := hba.below (Nat.le_refl _) hbel
    rw [← hBe] at hp0 hB ⊢
    have hwB : Hid (B = w.heap.size) := hBe
    have hBw : w.heap.size ≤ B := by omega
    clear c0 c1 c2 c3 c4 c5 c6 c7 hrun hbel hsz hpa ba hba hg hBe
    obtain ⟨cp, hcp⟩ : ∃ cp, cp = 18 + n := ⟨_, rfl⟩
    rw [← hcp] at hr0 ⊢
    have HC : Hid (cp = 18 + n) := hcp
    obtain ⟨z1, z2⟩ : 18 + n ≤ cp ∧ cp ≤ 18 + n := by omega
    clear hcp
    obtain ⟨Z0, H0⟩ : ∃ Z, Hid (Z = List.replicate cp (0 : Int)) := ⟨_, rfl⟩
    have l0 : Z0.length = cp := by rw [H0.out]; simp
    rw [← H0.out] at hr0
    obtain ⟨L0, L0'⟩ : cp ≤ Z0.length ∧ Z0.length ≤ cp := by omega
    clear l0
    have e80 : IntKind.i64.wrap (80 + p.kind) = 80 + p.kind := by rw [IntKind.wrap_i64]; omega
    have q1 : (1 : Int) ≤ (cp : Int) := by omega
    have p1 : ¬ cp = 1 := by omega
    have q2 : (2 : Int) ≤ (cp : Int) := by omega
    have p2 : ¬ cp = 2 := by omega
    have q4 : (4 : Int) ≤ (cp : Int) := by omega
    have p4 : ¬ cp = 4 := by omega
    have q6 : (6 : Int) ≤ (cp : Int) := by omega
    have p6 : ¬ cp = 6 := by omega
    have q8 : (8 : Int) ≤ (cp : Int) := by omega
    have p8 : ¬ cp = 8 := by omega
    have q10 : (10 : Int) ≤ (cp : Int) := by omega
    have p10 : ¬ cp = 10 := by omega
    have q14 : (14 : Int) ≤ (cp : Int) := by omega
    have p14 : ¬ cp = 14 := by omega
    have q18 : (18 : Int) ≤ (cp : Int) := by omega
    have ck0 : w0.cell? ⟨B, 0, none⟩ = some (.int .i64 (p.kind)) := hp0.cells.1
    go_region_held3 (fun w' => w'.cell? ⟨B, 0, none⟩ = some (.int .i64 (p.kind))) (with_reducible first | assumption | go_keep) (first
      | (go_at_call 42; refine (put_any g 0 1 _ Z0 _ _ (by omega) (by omega) (by omega) (hr0.drewN 1)).mono ?_; rintro e w1 ⟨rfl, hr1, ho1⟩; have cn1 : w1.cell? ⟨B, 0, none⟩ = some (.int .i64 (p.kind)) := by rw [ho1.cell (p := ⟨B, 0, none⟩) (by simp; omega)]; exact ck0))
    clear ck0 cn1
    go_upto_region 9 with fail
    have hp1 : PkAt w1 B p (.slice a n c) := PkAt.only (w := w0.drew) hp0 (by omega) ho1
    have hb1 : Below w.heap.size w w1 := ho1.below (by omega) hb0.drew
    clear hp0 hb0 hr0 ho1
    obtain ⟨Z1, H1⟩ : ∃ Z, Hid (Z = putL Z0 0 1 (80 + p.kind)) := ⟨_, rfl⟩
    rw [← H1.out] at hr1
    obtain ⟨L1, L1'⟩ : cp ≤ Z1.length ∧ Z1.length ≤ cp := by rw [H1.out, putL_length]; omega
    clear L0 L0'
    have ck1 : w1.cell? ⟨B, 1, none⟩ = some (.int .i64 (p.ttl)) := hp1.cells.2.1
    go_region_held3 (fun w' => w'.cell? ⟨B, 1, none⟩ = some (.int .i64 (p.ttl))) (with_reducible first | assumption | go_keep) (first
      | (go_at_call 42; refine (put_any g 1 1 _ Z1 _ _ (by omega) (by omega) (by omega) (hr1.drewN 1)).mono ?_; rintro e w2 ⟨rfl, hr2, ho2⟩; have cn2 : w2.cell? ⟨B, 1, none⟩ = some (.int .i64 (p.ttl)) := by rw [ho2.cell (p := ⟨B, 1, none⟩) (by simp; omega)]; exact ck1))
    clear ck1 cn2
    go_upto_region 10 with fail
    have hp2 : PkAt w2 B p (.slice a n c) := PkAt.only (w := w1.drew) hp1 (by omega) ho2
    have hb2 : Below w.heap.size w w2 := ho2.below (by omega) hb1.drew
    clear hp1 hb1 hr1 ho2
    obtain ⟨Z2, H2⟩ : ∃ Z, Hid (Z = putL Z1 1 1 (p.ttl)) := ⟨_, rfl⟩
    rw [← H2.out] at hr2
    obtain ⟨L2, L2'⟩ : cp ≤ Z2.length ∧ Z2.length ≤ cp := by rw [H2.out, putL_length]; omega
    clear L1 L1'
    go_upto_region 11 with (go_at_call 42; refine (put_any g 2 2 _ Z2 _ _ (by omega) (by omega) (by omega) hr2).mono ?_; rintro e w3 ⟨rfl, hr3, ho3⟩)
    have hp3 : PkAt w3 B p (.slice a n c) := PkAt.only (w := _) hp2 (by omega) ho3
    have hb3 : Below w.heap.size w w3 := ho3.below (by omega) hb2
    clear hp2 hb2 hr2 ho3
    obtain ⟨Z3, H3⟩ : ∃ Z, Hid (Z = putL Z2 2 2 ((cp : Int))) := ⟨_, rfl⟩
    rw [← H3.out] at hr3
    obtain ⟨L3, L3'⟩ : cp ≤ Z3.length ∧ Z3.length ≤ cp := by rw [H3.out, putL_length]; omega
    clear L2 L2'
    have ck3 : w3.cell? ⟨B, 2, none⟩ = some (.int .i64 (p.ident)) := hp3.cells.2.2.1
    go_region_held3 (fun w' => w'.cell? ⟨B, 2, none⟩ = some (.int .i64 (p.ident))) (with_reducible first | assumption | go_keep) (first
      | (go_at_call 42; refine (put_any g 4 2 _ Z3 _ _ (by omega) (by omega) (by omega) (hr3.drewN 1)).mono ?_; rintro e w4 ⟨rfl, hr4, ho4⟩; have cn4 : w4.cell? ⟨B, 2, none⟩ = some (.int .i64 (p.ident)) := by rw [ho4.cell (p := ⟨B, 2, none⟩) (by simp; omega)]; exact ck3))
    clear ck3 cn4
    go_upto_region 12 with fail
    have hp4 : PkAt w4 B p (.slice a n c) := PkAt.only (w := w3.drew) hp3 (by omega) ho4
    have hb4 : Below w.heap.size w w4 := ho4.below (by omega) hb3.drew
    clear hp3 hb3 hr3 ho4
    obtain ⟨Z4, H4⟩ : ∃ Z, Hid (Z = putL Z3 4 2 (p.ident)) := ⟨_, rfl⟩
    rw [← H4.out] at hr4
    obtain ⟨L4, L4'⟩ : cp ≤ Z4.length ∧ Z4.length ≤ cp := by rw [H4.out, putL_length]; omega
    clear L3 L3'
    go_upto_region 13 with (go_at_call 42; refine (put_any g 6 2 _ Z4 _ _ (by omega) (by omega) (by omega) hr4).mono ?_; rintro e w5 ⟨rfl, hr5, ho5⟩)
    have hp5 : PkAt w5 B p (.slice a n c) := PkAt.only (w := _) hp4 (by omega) ho5
    have hb5 : Below w.heap.size w w5 := ho5.below (by omega) hb4
    clear hp4 hb4 hr4 ho5
    obtain ⟨Z5, H5⟩ : ∃ Z, Hid (Z = putL Z4 6 2 (plc p)) := ⟨_, rfl⟩
    rw [← H5.out] at hr5
    obtain ⟨L5, L5'⟩ : cp ≤ Z5.length ∧ Z5.length ≤ cp := by rw [H5.out, putL_length]; omega
    clear L4 L4'
    have ck5 : w5.cell? ⟨B, 3, none⟩ = some (.int .i64 (p.src)) := hp5.cells.2.2.2.1
    go_region_held3 (fun w' => w'.cell? ⟨B, 3, none⟩ = some (.int .i64 (p.src))) (with_reducible first | assumption | go_keep) (first
      | (go_at_call 42; refine (put_any g 10 4 _ Z5 _ _ (by omega) (by omega) (by omega) (hr5.drewN 1)).mono ?_; rintro e w6 ⟨rfl, hr6, ho6⟩; have cn6 : w6.cell? ⟨B, 3, none⟩ = some (.int .i64 (p.src)) := by rw [ho6.cell (p := ⟨B, 3, none⟩) (by simp; omega)]; exact ck5))
    clear ck5 cn6
    go_upto_region 14 with fail
    have hp6 : PkAt w6 B p (.slice a n c) := PkAt.only (w := w5.drew) hp5 (by omega) ho6
    have hb6 : Below w.heap.size w w6 := ho6.below (by omega) hb5.drew
    clear hp5 hb5 hr5 ho6
    obtain ⟨Z6, H6⟩ : ∃ Z, Hid (Z = putL Z5 10 4 (p.src)) := ⟨_, rfl⟩
    rw [← H6.out] at hr6
    obtain ⟨L6, L6'⟩ : cp ≤ Z6.length ∧ Z6.length ≤ cp := by rw [H6.out, putL_length]; omega
    clear L5 L5'
    have ck6 : w6.cell? ⟨B, 4, none⟩ = some (.int .i64 (p.dst)) := hp6.cells.2.2.2.2.1
    go_region_held3 (fun w' => w'.cell? ⟨B, 4, none⟩ = some (.int .i64 (p.dst))) (with_reducible first | assumption | go_keep) (first
      | (go_at_call 42; refine (put_any g 14 4 _ Z6 _ _ (by omega) (by omega) (by omega) (hr6.drewN 1)).mono ?_; rintro e w7 ⟨rfl, hr7, ho7⟩; have cn7 : w7.cell? ⟨B, 4, none⟩ = some (.int .i64 (p.dst)) := by rw [ho7.cell (p := ⟨B, 4, none⟩) (by simp; omega)]; exact ck6))
    clear ck6 cn7
    go_upto_region 15 with fail
    have hp7 : PkAt w7 B p (.slice a n c) := PkAt.only (w := w6.drew) hp6 (by omega) ho7
    have hb7 : Below w.heap.size w w7 := ho7.below (by omega) hb6.drew
    clear hp6 hb6 hr6 ho7
    obtain ⟨Z7, H7⟩ : ∃ Z, Hid (Z = putL Z6 14 4 (p.dst)) := ⟨_, rfl⟩
    rw [← H7.out] at hr7
    obtain ⟨L7, L7'⟩ : cp ≤ Z7.length ∧ Z7.length ≤ cp := by rw [H7.out, putL_length]; omega
    clear L6 L6'
    have hsb := sum_same ((hr7.drewN 1).bytes 0 18 cp (by omega) (by omega) (by unfold maxLen; omega) (by omega))
    have hT := tot_range ((Z7.drop 0).take 18) 0 (fun x hx => hr7.2 x (List.mem_of_mem_drop (List.mem_of_mem_take hx))) (by omega) (by omega)
    obtain ⟨T, HT⟩ : ∃ T, Hid (T = tot 0 ((Z7.drop 0).take 18)) := ⟨_, rfl⟩
    rw [← HT.out] at hsb hT
    go_region_held3 (fun _ => True) (trivial) (first
      | (go_at_call 43; refine hsb.mono ?_; rintro e ws ⟨rfl, hws⟩)
      | (go_at_call 42; refine (put_any g 8 2 _ Z7 _ _ (by omega) (by omega) (by omega) ((hr7.drewN 1).same hws)).mono ?_; rintro e w8 ⟨rfl, hr8, ho8⟩))
    go_upto_region 16 with fail
    have hp8 : PkAt w8 B p (.slice a n c) := PkAt.only ((hp7.drewN 1).same hws) (by omega) ho8
    have hb8 : Below w.heap.size w w8 := ho8.below (by omega) (below_same hb7.drew hws)
    clear hp7 hb7 hr7 ho8 hws hsb
    obtain ⟨Z8, H8⟩ : ∃ Z, Hid (Z = putL Z7 8 2 (65535 - T)) := ⟨_, rfl⟩
    rw [← H8.out] at hr8
    obtain ⟨L8, L8'⟩ : cp ≤ Z8.length ∧ Z8.length ≤ cp := by rw [H8.out, putL_length]; omega
    clear L7 L7'
    have hbz8 := hb.below (Nat.le_refl _) hb8
    obtain ⟨ad, had⟩ : ∃ ad, (if cp = 18 then some (⟨g, 0, none⟩ : Addr) else some ⟨g, 18, none⟩) = ad := ⟨_, rfl⟩
    have hln := HN.out
    have s1 : Hid ((p.body.map (Value.int .u8)).length = Nat.min n (cp - 18)) := by
      show (p.body.map (Value.int .u8)).length = Nat.min n (cp - 18)
      rw [List.length_map, ← hln]
      exact (Nat.min_eq_left (show n ≤ cp - 18 by omega)).symm
    have s2 : Hid (0 < (p.body.map (Value.int .u8)).length → ad = some ⟨g, 18, none⟩ ∧ ∃ ad', a = some ad' ∧ ∀ j v, (p.body.map (Value.int .u8))[j]? = some v → w8.drew.cell? (ad'.add j) = some v) := by
      show 0 < (p.body.map (Value.int .u8)).length → ad = some ⟨g, 18, none⟩ ∧ ∃ ad', a = some ad' ∧ ∀ j v, (p.body.map (Value.int .u8))[j]? = some v → w8.drew.cell? (ad'.add j) = some v
      intro h
      rw [List.length_map, ← hln] at h
      exact ⟨by rw [← had, if_neg (by omega)], src_cells (hbz8.drewN 1) h⟩
    have s3 : Hid (18 + (p.body.map (Value.int .u8)).length ≤ (Z8.map (Value.int .u8)).length) := by
      show 18 + (p.body.map (Value.int .u8)).length ≤ (Z8.map (Value.int .u8)).length
      rw [List.length_map, List.length_map, ← hln]; omega
    have s4 : Hid (∀ v ∈ p.body.map (Value.int .u8), v.oneCell' = true) := by
      intro v hv
      obtain ⟨y, _, rfl⟩ := List.mem_map.1 hv
      rfl
    have s5 : Hid (w8.drew.heap[g]? = some (.cells (Z8.map (Value.int .u8)).toArray 5 (0, 0))) := hr8.1
    have s6 : (Tryd.prog.info? 5).map (·.size) = some 1 := by rw [hinfo, Option.map_some, hz1]
    clear hln
    have ck8 : w8.cell? ⟨B, 7, none⟩ = some (.slice a n c) := hp8.cells.2.2.2.2.2.2.2
    have S6 : Hid ((Tryd.prog.info? 5).map (·.size) = some 1) := s6
    clear s6 hinfo hz0 hz1 hz2
    go_region_held3 (fun w' => w'.cell? ⟨B, 7, none⟩ = some (.slice a n c)) (with_reducible first | assumption | go_keep) (first
      | (refine step_copy_splice rfl (.tmp 65) (.tmp 67) 45 45 rfl 5 Tryd.underlying45 S6.out ad a (cp - 18) (cp - 18) n c (by simp [Act.eval]) (by simp [Act.eval]) g 18 (Z8.map (Value.int .u8)) 5 s5.out (p.body.map (Value.int .u8)) s1.out s2.out s3.out s4.out g w8.drew (Below.refl _ _) (Nat.le_refl _) ?_; intro w9 hg9 hb9; have cn9 : w9.cell? ⟨B, 7, none⟩ = some (.slice a n c) := by rw [hb9.cell (p := ⟨B, 7, none⟩) (by simp; omega)]; exact ck8))
    have hb10 : Below w.heap.size w w9 := hb8.drew.trans (hb9.mono (by omega))
    have hrow : RowB w9 g (encL p) := by
      have e := enc_rows p n cp HN.out HC.out H0.out H1.out H2.out H3.out H4.out H5.out H6.out H7.out HT.out H8.out
      refine ⟨?_, ?_⟩
      · rw [hg9.out, splice_map, e]
      · rw [← e]
        intro x hx
        rcases List.mem_append.1 hx with h | h
        · exact hr8.2 x (List.mem_of_mem_take h)
        · rcases List.mem_append.1 h with h | h
          · exact hb.byte x h
          · exact hr8.2 x (List.mem_of_mem_drop h)
    clear hg9 hb9 cn9 ck8 s1 s2 s3 s4 s5 hr8 hp8 hb8 hbz8
    clear e80
    go_wp2
    go_ret2
    exact ⟨g, ret_row g HC.out, hrow, by omega, hb10⟩
theorem encode_any (p : Pk) (bv : Value) (w : World) (hb : Bytes w bv p.body) :
    Calls Tryd.prog 22 #[pkV p bv] w fun e w' => (pkErr p = 0 → ∃ g, e = .returned (.tuple #[.slice (some ⟨g, 0, none⟩) (18 + p.body.length) (18 + p.body.length), .nilIface]) ∧ RowB w' g (encL p) ∧ w.heap.size ≤ g) ∧
      (¬ pkErr p = 0 → e = .returned (.tuple #[.slice none 0 0, .iface 65 (.int .i64 (pkErr p))])) ∧ Below w.heap.size w w' := by
  by_cases he : pkErr p = 0
  · obtain ⟨a, c, rfl⟩ := len_body hb
    refine (encode_ok p a p.body.length c w rfl hb he).mono ?_
    rintro e w' ⟨g, h1, h2, h3, h4⟩
    exact ⟨fun _ => ⟨g, h1, h2, h3⟩, fun h => absurd he h, h4⟩
  · refine (encode_no p bv w hb he).mono ?_
    rintro e w' ⟨h1, h2⟩
    exact ⟨fun h => absurd h he, fun _ => h1, h2⟩
end Go.Proofs.YtpenenaifajejabDoor
