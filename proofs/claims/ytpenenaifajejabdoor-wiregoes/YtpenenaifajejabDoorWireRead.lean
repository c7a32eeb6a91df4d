/- What Read of package wire returns, for every bytes: the packet that they begin with and how many bytes it is, or why they begin with none. -/
import Derived.Test.YtpenenaifajejabDoorWirePk
import Derived.Deep.RegionHeld3
import Derived.Deep.DrawnRows
namespace Go.Proofs.YtpenenaifajejabDoor
open Go.RowKit
set_option linter.unusedVariables false

theorem errV_no {e : Int} (h : ¬ e = 0) : errV e = .iface 65 (.int .i64 e) := if_neg h
theorem errV_ok : errV 0 = .nilIface := if_pos rfl
theorem Bytes.alloc {w : World} {v : Value} {zs : List Int} (h : Bytes w v zs) (o : Obj) : Bytes (w.alloc o) v zs := h.below (Nat.le_refl _) ((Below.refl _ _).alloc (Nat.le_refl _) _)
theorem Row.alloc {w : World} {b off : Nat} {zs : List Int} (h : Row w b off zs) (hz : 0 < zs.length) (o : Obj) : Row (w.alloc o) b off zs := h.below (h.lt hz) ((Below.refl _ _).alloc (Nat.le_refl _) _)

set_option maxHeartbeats 4000000 in
theorem read_no (v : Value) (zs : List Int) (w : World) (h : Bytes w v zs) (he : ¬ (meas zs).2 = 0) :
    Calls Tryd.prog 24 #[v] w fun e w' => e = .returned (.tuple #[pkV zeroK (.slice none 0 0), .int .i64 0, .iface 65 (.int .i64 (meas zs).2)]) ∧ Below w.heap.size w w' := by
  have hme := measure_any v zs _ (h.alloc (.cells #[.int .i64 0, .int .i64 0, .int .i64 0, .int .i64 0, .int .i64 0, .int .i64 0, .bool false, .slice none 0 0] 47))
  rw [errV_no he] at hme
  generalize (meas zs).1 = m1 at *
  generalize (meas zs).2 = m2 at *
  clear he
  go_enter Tryd.func24, Tryd.ntmps24
  go_wp2_with (go_at_call 44; refine hme.mono ?_; rintro e wa ⟨rfl, n, rfl⟩)
  obtain ⟨w1, hw1, hp1, ho1⟩ := ((PkAt.zero w).drewN n).store 0 0 0 0 0 0 false (.slice none 0 0)
  rw [hw1]
  clear hw1
  have bw : Below w.heap.size w w1 := ho1.below (Nat.le_refl _) (below_drewN ((Below.refl _ _).alloc (Nat.le_refl _) _) n)
  obtain ⟨c0, c1, c2, c3, c4, c5, c6, c7⟩ := hp1.cells
  clear hp1 ho1 hme
  exact bodyPost_ret (v := .tuple #[pkV zeroK (.slice none 0 0), .int .i64 0, .iface 65 (.int .i64 m2)]) (by simp [results, Tryd.results24, go_sem, pkV, zeroK, c0, c1, c2, c3, c4, c5, c6, c7]) rfl ⟨rfl, bw⟩

/-- What holds all the way through the statement that makes the packet. -/
def RdS (w : World) (b off : Nat) (zs : List Int) (w' : World) : Prop := Row w' b off zs ∧ (∃ p bv, PkAt w' w.heap.size p bv) ∧ Below w.heap.size w w'
theorem RdS.drew {w : World} {b off : Nat} {zs : List Int} {w' : World} (h : RdS w b off zs w') : RdS w b off zs w'.drew := ⟨h.1.drewN 1, h.2.1, h.2.2.drew⟩
theorem RdS.step {w : World} {b off : Nat} {zs : List Int} {w' w'' : World} (h : RdS w b off zs w') (hb : b < w.heap.size) (hz : Below w'.heap.size w' w'') : RdS w b off zs w'' := by
  obtain ⟨h1, ⟨p, bv, hp⟩, h3⟩ := h
  exact ⟨h1.below (Nat.lt_of_lt_of_le hb h3.size) hz, ⟨p, bv, hp.below hp.lt hz⟩, h3.trans (hz.mono h3.size)⟩
theorem RdS.stored {w : World} {b off : Nat} {zs : List Int} {w' : World} (h : RdS w b off zs w') (hb : b < w.heap.size) (k t i s d o : Int) (m : Bool) (v : Value) :
    RdS w b off zs ((((((((w'.setCell ⟨w.heap.size, 0, none⟩ (.int .i64 k)).setCell ⟨w.heap.size, 1, none⟩ (.int .i64 t)).setCell ⟨w.heap.size, 2, none⟩ (.int .i64 i)).setCell ⟨w.heap.size, 3, none⟩ (.int .i64 s)).setCell ⟨w.heap.size, 4, none⟩ (.int .i64 d)).setCell ⟨w.heap.size, 5, none⟩ (.int .i64 o)).setCell ⟨w.heap.size, 6, none⟩ (.bool m)).setCell ⟨w.heap.size, 7, none⟩ v) := by
  obtain ⟨h1, ⟨p, bv, hp⟩, h3⟩ := h
  obtain ⟨w1, e, hp1, ho1⟩ := hp.store k t i s d o m v
  rw [e]
  exact ⟨⟨fun j hj => by rw [ho1.cell (p := ⟨b, off + j, none⟩) (by simp; omega)]; exact h1.1 j hj, h1.2⟩, ⟨_, _, hp1⟩, ho1.below (Nat.le_refl _) h3⟩
theorem OwnB.onlyTop {w w' : World} {base g : Nat} {v : Value} {zs : List Int} (h : OwnB w base v zs) (hg : g < base) (ho : Only g w w') : OwnB w' (g + 1) v zs := by
  refine ⟨⟨h.1.1, ?_⟩, h.2⟩
  rcases h.1.2 with h | ⟨k, cp, cur, h1, h2, h3, h4⟩
  · exact .inl h
  · exact .inr ⟨k, cp, cur, h1, by omega, by rw [ho.block k (by omega)]; exact h3, h4⟩
theorem OwnB.slice {w : World} {base : Nat} {v : Value} {zs : List Int} (h : OwnB w base v zs) : ∃ a l c, v = .slice a l c := by
  obtain ⟨⟨_, h2⟩, _⟩ := h
  rcases h2 with ⟨rfl, _⟩ | ⟨g, cap, cur, rfl, _⟩
  · exact ⟨_, _, _, rfl⟩
  · exact ⟨_, _, _, rfl⟩
/-- What get returns, wherever the bytes lie. -/
def Gets (b off : Nat) (zs : List Int) (s : Value) (x : Int) : Prop :=
  ∀ W : World, Row W b off zs → Calls Tryd.prog 45 #[s] W fun e w' => e = .returned (.int .i64 x) ∧ w' = W
theorem body_bytes {w : World} {b off len cap : Nat} {zs : List Int} (n : Nat) (h : Row w b off zs) (hl : len ≤ cap) (hm : cap ≤ maxLen) (hz : zs.length = len) (hn0 : 18 ≤ n) (hn1 : n ≤ 4018) (hn2 : n ≤ len) {ad : Option Addr}
    (ha : (if cap = 18 then some ⟨b, off, none⟩ else some ⟨b, off + 18, none⟩) = ad) : Bytes w (.slice ad (n - 18) (cap - 18)) ((zs.drop 18).take (n - 18)) := by
  by_cases hc : n = 18
  · subst hc
    refine .inl ⟨by simp, ad, cap - 18, by simp, fun h => ?_⟩
    subst h; split at ha <;> cases ha
  · rw [if_neg (by omega)] at ha
    subst ha
    exact .inr ⟨b, off + 18, n - 18, cap - 18, rfl, by omega, by unfold maxLen at *; omega, by omega, by simp; omega, h.part 18 (n - 18) (by omega)⟩

set_option maxRecDepth 100000 in
set_option maxHeartbeats 4000000 in
theorem read_ok (b off len cap : Nat) (zs : List Int) (n : Nat) (w : World) (hl : len ≤ cap) (hm : cap ≤ maxLen) (h62 : len < 2 ^ 62) (hz : zs.length = len) (hr : Row w b off zs) (h18 : 18 ≤ len) (hme0 : meas zs = ((n : Int), 0)) (hn0 : 18 ≤ n) (hn1 : n ≤ 4018) (hn2 : n ≤ len) :
    Calls Tryd.prog 24 #[.slice (some ⟨b, off, none⟩) len cap] w fun e w' => ∃ bv, e = .returned (.tuple #[pkV (readK zs n) bv, .int .i64 (n : Int), .nilIface]) ∧ Bytes w' bv (readK zs n).body ∧ Below w.heap.size w w' := by
  have hb : Bytes w (.slice (some ⟨b, off, none⟩) len cap) zs := .inr ⟨b, off, len, cap, rfl, hl, hm, h62, hz, hr⟩
  have hme := measure_any _ zs _ (hb.alloc (.cells #[.int .i64 0, .int .i64 0, .int .i64 0, .int .i64 0, .int .i64 0, .int .i64 0, .bool false, .slice none 0 0] 47))
  rw [hme0, errV_ok] at hme
  have hr' := hr.alloc (by omega) (.cells #[.int .i64 0, .int .i64 0, .int .i64 0, .int .i64 0, .int .i64 0, .int .i64 0, .bool false, .slice none 0 0] 47)
  have hm' := hm
  unfold maxLen at hm'
  have n1 : ¬ cap = 1 := by omega
  have n4 : ¬ cap = 4 := by omega
  have n6 : ¬ cap = 6 := by omega
  have n10 : ¬ cap = 10 := by omega
  have n14 : ¬ cap = 14 := by omega
  have g6 := fun k => get2 (hr'.drewN k) 6 (cap - 6) (by omega) (by omega) (by unfold maxLen; omega)
  simp only [Nat.reduceAdd] at g6
  have hblk := hr.lt (by omega)
  have b0 := getD_byte (by omega : 0 < zs.length) hr.2
  have b6 := getD_byte (by omega : 6 < zs.length) hr.2
  have b7 := getD_byte (by omega : 7 < zs.length) hr.2
  obtain ⟨pl, hpl⟩ : ∃ pl, pl = zs.getD 6 0 * 256 + zs.getD 7 0 := ⟨_, rfl⟩
  rw [← hpl] at g6
  have HP : Hid (pl = rdPlc zs) := hpl
  have hp0 : 0 ≤ pl := by omega
  have hp1 : pl ≤ 65535 := by omega
  obtain ⟨ad, had⟩ : ∃ ad, (if cap = 18 then some (⟨b, off, none⟩ : Addr) else some ⟨b, off + 18, none⟩) = ad := ⟨_, rfl⟩
  clear hme0 hpl b6 b7
  go_enter Tryd.func24, Tryd.ntmps24
  go_upto_region 5 with (first | (go_at_call 44; refine hme.mono ?_; rintro e wa ⟨rfl, k1, rfl⟩) | (go_at_call 45; refine (g6 _).mono ?_; rintro e w' ⟨rfl, rfl⟩))
  have hS : RdS w b off zs ((w.alloc (.cells #[.int .i64 0, .int .i64 0, .int .i64 0, .int .i64 0, .int .i64 0, .int .i64 0, .bool false, .slice none 0 0] 47)).drewN k1) :=
    ⟨hr'.drewN k1, ⟨_, _, (PkAt.zero w).drewN k1⟩, below_drewN ((Below.refl _ _).alloc (Nat.le_refl _) _) k1⟩
  obtain ⟨W1, hW1⟩ : ∃ W1, (w.alloc (.cells #[.int .i64 0, .int .i64 0, .int .i64 0, .int .i64 0, .int .i64 0, .int .i64 0, .bool false, .slice none 0 0] 47)).drewN k1 = W1 := ⟨_, rfl⟩
  rw [hW1] at hS ⊢
  clear hW1 hr' hme g6 hr hb
  have i1 : (18 : Int) ≤ (n : Int) := by omega
  have i2 : (n : Int) ≤ (len : Int) := by omega
  have i3 : (n : Int) ≤ (cap : Int) := by omega
  have i4 : (18 : Int) ≤ (cap : Int) := by omega
  have i5 : (18 : Int) ≤ (len : Int) := by omega
  have i6 : (1 : Int) ≤ (cap : Int) := by omega
  have i7 : (2 : Int) ≤ (cap : Int) := by omega
  have i8 : (6 : Int) ≤ (cap : Int) := by omega
  have i9 : (14 : Int) ≤ (cap : Int) := by omega
  obtain ⟨x0, H0, G0⟩ : ∃ x : Int, Hid (x = zs.getD 0 0) ∧ Gets b off zs (.slice (some ⟨b, off, none⟩) 1 cap) x := ⟨_, rfl, fun W h => get1 h 0 cap (by omega) (by omega) hm⟩
  obtain ⟨x1, H1, G1⟩ : ∃ x : Int, Hid (x = zs.getD 1 0) ∧ Gets b off zs (.slice (some ⟨b, off + 1, none⟩) 1 (cap - 1)) x := ⟨_, rfl, fun W h => get1 h 1 (cap - 1) (by omega) (by omega) (by unfold maxLen; omega)⟩
  obtain ⟨x2, H2, G2⟩ : ∃ x : Int, Hid (x = zs.getD 4 0 * 256 + zs.getD 5 0) ∧ Gets b off zs (.slice (some ⟨b, off + 4, none⟩) 2 (cap - 4)) x := ⟨_, rfl, fun W h => get2 h 4 (cap - 4) (by omega) (by omega) (by unfold maxLen; omega)⟩
  obtain ⟨x3, H3, G3⟩ : ∃ x : Int, Hid (x = ((zs.getD 10 0 * 256 + zs.getD 11 0) * 256 + zs.getD 12 0) * 256 + zs.getD 13 0) ∧ Gets b off zs (.slice (some ⟨b, off + 10, none⟩) 4 (cap - 10)) x := ⟨_, rfl, fun W h => get4 h 10 (cap - 10) (by omega) (by omega) (by unfold maxLen; omega)⟩
  obtain ⟨x4, H4, G4⟩ : ∃ x : Int, Hid (x = ((zs.getD 14 0 * 256 + zs.getD 15 0) * 256 + zs.getD 16 0) * 256 + zs.getD 17 0) ∧ Gets b off zs (.slice (some ⟨b, off + 14, none⟩) 4 (cap - 14)) x := ⟨_, rfl, fun W h => get4 h 14 (cap - 14) (by omega) (by omega) (by unfold maxLen; omega)⟩
  have r0 : 0 ≤ x0 ∧ x0 ≤ 255 := by rw [H0.out]; exact b0
  have e80 : IntKind.i64.wrap (x0 - 80) = x0 - 80 := by rw [IntKind.wrap_i64]; omega
  clear b0
  have m0 : True := trivial
  go_region_held3 (fun w' => RdS w b off zs w') (with_reducible first | assumption | exact RdS.drew (by assumption) | exact RdS.stored (by assumption) hblk _ _ _ _ _ _ _ _) (first
    | (go_at_call 45; have m1 : True := m0; clear m0; refine (G0 _ (by assumption : RdS w b off zs _).1).mono ?_; rintro e w' ⟨rfl, rfl⟩)
    | (go_at_call 45; have m2 : True := m1; clear m1; refine (G1 _ (by assumption : RdS w b off zs _).1).mono ?_; rintro e w' ⟨rfl, rfl⟩)
    | (go_at_call 45; have m3 : True := m2; clear m2; refine (G2 _ (by assumption : RdS w b off zs _).1).mono ?_; rintro e w' ⟨rfl, rfl⟩)
    | (go_at_call 45; have m4 : True := m3; clear m3; refine (G3 _ (by assumption : RdS w b off zs _).1).mono ?_; rintro e w' ⟨rfl, rfl⟩)
    | (go_at_call 45; have m5 : True := m4; clear m4; refine (G4 _ (by assumption : RdS w b off zs _).1).mono ?_; rintro e w' ⟨rfl, rfl⟩)
    | (go_at_call 46; refine (fresh_any _ _ _ (body_bytes n (by assumption : RdS w b off zs _).1 hl hm hz hn0 hn1 hn2 had) (by simp; omega)).mono ?_; rintro e w2 ⟨v2, rfl, own2, bel2⟩; obtain ⟨a2, l2, q2, rfl⟩ := own2.slice; have hS2 := RdS.step (by assumption : RdS w b off zs _) hblk bel2; obtain ⟨p2, bv2, hp2⟩ := hS2.2.1; obtain ⟨c0, c1, c2, c3, c4, c5, c6, c7⟩ := hp2.cells; have f0 := hp2.free 0; have f1 := hp2.free 1; have f2 := hp2.free 2; have f3 := hp2.free 3; have f4 := hp2.free 4; have f5 := hp2.free 5; have f6 := hp2.free 6; have f7 := hp2.free 7))
  obtain ⟨w3, hw3, hp3, ho3⟩ := hp2.store (x0 - 80) x1 x2 x3 x4 (pl.tmod 32768) (decide (32768 ≤ pl)) (.slice a2 l2 q2)
  rw [hw3]
  have ep : pl.tmod 32768 = pl % 32768 := Int.tmod_eq_emod_of_nonneg hp0
  rw [ep] at hp3
  clear ep
  have bw3 : Below w.heap.size w w3 := ho3.below (Nat.le_refl _) hS2.2.2
  have hW1 : w.heap.size < W1.heap.size := by
    obtain ⟨_, ⟨_, _, hh⟩, _⟩ := hS
    exact hh.lt
  have own3 := own2.onlyTop hW1 ho3
  clear hw3 c0 c1 c2 c3 c4 c5 c6 c7 f0 f1 f2 f3 f4 f5 f6 f7 own2 hp2 hS2 ho3 bel2
  obtain ⟨c0, c1, c2, c3, c4, c5, c6, c7⟩ := hp3.cells
  have f0 := hp3.free 0
  have f1 := hp3.free 1
  have f2 := hp3.free 2
  have f3 := hp3.free 3
  have f4 := hp3.free 4
  have f5 := hp3.free 5
  have f6 := hp3.free 6
  have f7 := hp3.free 7
  go_wp2
  obtain ⟨w4, hw4, hp4, ho4⟩ := hp3.store (x0 - 80) x1 x2 x3 x4 (pl % 32768) (decide (32768 ≤ pl)) (.slice a2 l2 q2)
  rw [hw4]
  have bw4 : Below w.heap.size w w4 := ho4.below (Nat.le_refl _) bw3
  have own4 := own3.onlyTop (Nat.lt_succ_self _) ho4
  clear hw4 c0 c1 c2 c3 c4 c5 c6 c7 f0 f1 f2 f3 f4 f5 f6 f7 own3 hp3 ho4
  obtain ⟨c0, c1, c2, c3, c4, c5, c6, c7⟩ := hp4.cells
  refine bodyPost_ret (v := .tuple #[.agg #[.int .i64 (x0 - 80), .int .i64 x1, .int .i64 x2, .int .i64 x3, .int .i64 x4, .int .i64 (pl % 32768), .bool (decide (32768 ≤ pl)), .slice a2 l2 q2], .int .i64 (n : Int), .nilIface]) (by simp [results, Tryd.results24, go_sem, c0, c1, c2, c3, c4, c5, c6, c7]) rfl ⟨.slice a2 l2 q2, ?_, own4.bytes (by simp; omega), bw4⟩
  rw [H0.out, H1.out, H2.out, H3.out, H4.out, HP.out]
  rfl

theorem meas_cases (zs : List Int) (hb : ∀ x ∈ zs, 0 ≤ x ∧ x ≤ 255) : (¬ (meas zs).2 = 0 ∧ (meas zs).1 = 0) ∨ ∃ n : Nat, meas zs = ((n : Int), 0) ∧ 18 ≤ n ∧ n ≤ 4018 ∧ n ≤ zs.length := by
  unfold meas
  split
  · simp
  split
  · simp
  split
  · simp
  split
  · simp
  split
  · simp
  split
  · simp
  · have b2 := getD_byte (by omega : 2 < zs.length) hb
    have b3 := getD_byte (by omega : 3 < zs.length) hb
    refine .inr ⟨(zs.getD 2 0 * 256 + zs.getD 3 0).toNat, ?_, by omega, by omega, by omega⟩
    rw [Int.toNat_of_nonneg (by omega)]
theorem read_any (v : Value) (zs : List Int) (w : World) (h : Bytes w v zs) :
    Calls Tryd.prog 24 #[v] w fun e w' => ∃ bv, e = .returned (.tuple #[pkV (readF zs) bv, .int .i64 (meas zs).1, errV (meas zs).2]) ∧ Bytes w' bv (readF zs).body ∧ Below w.heap.size w w' := by
  rcases meas_cases zs h.byte with ⟨h1, h2⟩ | ⟨n, hn, h0, h1, h2⟩
  · refine (read_no v zs w h h1).mono ?_
    rintro e w' ⟨rfl, hw⟩
    have e1 : readF zs = zeroK := by unfold readF; rw [if_neg h1]
    rw [e1, h2, errV_no h1]
    exact ⟨_, rfl, .inl ⟨rfl, _, _, rfl, fun _ => rfl⟩, hw⟩
  · have e1 : readF zs = readK zs n := by unfold readF; rw [hn, if_pos rfl, Int.toNat_natCast]
    rw [e1, hn, errV_ok]
    rcases h with ⟨rfl, _⟩ | ⟨b, off, len, cap, rfl, h3, h4, h5, h6, h7⟩
    · simp at h2; omega
    · exact read_ok b off len cap zs n w h3 h4 h5 h6 h7 (by omega) hn h0 h1 (by omega)
end Go.Proofs.YtpenenaifajejabDoor
