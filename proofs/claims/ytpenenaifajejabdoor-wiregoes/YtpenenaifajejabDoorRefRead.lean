/- What the reference's ReadWire returns, for every bytes (package portref1): the packet that they begin with, how many bytes it is, and the fault. -/
import Derived.Test.YtpenenaifajejabDoorRefWire
import Derived.Test.YtpenenaifajejabDoorWireRead
namespace Go.Proofs.YtpenenaifajejabDoor
open Go.RowKit
set_option linter.unusedVariables false

theorem refRead_short (a : Option Addr) (len cap : Nat) (w : World) (h : len < 18) :
    Calls Tryd.prog 23 #[.slice a len cap] w fun e w' => e = .returned (.tuple #[pkV zeroK (.slice none 0 0), .int .i64 0, .int .i64 8]) ∧ Below w.heap.size w w' := by
  go_enter Tryd.func23, Tryd.ntmps23
  go_wp2
  exact bodyPost_ret (v := .tuple #[pkV zeroK (.slice none 0 0), .int .i64 0, .int .i64 8]) (by simp [results, Tryd.results23, go_sem, pkV, zeroK]) rfl ⟨rfl, (Below.refl _ _).alloc (Nat.le_refl _) _⟩

set_option maxHeartbeats 4000000 in
theorem refRead_long (b off len cap : Nat) (zs : List Int) (w : World) (hl : len ≤ cap) (hm : cap ≤ maxLen) (h62 : len < 2 ^ 62) (hz : zs.length = len) (hr : Row w b off zs) (h18 : 18 ≤ len) (hno : ¬ (meas zs).2 = 0) :
    Calls Tryd.prog 23 #[.slice (some ⟨b, off, none⟩) len cap] w fun e w' => e = .returned (.tuple #[pkV zeroK (.slice none 0 0), .int .i64 0, .int .i64 (meas zs).2]) ∧ Below w.heap.size w w' := by
  have b1 : Below w.heap.size w (w.alloc (.cells #[.int .i64 0, .int .i64 0, .int .i64 0, .int .i64 0, .int .i64 0, .int .i64 0, .bool false, .slice none 0 0] 47)) := (Below.refl _ _).alloc (Nat.le_refl _) _
  have hr' := hr.below (hr.lt (by omega)) b1
  have c0 : (w.alloc (.cells #[.int .i64 0, .int .i64 0, .int .i64 0, .int .i64 0, .int .i64 0, .int .i64 0, .bool false, .slice none 0 0] 47)).cell? ⟨b, off, none⟩ = some (.int .u8 (zs.getD 0 0)) := hr'.1 0 (by omega)
  have hcw : w.cell? ⟨b, off, none⟩ = some (.int .u8 (zs.getD 0 0)) := hr.1 0 (by omega)
  have b0 := getD_byte (by omega : 0 < zs.length) hr.2
  have b2 := getD_byte (by omega : 2 < zs.length) hr.2
  have b3 := getD_byte (by omega : 3 < zs.length) hr.2
  have e18 : (zs.drop 0).take 18 = zs.take 18 := by simp
  have hB : Bytes _ (.slice (some ⟨b, off, none⟩) 18 cap) (zs.take 18) :=
    .inr ⟨b, off, 18, cap, rfl, by omega, hm, by omega, by simp; omega, e18 ▸ hr'.part 0 18 (by omega)⟩
  have htot := refTotal_bytes hB
  have hget := refN2 hr' 2 (cap - 2) (by omega) (by omega) (by unfold maxLen at *; omega)
  simp only [Nat.reduceAdd] at hget
  have hM : meas zs = if zs.getD 0 0 < 80 ∨ 95 < zs.getD 0 0 then (0, 2) else if ¬ tot 0 (zs.take 18) = 65535 then (0, 9) else
      if zs.getD 2 0 * 256 + zs.getD 3 0 < 18 then (0, 3) else if 4018 < zs.getD 2 0 * 256 + zs.getD 3 0 then (0, 4) else if (len : Int) < zs.getD 2 0 * 256 + zs.getD 3 0 then (0, 8) else
      (zs.getD 2 0 * 256 + zs.getD 3 0, 0) := by
    unfold meas; rw [hz, if_neg (by omega)]
  have htr := tot_range (zs.take 18) 0 (fun x hx => hr.2 x (List.mem_of_mem_take hx)) (by omega) (by omega)
  generalize zs.getD 0 0 = z0 at *
  generalize zs.getD 2 0 = z2 at *
  generalize zs.getD 3 0 = z3 at *
  generalize tot 0 (zs.take 18) = T at *
  have n2 : ¬ cap = 2 := by omega
  have hm' := hm
  unfold maxLen at hm'
  have HB : Hid _ := b1
  obtain ⟨n, hn⟩ : ∃ n, n = z2 * 256 + z3 := ⟨_, rfl⟩
  rw [← hn] at hM hget
  have hn0 : 0 ≤ n := by omega
  have hn1 : n ≤ 65535 := by omega
  clear hB e18 hr hr' hz b1 hn b2 b3
  by_cases h1 : z0 < 80
  · rw [hM, if_pos (.inl h1)]
    clear hM hno
    go_enter Tryd.func23, Tryd.ntmps23
    go_wp2
    exact bodyPost_ret (v := .tuple #[pkV zeroK (.slice none 0 0), .int .i64 0, .int .i64 2]) (by simp [results, Tryd.results23, go_sem, pkV, zeroK]) rfl ⟨rfl, HB.out⟩
  by_cases h2 : 95 < z0
  · rw [hM, if_pos (.inr h2)]
    clear hM hno
    go_enter Tryd.func23, Tryd.ntmps23
    go_wp2
    exact bodyPost_ret (v := .tuple #[pkV zeroK (.slice none 0 0), .int .i64 0, .int .i64 2]) (by simp [results, Tryd.results23, go_sem, pkV, zeroK]) rfl ⟨rfl, HB.out⟩
  rw [if_neg (by omega)] at hM
  by_cases h3 : T = 65535
  · rw [if_neg (by simp [h3])] at hM
    subst h3
    by_cases h4 : n < 18
    · rw [hM, if_pos h4]
      clear hM hno
      go_enter Tryd.func23, Tryd.ntmps23
      go_wp2_with (first | (go_at_call 39; refine htot.mono ?_; rintro e wa ⟨rfl, rfl⟩) | (go_at_call 26; refine hget.mono ?_; rintro e wa ⟨rfl, rfl⟩))
      exact bodyPost_ret (v := .tuple #[pkV zeroK (.slice none 0 0), .int .i64 0, .int .i64 3]) (by simp [results, Tryd.results23, go_sem, pkV, zeroK]) rfl ⟨rfl, HB.out⟩
    by_cases h5 : 4018 < n
    · rw [hM, if_neg h4, if_pos h5]
      clear hM hno
      go_enter Tryd.func23, Tryd.ntmps23
      go_wp2_with (first | (go_at_call 39; refine htot.mono ?_; rintro e wa ⟨rfl, rfl⟩) | (go_at_call 26; refine hget.mono ?_; rintro e wa ⟨rfl, rfl⟩))
      exact bodyPost_ret (v := .tuple #[pkV zeroK (.slice none 0 0), .int .i64 0, .int .i64 4]) (by simp [results, Tryd.results23, go_sem, pkV, zeroK]) rfl ⟨rfl, HB.out⟩
    by_cases h6 : (len : Int) < n
    · rw [hM, if_neg h4, if_neg h5, if_pos h6]
      clear hM hno
      go_enter Tryd.func23, Tryd.ntmps23
      go_wp2_with (first | (go_at_call 39; refine htot.mono ?_; rintro e wa ⟨rfl, rfl⟩) | (go_at_call 26; refine hget.mono ?_; rintro e wa ⟨rfl, rfl⟩))
      exact bodyPost_ret (v := .tuple #[pkV zeroK (.slice none 0 0), .int .i64 0, .int .i64 8]) (by simp [results, Tryd.results23, go_sem, pkV, zeroK]) rfl ⟨rfl, HB.out⟩
    · exfalso
      rw [hM, if_neg h4, if_neg h5, if_neg h6] at hno
      exact hno rfl
  · rw [if_pos h3] at hM
    have hT : (T != 65535) = true := by simpa using h3
    rw [hM]
    clear hM h3 hno
    go_enter Tryd.func23, Tryd.ntmps23
    go_wp2_with (go_at_call 39; refine htot.mono ?_; rintro e wa ⟨rfl, rfl⟩)
    exact bodyPost_ret (v := .tuple #[pkV zeroK (.slice none 0 0), .int .i64 0, .int .i64 9]) (by simp [results, Tryd.results23, go_sem, pkV, zeroK]) rfl ⟨rfl, HB.out⟩

theorem meas_inv {zs : List Int} {n : Nat} (h : meas zs = ((n : Int), 0)) : 18 ≤ zs.length ∧ 80 ≤ zs.getD 0 0 ∧ zs.getD 0 0 ≤ 95 ∧ tot 0 (zs.take 18) = 65535 ∧ zs.getD 2 0 * 256 + zs.getD 3 0 = (n : Int) := by
  unfold meas at h
  split at h
  · simp at h
  split at h
  · simp at h
  split at h
  · simp at h
  split at h
  · simp at h
  split at h
  · simp at h
  split at h
  · simp at h
  · simp only [Prod.mk.injEq, and_true] at h
    refine ⟨by omega, by omega, by omega, ?_, h⟩
    exact Decidable.not_not.1 (by assumption)
def RGets (b off : Nat) (zs : List Int) (s : Value) (x : Int) : Prop :=
  ∀ W : World, Row W b off zs → Calls Tryd.prog 26 #[s] W fun e w' => e = .returned (.int .i64 x) ∧ w' = W

set_option maxRecDepth 100000 in
set_option maxHeartbeats 8000000 in
theorem refRead_ok (b off len cap : Nat) (zs : List Int) (n : Nat) (w : World) (hl : len ≤ cap) (hm : cap ≤ maxLen) (h62 : len < 2 ^ 62) (hz : zs.length = len) (hr : Row w b off zs) (hme0 : meas zs = ((n : Int), 0)) (hn0 : 18 ≤ n) (hn1 : n ≤ 4018) (hn2 : n ≤ len) :
    Calls Tryd.prog 23 #[.slice (some ⟨b, off, none⟩) len cap] w fun e w' => ∃ bv, e = .returned (.tuple #[pkV (readK zs n) bv, .int .i64 (n : Int), .int .i64 0]) ∧ Bytes w' bv (readK zs n).body ∧ Below w.heap.size w w' := by
  obtain ⟨h18, hz0, hz0', htt, hnn⟩ := meas_inv hme0
  have hblk := hr.lt (by omega)
  have hz1 : 0 < zs.length := by omega
  have b0 := getD_byte (by omega : 0 < zs.length) hr.2
  have b1 := getD_byte (by omega : 1 < zs.length) hr.2
  have b6 := getD_byte (by omega : 6 < zs.length) hr.2
  have b7 := getD_byte (by omega : 7 < zs.length) hr.2
  have hr1 : ∀ o1, Row (w.alloc o1) b off zs := fun o1 => hr.alloc hz1 o1
  have hr2 : ∀ o1 o2, Row ((w.alloc o1).alloc o2) b off zs := fun o1 o2 => (hr.alloc hz1 o1).alloc hz1 o2
  have c0 : ∀ o1, (w.alloc o1).cell? ⟨b, off, none⟩ = some (.int .u8 (zs.getD 0 0)) := fun o1 => (hr1 o1).1 0 (by omega)
  have d0 : ∀ o1 o2, ((w.alloc o1).alloc o2).cell? ⟨b, off, none⟩ = some (.int .u8 (zs.getD 0 0)) := fun o1 o2 => (hr2 o1 o2).1 0 (by omega)
  have d1 : ∀ o1 o2, ((w.alloc o1).alloc o2).cell? ⟨b, off + 1, none⟩ = some (.int .u8 (zs.getD 1 0)) := fun o1 o2 => (hr2 o1 o2).1 1 (by omega)
  have e18 : (zs.drop 0).take 18 = zs.take 18 := by simp
  have htot : ∀ o1, Calls Tryd.prog 39 #[.slice (some ⟨b, off, none⟩) 18 cap] (w.alloc o1) fun e w' => e = .returned (.int .i64 65535) ∧ w' = w.alloc o1 := by
    intro o1
    have hB : Bytes (w.alloc o1) (.slice (some ⟨b, off, none⟩) 18 cap) (zs.take 18) :=
      .inr ⟨b, off, 18, cap, rfl, by omega, hm, by omega, by simp; omega, e18 ▸ (hr1 o1).part 0 18 (by omega)⟩
    have := refTotal_bytes hB
    rw [htt] at this; exact this
  have hm' := hm
  unfold maxLen at hm'
  obtain ⟨x2, H2, G2⟩ : ∃ x : Int, Hid (x = (n : Int)) ∧ RGets b off zs (.slice (some ⟨b, off + 2, none⟩) 2 (cap - 2)) x := ⟨_, rfl, fun W h => by
    have := refN2 h 2 (cap - 2) (by omega) (by omega) (by unfold maxLen; omega)
    simp only [Nat.reduceAdd, hnn] at this; exact this⟩
  obtain ⟨pl, H6, G6⟩ : ∃ x : Int, Hid (x = rdPlc zs) ∧ RGets b off zs (.slice (some ⟨b, off + 6, none⟩) 2 (cap - 6)) x := ⟨_, rfl, fun W h => refN2 h 6 (cap - 6) (by omega) (by omega) (by unfold maxLen; omega)⟩
  obtain ⟨x4, H4, G4⟩ : ∃ x : Int, Hid (x = zs.getD 4 0 * 256 + zs.getD 5 0) ∧ RGets b off zs (.slice (some ⟨b, off + 4, none⟩) 2 (cap - 4)) x := ⟨_, rfl, fun W h => refN2 h 4 (cap - 4) (by omega) (by omega) (by unfold maxLen; omega)⟩
  obtain ⟨xs, HS, GS⟩ : ∃ x : Int, Hid (x = ((zs.getD 10 0 * 256 + zs.getD 11 0) * 256 + zs.getD 12 0) * 256 + zs.getD 13 0) ∧ RGets b off zs (.slice (some ⟨b, off + 10, none⟩) 4 (cap - 10)) x := ⟨_, rfl, fun W h => refN4 h 10 (cap - 10) (by omega) (by omega) (by unfold maxLen; omega)⟩
  obtain ⟨xd, HD, GD⟩ : ∃ x : Int, Hid (x = ((zs.getD 14 0 * 256 + zs.getD 15 0) * 256 + zs.getD 16 0) * 256 + zs.getD 17 0) ∧ RGets b off zs (.slice (some ⟨b, off + 14, none⟩) 4 (cap - 14)) x := ⟨_, rfl, fun W h => refN4 h 14 (cap - 14) (by omega) (by omega) (by unfold maxLen; omega)⟩
  obtain rfl : x2 = (n : Int) := H2.out
  have hpl : 0 ≤ pl ∧ pl ≤ 65535 := by rw [H6.out]; unfold rdPlc; omega
  obtain ⟨z0, HZ0⟩ : ∃ z, Hid (z = zs.getD 0 0) := ⟨_, rfl⟩
  obtain ⟨z1, HZ1⟩ : ∃ z, Hid (z = zs.getD 1 0) := ⟨_, rfl⟩
  rw [← HZ0.out] at c0 d0 b0 hz0 hz0'
  rw [← HZ1.out] at d1 b1
  obtain ⟨ad, had⟩ : ∃ ad, (if cap = 18 then some (⟨b, off, none⟩ : Addr) else some ⟨b, off + 18, none⟩) = ad := ⟨_, rfl⟩
  have HR2 : Hid (∀ o1 o2, Row ((w.alloc o1).alloc o2) b off zs) := hr2
  have HR1 : Hid (∀ o1, Row (w.alloc o1) b off zs) := hr1
  have hb0 : Hid (Row w b off zs) := hr
  have n2 : ¬ cap = 2 := by omega
  have n4 : ¬ cap = 4 := by omega
  have n6 : ¬ cap = 6 := by omega
  have n10 : ¬ cap = 10 := by omega
  have n14 : ¬ cap = 14 := by omega
  have i1 : (18 : Int) ≤ (n : Int) := by omega
  have i2 : (n : Int) ≤ (len : Int) := by omega
  have i3 : (n : Int) ≤ (cap : Int) := by omega
  have i4 : (n : Int) ≤ 4018 := by omega
  clear hme0 htt hnn hr hr1 hr2 e18 b6 b7
  go_enter Tryd.func23, Tryd.ntmps23
  have m0 : True := trivial
  go_upto_region 15 with (first
    | (go_at_call 39; refine (htot _).mono ?_; rintro e wa ⟨rfl, rfl⟩)
    | (go_at_call 26; have m1 : True := m0; clear m0; refine (G2 _ (HR1.out _)).mono ?_; rintro e wa ⟨rfl, rfl⟩)
    | (go_at_call 26; have m2 : True := m1; clear m1; refine (G6 _ (HR1.out _)).mono ?_; rintro e wa ⟨rfl, rfl⟩))
  go_upto_region 24 with (first
    | (go_at_call 26; have m3 : True := m2; clear m2; refine (G4 _ (HR2.out _ _)).mono ?_; rintro e wa ⟨rfl, rfl⟩)
    | (go_at_call 26; have m4 : True := m3; clear m3; refine (GS _ (HR2.out _ _)).mono ?_; rintro e wa ⟨rfl, rfl⟩)
    | (go_at_call 26; have m5 : True := m4; clear m4; refine (GD _ (HR2.out _ _)).mono ?_; rintro e wa ⟨rfl, rfl⟩))
  have hpn := PkAt.new (w.alloc (.cells #[.int .i64 0, .int .i64 0, .int .i64 0, .int .i64 0, .int .i64 0, .int .i64 0, .bool false, .slice none 0 0] 47)) { kind := z0 - 80, ttl := z1, ident := x4, src := xs, dst := xd, pos := pl % 32768, more := decide (32767 < pl), body := [] } (.slice ad (n - 18) (cap - 18))
  have hpz := (PkAt.zero w).alloc (.cells #[.int .i64 (z0 - 80), .int .i64 z1, .int .i64 x4, .int .i64 xs, .int .i64 xd, .int .i64 (pl % 32768), .bool (decide (32767 < pl)), .slice ad (n - 18) (cap - 18)] 47)
  have bel : Below w.heap.size w ((w.alloc (.cells #[.int .i64 0, .int .i64 0, .int .i64 0, .int .i64 0, .int .i64 0, .int .i64 0, .bool false, .slice none 0 0] 47)).alloc (.cells #[.int .i64 (z0 - 80), .int .i64 z1, .int .i64 x4, .int .i64 xs, .int .i64 xd, .int .i64 (pl % 32768), .bool (decide (32767 < pl)), .slice ad (n - 18) (cap - 18)] 47)) := ((Below.refl _ _).alloc (Nat.le_refl _) _).alloc (by simp) _
  obtain ⟨W2, hW2⟩ : ∃ W2, (w.alloc (.cells #[.int .i64 0, .int .i64 0, .int .i64 0, .int .i64 0, .int .i64 0, .int .i64 0, .bool false, .slice none 0 0] 47)).alloc (.cells #[.int .i64 (z0 - 80), .int .i64 z1, .int .i64 x4, .int .i64 xs, .int .i64 xd, .int .i64 (pl % 32768), .bool (decide (32767 < pl)), .slice ad (n - 18) (cap - 18)] 47) = W2 := ⟨_, rfl⟩
  rw [show (w.alloc (.cells #[.int .i64 0, .int .i64 0, .int .i64 0, .int .i64 0, .int .i64 0, .int .i64 0, .bool false, .slice none 0 0] 47)).heap.size = w.heap.size + 1 by simp] at hpn
  simp only at hpn
  rw [hW2] at hpn hpz bel ⊢
  clear hW2 c0 d0 d1 htot
  obtain ⟨c0, c1, c2, c3, c4, c5, c6, c7⟩ := hpn.cells
  obtain ⟨q0, q1, q2, q3, q4, q5, q6, q7⟩ := hpz.cells
  have f0 := hpz.free 0
  have f1 := hpz.free 1
  have f2 := hpz.free 2
  have f3 := hpz.free 3
  have f4 := hpz.free 4
  have f5 := hpz.free 5
  have f6 := hpz.free 6
  have f7 := hpz.free 7
  go_wp2
  obtain ⟨w4, hw4, hp4, ho4⟩ := hpz.store (z0 - 80) z1 x4 xs xd (pl % 32768) (decide (32767 < pl)) (.slice ad (n - 18) (cap - 18))
  rw [hw4]
  have b4 : Below w.heap.size w w4 := ho4.below (Nat.le_refl _) bel
  have hrw := hb0.out.below hblk b4
  clear hw4 c0 c1 c2 c3 c4 c5 c6 c7 q0 q1 q2 q3 q4 q5 q6 q7 f0 f1 f2 f3 f4 f5 f6 f7 hpn hpz ho4 bel
  obtain ⟨c0, c1, c2, c3, c4, c5, c6, c7⟩ := hp4.cells
  refine bodyPost_ret (v := .tuple #[.agg #[.int .i64 (z0 - 80), .int .i64 z1, .int .i64 x4, .int .i64 xs, .int .i64 xd, .int .i64 (pl % 32768), .bool (decide (32767 < pl)), .slice ad (n - 18) (cap - 18)], .int .i64 (n : Int), .int .i64 0]) (by simp [results, Tryd.results23, go_sem, c0, c1, c2, c3, c4, c5, c6, c7]) rfl ⟨.slice ad (n - 18) (cap - 18), ?_, body_bytes n hrw hl hm hz hn0 hn1 hn2 had, b4⟩
  have em : decide (32767 < pl) = decide (32768 ≤ pl) := by rw [decide_eq_decide]; omega
  rw [em, HZ0.out, HZ1.out, H4.out, HS.out, HD.out, H6.out]
  rfl
theorem refRead_any (v : Value) (zs : List Int) (w : World) (h : Bytes w v zs) :
    Calls Tryd.prog 23 #[v] w fun e w' => ∃ bv, e = .returned (.tuple #[pkV (readF zs) bv, .int .i64 (meas zs).1, .int .i64 (meas zs).2]) ∧ Bytes w' bv (readF zs).body ∧ Below w.heap.size w w' := by
  rcases meas_cases zs h.byte with ⟨h1, h2⟩ | ⟨n, hn, h0, h1, h2⟩
  · have e1 : readF zs = zeroK := by unfold readF; rw [if_neg h1]
    rw [e1, h2]
    by_cases h18 : zs.length < 18
    · have hM : meas zs = (0, 8) := by unfold meas; rw [if_pos h18]
      obtain ⟨a, c, rfl⟩ := len_body h
      rw [hM]
      refine (refRead_short a _ c w h18).mono ?_
      rintro e w' ⟨rfl, hw⟩
      exact ⟨_, rfl, .inl ⟨rfl, _, _, rfl, fun _ => rfl⟩, hw⟩
    · rcases h with ⟨rfl, _⟩ | ⟨b, off, len, cap, rfl, h3, h4, h5, h6, h7⟩
      · simp at h18
      · refine (refRead_long b off len cap zs w h3 h4 h5 h6 h7 (by omega) h1).mono ?_
        rintro e w' ⟨rfl, hw⟩
        exact ⟨_, rfl, .inl ⟨rfl, _, _, rfl, fun _ => rfl⟩, hw⟩
  · have e1 : readF zs = readK zs n := by unfold readF; rw [hn, if_pos rfl, Int.toNat_natCast]
    rw [e1, hn]
    rcases h with ⟨rfl, _⟩ | ⟨b, off, len, cap, rfl, h3, h4, h5, h6, h7⟩
    · simp at h2; omega
    · exact refRead_ok b off len cap zs n w h3 h4 h5 h6 h7 hn h0 h1 (by omega)
end Go.Proofs.YtpenenaifajejabDoor
