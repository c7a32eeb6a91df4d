/- What Step of package wire returns, for every bytes: those of a packet with a Ttl of one less and its sum brought up to date, in a row of the call's own, or why not. -/
import Derived.Test.YtpenenaifajejabDoorWireRead
import Derived.Test.YtpenenaifajejabDoorUpd
namespace Go.Proofs.YtpenenaifajejabDoor
open Go.RowKit
set_option linter.unusedVariables false

theorem same_size {w w' : World} (h : Same w w') : w.heap.size ≤ w'.heap.size := by
  obtain ⟨n, rfl⟩ := h; exact Nat.le_refl _
theorem OwnB.base {w : World} {base base' : Nat} {v : Value} {zs : List Int} (h : OwnB w base v zs) (hb : base' ≤ base) : OwnB w base' v zs := by
  refine ⟨⟨h.1.1, ?_⟩, h.2⟩
  rcases h.1.2 with h2 | ⟨g, cap, cur, hv, hg, hr⟩
  · exact .inl h2
  · exact .inr ⟨g, cap, cur, hv, by omega, hr⟩
theorem stepE_meas {zs : List Int} (h : ¬ (meas zs).2 = 0) : stepE zs = (meas zs).2 := by unfold stepE; rw [if_pos h]
set_option maxHeartbeats 4000000 in
theorem step_no1 (v : Value) (zs : List Int) (w : World) (h : Bytes w v zs) (he : ¬ (meas zs).2 = 0) :
    Calls Tryd.prog 28 #[v] w fun e w' => e = .returned (.tuple #[.slice none 0 0, .iface 65 (.int .i64 (stepE zs))]) ∧ Below w.heap.size w w' := by
  rw [stepE_meas he]
  have hme := measure_any v zs w h
  rw [errV_no he] at hme
  generalize (meas zs).1 = m1 at *
  generalize (meas zs).2 = m2 at *
  clear he
  go_enter Tryd.func28, Tryd.ntmps28
  go_wp2_with (go_at_call 44; refine hme.mono ?_; rintro e wa ⟨rfl, hwa⟩)
  go_ret2
  exact ⟨rfl, below_same (Below.refl _ _) hwa⟩

set_option maxHeartbeats 1000000 in
theorem put_own (g off len cap : Nat) (zs : List Int) (n : Int) (base N C : Nat) (w : World) (hl : len ≤ cap) (h4 : len ≤ 4) (hz : off + len ≤ zs.length) (hN : N = zs.length) (hr : OwnB w base (.slice (some ⟨g, 0, none⟩) N C) zs) :
    Calls Tryd.prog 42 #[.slice (some ⟨g, off, none⟩) len cap, .int .i64 n] w fun e w' => e = .returned (.tuple #[]) ∧ OwnB w' base (.slice (some ⟨g, 0, none⟩) N C) (putL zs off len n) ∧ Only g w w' := by
  have HN : Hid (N = zs.length) := hN
  clear hN
  go_enter Tryd.func42, Tryd.ntmps42
  go_wp2
  go_loopw [1, 4] (fun v i wr => ∃ (k : Nat) (t : Int) (cur : List Int), k ≤ len ∧ i = .int .i64 ((k : Int) - 1) ∧ v = .int .i64 t ∧ Hid (cur.length = zs.length) ∧ OwnB wr base (.slice (some ⟨g, 0, none⟩) N C) cur ∧ Only g w wr ∧ Hid (putL cur off k t = putL zs off len n)) (fun _ i _ => (intOf i + 1).toNat)
  case atStart => exact ⟨len, n, zs, by omega, rfl, rfl, rfl, hr, Only.refl _ _, rfl⟩
  case round =>
    obtain ⟨k, t, cur, hk, rfl, rfl, HL, hrow, honly, hT⟩ := hrel
    rcases k with _ | k
    · have HT : Hid (cur = putL zs off len n) := hT.out
      clear hT
      go_wp2
      go_end0
      exact ⟨rfl, HT.out ▸ hrow, honly⟩
    · have hlc := HL.out
      have hNc : N = cur.length := by rw [HL.out]; exact HN.out
      have c0 := hrow.cell hNc (off + k) (by omega)
      have f0 := hrow.free hNc (off + k)
      have HR : Hid (OwnB (wr.setCell ⟨g, off + k, none⟩ (.int .u8 (t % 256))) base (.slice (some ⟨g, 0, none⟩) N C) (cur.set (off + k) (t % 256))) := hrow.store hNc (off + k) (t % 256) (by omega) (by omega)
      have HO : Hid (Only g w (wr.setCell ⟨g, off + k, none⟩ (.int .u8 (t % 256)))) := honly.setCell (off + k) (.int .u8 (t % 256))
      have ek : ((k + 1 : Nat) : Int) - 1 = (k : Int) := by omega
      rw [ek]
      clear hrow honly hlc hr ek hNc
      go_wp2
      go_roundw
      case rel => exact ⟨k, t / 256, cur.set (off + k) (t % 256), by omega, by go_num, by go_num, by rw [List.length_set]; exact HL.out, HR.out, HO.out, hT⟩
      case measure => simp [intOf]
theorem step_rows (zs : List Int) (z1 S : Int) (h1 : z1 = zs.getD 1 0) (hS : S = stepS zs) : putL (zs.set 1 (z1 - 1)) 8 2 S = stepL zs := by
  unfold stepL
  rw [← h1, ← hS]
  show ((zs.set 1 (z1 - 1)).set 9 (S % 256)).set 8 (S / 256 % 256) = _
  rw [List.set_comm _ _ (by decide)]
theorem ret_v (v v' : Value) (h : v = v') : Ending.returned (.tuple #[v, .nilIface]) = .returned (.tuple #[v', .nilIface]) := by rw [h]

set_option maxRecDepth 100000 in
set_option maxHeartbeats 8000000 in
theorem step_long (b off len cap : Nat) (zs : List Int) (n : Nat) (w : World) (hl : len ≤ cap) (hm : cap ≤ maxLen) (h62 : len < 2 ^ 62) (hz : zs.length = len) (hr : Row w b off zs) (hme0 : meas zs = ((n : Int), 0)) (hn0 : 18 ≤ n) (hn1 : n ≤ 4018) (hn2 : n ≤ len) :
    Calls Tryd.prog 28 #[.slice (some ⟨b, off, none⟩) len cap] w fun e w' =>
      (stepE zs = 0 → ∃ v, e = .returned (.tuple #[v, .nilIface]) ∧ OwnB w' w.heap.size v (stepL zs)) ∧ (¬ stepE zs = 0 → e = .returned (.tuple #[.slice none 0 0, .iface 65 (.int .i64 (stepE zs))])) ∧ Below w.heap.size w w' := by
  have hb : Bytes w (.slice (some ⟨b, off, none⟩) len cap) zs := .inr ⟨b, off, len, cap, rfl, hl, hm, h62, hz, hr⟩
  have hme := measure_any _ zs _ hb
  rw [hme0, errV_ok] at hme
  have hE : stepE zs = if (n : Int) < (len : Int) then 3 else if zs.getD 1 0 = 0 then 6 else 0 := by
    unfold stepE; rw [hme0, if_neg (by simp), hz]
  have hm' := hm
  unfold maxLen at hm'
  have c1 : w.cell? ⟨b, off + 1, none⟩ = some (.int .u8 (zs.getD 1 0)) := hr.1 1 (by omega)
  have b0 := getD_byte (by omega : 0 < zs.length) hr.2
  have b1 := getD_byte (by omega : 1 < zs.length) hr.2
  have b8 := getD_byte (by omega : 8 < zs.length) hr.2
  have b9 := getD_byte (by omega : 9 < zs.length) hr.2
  have C1 : ∀ wa, Same w wa → wa.cell? ⟨b, off + 1, none⟩ = some (.int .u8 (zs.getD 1 0)) := fun wa hs => (hr.same hs).1 1 (by omega)
  obtain ⟨z1, hz1⟩ : ∃ z1, z1 = zs.getD 1 0 := ⟨_, rfl⟩
  rw [← hz1] at c1 b1 C1 hE
  have HZ1 : Hid (z1 = zs.getD 1 0) := hz1
  have HC1 : Hid (∀ wa, Same w wa → wa.cell? ⟨b, off + 1, none⟩ = some (.int .u8 z1)) := C1
  have HZ : Hid (zs.length = len) := hz
  clear hme0 hz1 C1
  have i1 : (1 : Int) < (len : Int) := by omega
  by_cases h3 : (n : Int) < (len : Int)
  · rw [hE, if_pos h3]
    clear hE c1 b0 b8 b9
    go_enter Tryd.func28, Tryd.ntmps28
    go_wp2_with (go_at_call 44; refine hme.mono ?_; rintro e wa ⟨rfl, hwa⟩)
    go_ret2
    exact ⟨fun h => absurd h (by decide), fun _ => rfl, below_same (Below.refl _ _) hwa⟩
  rw [if_neg h3] at hE
  by_cases h6 : z1 = 0
  · rw [hE, if_pos h6]
    subst h6
    clear hE b0 b8 b9 c1
    go_enter Tryd.func28, Tryd.ntmps28
    go_wp2_with (go_at_call 44; refine hme.mono ?_; rintro e wa ⟨rfl, hwa⟩; have c1 := HC1.out _ hwa)
    go_ret2
    exact ⟨fun h => absurd h (by decide), fun _ => rfl, below_same (Below.refl _ _) hwa⟩
  rw [if_neg h6] at hE
  have h6b : (z1 == 0) = false := by simpa using h6
  have hz1 : 0 < z1 := by omega
  have hS := stepS_range zs hr.2 (by omega) (by rw [← HZ1.out]; exact hz1)
  have g0 := fun (wa : World) (hs : Same w wa) => get2 (hr.same hs) 0 cap (by omega) (by omega) hm
  have g8 := fun (wa : World) (hs : Same w wa) => get2 (hr.same hs) 8 (cap - 8) (by omega) (by omega) (by unfold maxLen; omega)
  simp only [Nat.reduceAdd, Nat.add_zero] at g0 g8
  rw [← HZ1.out] at g0
  obtain ⟨old, hold⟩ : ∃ x, x = zs.getD 0 0 * 256 + z1 := ⟨_, rfl⟩
  obtain ⟨sm, hsm⟩ : ∃ x, x = zs.getD 8 0 * 256 + zs.getD 9 0 := ⟨_, rfl⟩
  rw [← hold] at g0
  rw [← hsm] at g8
  have hup := update_yes sm old (old - 1) w (word_yes (by omega) (by omega)) (word_yes (by omega) (by omega)) (word_yes (by omega) (by omega))
  have hup := fun (wa : World) => update_yes sm old (old - 1) wa (word_yes (by omega) (by omega)) (word_yes (by omega) (by omega)) (word_yes (by omega) (by omega))
  have eS : 65535 - addS (addS (65535 - sm) (65535 - old)) (old - 1) = stepS zs := by
    unfold stepS; rw [hold, hsm, HZ1.out]
  simp only [eS] at hup
  obtain ⟨S, HS⟩ : ∃ S, Hid (S = stepS zs) := ⟨_, rfl⟩
  rw [← HS.out] at hup hS
  have hold0 : 1 ≤ old ∧ old ≤ 65535 := by omega
  clear hold hsm eS b0 b8 b9
  have hfr := fun (wa : World) (hs : Same w wa) => fresh_any _ zs wa (hb.same hs) (by have := HZ.out; omega)
  have n8 : ¬ cap = 8 := by omega
  have q1 : (2 : Int) ≤ (cap : Int) := by omega
  have q2 : (10 : Int) ≤ (cap : Int) := by omega
  clear c1
  go_enter Tryd.func28, Tryd.ntmps28
  go_upto_region 12 with (first
    | (go_at_call 44; refine hme.mono ?_; rintro e wa ⟨rfl, hwa⟩; have c1 := HC1.out _ hwa; have m0 : True := trivial)
    | (go_at_call 45; have m1 : True := m0; clear m0; refine (g0 _ hwa).mono ?_; rintro e w' ⟨rfl, rfl⟩)
    | (go_at_call 45; have m2 : True := m1; clear m1; refine (g8 _ hwa).mono ?_; rintro e w' ⟨rfl, rfl⟩)
    | (go_at_call 47; refine (hup _).mono ?_; rintro e w' ⟨rfl, rfl⟩))
  rename_i ww
  go_upto_region 13 with (go_at_call 46; refine (hfr _ hwa).mono ?_; rintro e w2 ⟨v2, rfl, own2, bel2⟩)
  have bel3 : Below w.heap.size w w2 := (below_same (Below.refl _ _) hwa).trans (bel2.mono (same_size hwa))
  have own3 := own2.base (same_size hwa)
  obtain ⟨g, cap2, hv2, hg0, hg1, hlc2, hcm2⟩ := own3.shape (by omega)
  subst hv2
  rw [HZ.out] at own3 hlc2 ⊢
  have hzl := HZ.out
  have c13 := own3.cell hzl.symm 1 (by omega)
  have f13 := own3.free hzl.symm 1
  rw [← HZ1.out] at c13
  clear own2 bel2 hfr hup g0 g8 hme c1
  have u1 : IntKind.u8.wrap (z1 - 1) = z1 - 1 := by rw [IntKind.wrap_u8]; omega
  go_upto_region 14 with fail
  have own4 := own3.store hzl.symm 1 (z1 - 1) (by omega) (by omega)
  have bel4 := bel3.setCell (p := ⟨g, 1, none⟩) hg0 (.int .u8 (z1 - 1))
  obtain ⟨w4, hw4⟩ : ∃ w4, w2.setCell ⟨g, 1, none⟩ (.int .u8 (z1 - 1)) = w4 := ⟨_, rfl⟩
  rw [hw4] at own4 bel4 ⊢
  have q8 : ¬ cap2 = 8 := by omega
  have q10 : (10 : Int) ≤ (cap2 : Int) := by omega
  have hpt := put_own g 8 2 (cap2 - 8) (zs.set 1 (z1 - 1)) S w.heap.size len cap2 w4 (by omega) (by omega) (by rw [List.length_set]; omega) (by rw [List.length_set]; exact hzl.symm) own4
  rw [step_rows zs z1 S HZ1.out HS.out] at hpt
  clear hw4 own3 own4 bel3 c13 f13 hzl
  go_wp2_with (go_at_call 42; refine hpt.mono ?_; rintro e w5 ⟨rfl, own5, ho5⟩)
  go_ret2
  exact ⟨fun _ => ⟨_, rfl, own5⟩, fun h => absurd hE h, ho5.below hg0 bel4⟩
theorem step_any (v : Value) (zs : List Int) (w : World) (h : Bytes w v zs) :
    Calls Tryd.prog 28 #[v] w fun e w' =>
      (stepE zs = 0 → ∃ v, e = .returned (.tuple #[v, .nilIface]) ∧ OwnB w' w.heap.size v (stepL zs)) ∧ (¬ stepE zs = 0 → e = .returned (.tuple #[.slice none 0 0, .iface 65 (.int .i64 (stepE zs))])) ∧ Below w.heap.size w w' := by
  rcases meas_cases zs h.byte with ⟨h1, h2⟩ | ⟨n, hn, h0, h1, h2⟩
  · refine (step_no1 v zs w h h1).mono ?_
    rintro e w' ⟨rfl, hw⟩
    exact ⟨fun hh => absurd (stepE_meas h1 ▸ hh) h1, fun _ => rfl, hw⟩
  · rcases h with ⟨rfl, _⟩ | ⟨b, off, len, cap, rfl, h3, h4, h5, h6, h7⟩
    · simp at h2; omega
    · exact step_long b off len cap zs n w h3 h4 h5 h6 h7 hn h0 h1 (by omega)
end Go.Proofs.YtpenenaifajejabDoor
