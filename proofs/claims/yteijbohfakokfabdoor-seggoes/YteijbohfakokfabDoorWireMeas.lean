/- What measure of package wire returns, for every bytes: how many bytes the packet has that they begin with, or why they begin with none. -/
import Derived.Test.YteijbohfakokfabDoorWireChk
namespace Go.Proofs.YteijbohfakokfabDoor
open Go.RowKit
set_option linter.unusedVariables false

theorem drop_cons (zs : List Int) (o : Nat) (h : o < zs.length) : zs.drop o = zs.getD o 0 :: zs.drop (o + 1) := by
  rw [List.drop_eq_getElem_cons h]; simp [List.getD, h]
theorem take1 (zs : List Int) (o : Nat) (h : o + 1 ≤ zs.length) : (zs.drop o).take 1 = [zs.getD o 0] := by
  rw [drop_cons zs o (by omega)]; rfl
theorem take2 (zs : List Int) (o : Nat) (h : o + 2 ≤ zs.length) : (zs.drop o).take 2 = [zs.getD o 0, zs.getD (o + 1) 0] := by
  rw [drop_cons zs o (by omega), drop_cons zs (o + 1) (by omega)]; rfl
theorem take4 (zs : List Int) (o : Nat) (h : o + 4 ≤ zs.length) : (zs.drop o).take 4 = [zs.getD o 0, zs.getD (o + 1) 0, zs.getD (o + 2) 0, zs.getD (o + 3) 0] := by
  rw [drop_cons zs o (by omega), drop_cons zs (o + 1) (by omega), drop_cons zs (o + 1 + 1) (by omega), drop_cons zs (o + 1 + 1 + 1) (by omega)]; rfl

theorem get1 {w : World} {b off : Nat} {zs : List Int} (h : Row w b off zs) (o cap : Nat) (ho : o + 1 ≤ zs.length) (hc : 1 ≤ cap) (hm : cap ≤ maxLen) :
    Calls Tryd.prog 52 #[.slice (some ⟨b, off + o, none⟩) 1 cap] w fun e w' => e = .returned (.int .i64 (zs.getD o 0)) ∧ w' = w := by
  refine (get_any b (off + o) 1 cap _ w hc hm (by simp; omega) (by omega) (h.part o 1 ho)).mono ?_
  rintro e w' ⟨rfl, rfl⟩
  rw [take1 zs o ho]
  exact ⟨ret_int (by simp only [numL]; omega), rfl⟩
theorem get2 {w : World} {b off : Nat} {zs : List Int} (h : Row w b off zs) (o cap : Nat) (ho : o + 2 ≤ zs.length) (hc : 2 ≤ cap) (hm : cap ≤ maxLen) :
    Calls Tryd.prog 52 #[.slice (some ⟨b, off + o, none⟩) 2 cap] w fun e w' => e = .returned (.int .i64 (zs.getD o 0 * 256 + zs.getD (o + 1) 0)) ∧ w' = w := by
  refine (get_any b (off + o) 2 cap _ w hc hm (by simp; omega) (by omega) (h.part o 2 ho)).mono ?_
  rintro e w' ⟨rfl, rfl⟩
  rw [take2 zs o ho]
  exact ⟨ret_int (by simp only [numL]; omega), rfl⟩
theorem get4 {w : World} {b off : Nat} {zs : List Int} (h : Row w b off zs) (o cap : Nat) (ho : o + 4 ≤ zs.length) (hc : 4 ≤ cap) (hm : cap ≤ maxLen) :
    Calls Tryd.prog 52 #[.slice (some ⟨b, off + o, none⟩) 4 cap] w fun e w' => e = .returned (.int .i64 (((zs.getD o 0 * 256 + zs.getD (o + 1) 0) * 256 + zs.getD (o + 2) 0) * 256 + zs.getD (o + 3) 0)) ∧ w' = w := by
  refine (get_any b (off + o) 4 cap _ w hc hm (by simp; omega) (by omega) (h.part o 4 ho)).mono ?_
  rintro e w' ⟨rfl, rfl⟩
  rw [take4 zs o ho]
  exact ⟨ret_int (by simp only [numL]; omega), rfl⟩

theorem same_refl (w : World) : Same w w := ⟨0, rfl⟩
theorem measure_short (a : Option Addr) (len cap : Nat) (w : World) (h : len < 18) :
    Calls Tryd.prog 51 #[.slice a len cap] w fun e w' => e = .returned (.tuple #[.int .i64 0, .iface 76 (.int .i64 8)]) ∧ Same w w' := by
  go_enter Tryd.func51, Tryd.ntmps51
  go_wp2
  go_ret2
  exact ⟨rfl, same_refl _⟩

set_option maxHeartbeats 4000000 in
theorem measure_long (b off len cap : Nat) (zs : List Int) (w : World) (hl : len ≤ cap) (hm : cap ≤ maxLen) (hz : zs.length = len) (hr : Row w b off zs) (h18 : 18 ≤ len) :
    Calls Tryd.prog 51 #[.slice (some ⟨b, off, none⟩) len cap] w fun e w' =>
      e = .returned (.tuple #[.int .i64 (meas zs).1, errV (meas zs).2]) ∧ Same w w' := by
  have c0 : w.cell? ⟨b, off, none⟩ = some (.int .u8 (zs.getD 0 0)) := hr.1 0 (by omega)
  have b0 := getD_byte (by omega : 0 < zs.length) hr.2
  have b2 := getD_byte (by omega : 2 < zs.length) hr.2
  have b3 := getD_byte (by omega : 3 < zs.length) hr.2
  have e18 : (zs.drop 0).take 18 = zs.take 18 := by simp
  have hB : Bytes w (.slice (some ⟨b, off, none⟩) 18 cap) (zs.take 18) :=
    .inr ⟨b, off, 18, cap, rfl, by omega, hm, by omega, by simp; omega, e18 ▸ hr.part 0 18 (by omega)⟩
  have hval := valid_same hB
  have hget := fun (wa : World) (hs : Same w wa) => get2 (hr.same hs) 2 (cap - 2) (by omega) (by omega) (by unfold maxLen at *; omega)
  simp only [Nat.reduceAdd] at hget
  have hM : meas zs = if zs.getD 0 0 < 80 ∨ 95 < zs.getD 0 0 then (0, 2) else if ¬ tot 0 (zs.take 18) = 65535 then (0, 9) else
      if zs.getD 2 0 * 256 + zs.getD 3 0 < 18 then (0, 3) else if 4018 < zs.getD 2 0 * 256 + zs.getD 3 0 then (0, 4) else if (len : Int) < zs.getD 2 0 * 256 + zs.getD 3 0 then (0, 8) else
      (zs.getD 2 0 * 256 + zs.getD 3 0, 0) := by
    unfold meas; rw [hz, if_neg (by omega)]
  generalize zs.getD 0 0 = z0 at *
  generalize zs.getD 2 0 = z2 at *
  generalize zs.getD 3 0 = z3 at *
  generalize tot 0 (zs.take 18) = T at *
  have n2 : ¬ cap = 2 := by omega
  have hm' := hm
  unfold maxLen at hm'
  clear hB e18 hr hz
  by_cases h1 : z0 < 80
  · rw [hM, if_pos (.inl h1)]
    clear hM
    go_enter Tryd.func51, Tryd.ntmps51
    go_wp2
    go_ret2
    exact ⟨rfl, same_refl _⟩
  by_cases h2 : 95 < z0
  · rw [hM, if_pos (.inr h2)]
    clear hM
    go_enter Tryd.func51, Tryd.ntmps51
    go_wp2
    go_ret2
    exact ⟨rfl, same_refl _⟩
  rw [if_neg (by omega)] at hM
  by_cases h3 : T = 65535
  · rw [if_neg (by simp [h3])] at hM
    subst h3
    rw [show (((65535 : Int) == 65535) = true) from rfl] at hval
    obtain ⟨n, hn⟩ : ∃ n, n = z2 * 256 + z3 := ⟨_, rfl⟩
    rw [← hn] at hM hget
    have hn0 : 0 ≤ n := by omega
    have hn1 : n ≤ 65535 := by omega
    clear hn b2 b3
    by_cases h4 : n < 18
    · rw [hM, if_pos h4]
      clear hM
      go_enter Tryd.func51, Tryd.ntmps51
      go_wp2_with (first | (go_at_call 80; refine hval.mono ?_; rintro e wa ⟨rfl, hwa⟩) | (go_at_call 52; refine (hget _ hwa).mono ?_; rintro e w' ⟨rfl, rfl⟩))
      go_ret2
      exact ⟨rfl, hwa⟩
    by_cases h5 : 4018 < n
    · rw [hM, if_neg h4, if_pos h5]
      clear hM
      go_enter Tryd.func51, Tryd.ntmps51
      go_wp2_with (first | (go_at_call 80; refine hval.mono ?_; rintro e wa ⟨rfl, hwa⟩) | (go_at_call 52; refine (hget _ hwa).mono ?_; rintro e w' ⟨rfl, rfl⟩))
      go_ret2
      exact ⟨rfl, hwa⟩
    by_cases h6 : (len : Int) < n
    · rw [hM, if_neg h4, if_neg h5, if_pos h6]
      clear hM
      go_enter Tryd.func51, Tryd.ntmps51
      go_wp2_with (first | (go_at_call 80; refine hval.mono ?_; rintro e wa ⟨rfl, hwa⟩) | (go_at_call 52; refine (hget _ hwa).mono ?_; rintro e w' ⟨rfl, rfl⟩))
      go_ret2
      exact ⟨rfl, hwa⟩
    · rw [hM, if_neg h4, if_neg h5, if_neg h6]
      clear hM
      go_enter Tryd.func51, Tryd.ntmps51
      go_wp2_with (first | (go_at_call 80; refine hval.mono ?_; rintro e wa ⟨rfl, hwa⟩) | (go_at_call 52; refine (hget _ hwa).mono ?_; rintro e w' ⟨rfl, rfl⟩))
      go_ret2
      exact ⟨rfl, hwa⟩
  · rw [if_pos h3] at hM
    have hT : (T == 65535) = false := by simpa using h3
    rw [hT] at hval
    rw [hM]
    clear hM hT h3
    go_enter Tryd.func51, Tryd.ntmps51
    go_wp2_with (go_at_call 80; refine hval.mono ?_; rintro e wa ⟨rfl, hwa⟩)
    go_ret2
    exact ⟨rfl, hwa⟩

theorem measure_any (v : Value) (zs : List Int) (w : World) (h : Bytes w v zs) :
    Calls Tryd.prog 51 #[v] w fun e w' => e = .returned (.tuple #[.int .i64 (meas zs).1, errV (meas zs).2]) ∧ Same w w' := by
  by_cases h18 : zs.length < 18
  · have hM : meas zs = (0, 8) := by unfold meas; rw [if_pos h18]
    obtain ⟨a, c, rfl⟩ := len_body h
    rw [hM]
    exact measure_short a _ c w h18
  · rcases h with ⟨rfl, _⟩ | ⟨b, off, len, cap, rfl, h1, h2, h3, h4, h5⟩
    · simp at h18
    · exact measure_long b off len cap zs w h1 h2 h4 h5 (by omega)
end Go.Proofs.YteijbohfakokfabDoor
