/- What the reference's Number returns (package portref1): the number that bytes are. -/
import Derived.Test.YtlfckmigbeanhacDoorRefNum
import Derived.Test.YtlfckmigbeanhacDoorWireMeas
namespace Go.Proofs.YtlfckmigbeanhacDoor
open Go.RowKit
set_option linter.unusedVariables false

set_option maxHeartbeats 1000000 in
theorem refNumber_any (b off len cap : Nat) (zs : List Int) (w : World) (hl : len ≤ cap) (hm : cap ≤ maxLen) (hz : zs.length = len) (h4 : len ≤ 4) (hr : Row w b off zs) :
    Calls Tryd.prog 34 #[.slice (some ⟨b, off, none⟩) len cap] w fun e w' => e = .returned (.int .i64 (numL 0 zs)) ∧ w' = w := by
  unfold maxLen at hm
  obtain ⟨hc, hb⟩ := hr
  go_enter Tryd.func34, Tryd.ntmps34
  go_wp2
  go_loop [3, 4] (fun v i => ∃ (k : Nat) (t : Int), k ≤ len ∧ i = .int .i64 ((k : Nat) : Int) ∧ v = .int .i64 t ∧ 0 ≤ t ∧ t ≤ 256 ^ k - 1 ∧ Hid (numL t (zs.drop k) = numL 0 zs)) (fun _ i => len - (intOf i).toNat)
  case atStart => exact ⟨0, 0, by omega, rfl, rfl, by omega, by omega, rfl⟩
  case round =>
    obtain ⟨k, t, hk, rfl, rfl, h0, h1, hT⟩ := hrel
    by_cases hlt : k < len
    · have c0 : w.cell? ⟨b, off + k, none⟩ = some (.int .u8 (zs.getD k 0)) := hc _ (by omega)
      have b0 := getD_byte (by omega : k < zs.length) hb
      have HT : Hid (numL (t * 256 + zs.getD k 0) (zs.drop (k + 1)) = numL 0 zs) := by
        rw [← numL_drop zs k t (by omega)]; exact hT.out
      generalize zs.getD k 0 = x0 at c0 b0 HT
      have ht : t ≤ 4294967295 := by
        have : k = 0 ∨ k = 1 ∨ k = 2 ∨ k = 3 := by omega
        rcases this with rfl | rfl | rfl | rfl <;> omega
      have h1' : t * 256 + x0 ≤ 256 ^ (k + 1) - 1 := by
        rw [Int.pow_succ]; omega
      have HB : Hid (t * 256 + x0 ≤ 256 ^ (k + 1) - 1) := h1'
      clear hT hc hb h1 h1'
      go_wp2
      go_round
      case rel => exact ⟨k + 1, t * 256 + x0, by omega, by go_num, by go_num, by omega, HB.out, HT⟩
      case measure => simp [intOf]; omega
    · have HT : Hid (t = numL 0 zs) := by
        rw [← hT.out, numL_drop0 zs k t (by omega)]; exact rfl
      clear hT h1
      go_wp2
      go_ret
      exact ⟨ret_int HT.out, rfl⟩
theorem refN2 {w : World} {b off : Nat} {zs : List Int} (h : Row w b off zs) (o cap : Nat) (ho : o + 2 ≤ zs.length) (hc : 2 ≤ cap) (hm : cap ≤ maxLen) :
    Calls Tryd.prog 34 #[.slice (some ⟨b, off + o, none⟩) 2 cap] w fun e w' => e = .returned (.int .i64 (zs.getD o 0 * 256 + zs.getD (o + 1) 0)) ∧ w' = w := by
  refine (refNumber_any b (off + o) 2 cap _ w hc hm (by simp; omega) (by omega) (h.part o 2 ho)).mono ?_
  rintro e w' ⟨rfl, rfl⟩
  rw [take2 zs o ho]
  exact ⟨ret_int (by simp only [numL]; omega), rfl⟩
theorem refN4 {w : World} {b off : Nat} {zs : List Int} (h : Row w b off zs) (o cap : Nat) (ho : o + 4 ≤ zs.length) (hc : 4 ≤ cap) (hm : cap ≤ maxLen) :
    Calls Tryd.prog 34 #[.slice (some ⟨b, off + o, none⟩) 4 cap] w fun e w' => e = .returned (.int .i64 (((zs.getD o 0 * 256 + zs.getD (o + 1) 0) * 256 + zs.getD (o + 2) 0) * 256 + zs.getD (o + 3) 0)) ∧ w' = w := by
  refine (refNumber_any b (off + o) 4 cap _ w hc hm (by simp; omega) (by omega) (h.part o 4 ho)).mono ?_
  rintro e w' ⟨rfl, rfl⟩
  rw [take4 zs o ho]
  exact ⟨ret_int (by simp only [numL]; omega), rfl⟩
theorem refN1 {w : World} {b off : Nat} {zs : List Int} (h : Row w b off zs) (o cap : Nat) (ho : o + 1 ≤ zs.length) (hc : 1 ≤ cap) (hm : cap ≤ maxLen) :
    Calls Tryd.prog 34 #[.slice (some ⟨b, off + o, none⟩) 1 cap] w fun e w' => e = .returned (.int .i64 (zs.getD o 0)) ∧ w' = w := by
  refine (refNumber_any b (off + o) 1 cap _ w hc hm (by simp; omega) (by omega) (h.part o 1 ho)).mono ?_
  rintro e w' ⟨rfl, rfl⟩
  rw [take1 zs o ho]
  exact ⟨ret_int (by simp only [numL]; omega), rfl⟩
end Go.Proofs.YtlfckmigbeanhacDoor
