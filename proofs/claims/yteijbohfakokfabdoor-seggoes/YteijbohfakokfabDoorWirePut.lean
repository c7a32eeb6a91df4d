/- What upTo, get, put and fresh of package wire return, for the bytes that its callers hand them: a number read of bytes, and bytes filled with a number, the high one first. -/
import Derived.Test.YteijbohfakokfabDoorWireRow0
import Derived.Test.YteijbohfakokfabDoorWireMath
import Derived.Deep.DeepCutAuto
import Derived.Outline
namespace Go.Proofs.YteijbohfakokfabDoor
open Go.RowKit
set_option linter.unusedVariables false

theorem upTo_any (n most : Int) (w : World) :
    Calls Tryd.prog 48 #[.int .i64 n, .int .i64 most] w fun e w' => e = .returned (.bool (upB n most)) ∧ w' = w := by
  by_cases h0 : 0 ≤ n
  · by_cases h1 : n ≤ most
    · rw [upB_yes h0 h1]
      go_enter Tryd.func48, Tryd.ntmps48
      go_wp2
      go_ret
      exact ⟨rfl, rfl⟩
    · rw [show upB n most = false by simp [upB]; omega]
      go_enter Tryd.func48, Tryd.ntmps48
      go_wp2
      go_ret
      exact ⟨rfl, rfl⟩
  · rw [show upB n most = false by simp [upB]; omega]
    go_enter Tryd.func48, Tryd.ntmps48
    go_wp2
    go_ret
    exact ⟨rfl, rfl⟩

/-- The number that bytes are, the high one first. -/
def numL : Int → List Int → Int
  | n, [] => n
  | n, c :: r => numL (n * 256 + c) r
theorem numL_drop (l : List Int) (k : Nat) (n : Int) (h : k < l.length) : numL n (l.drop k) = numL (n * 256 + l.getD k 0) (l.drop (k + 1)) := by
  rw [List.drop_eq_getElem_cons h]
  simp [numL, List.getD, List.getElem?_eq_getElem h]
theorem numL_drop0 (l : List Int) (k : Nat) (n : Int) (h : l.length ≤ k) : numL n (l.drop k) = n := by
  rw [List.drop_eq_nil_of_le h, numL]
theorem wraps_i64' (n : Int) (h₀ : 0 ≤ n) (h₁ : n < 2 ^ 40) : IntKind.i64.wrap n = n := by rw [IntKind.wrap_i64]; omega
theorem or8' (x y : Int) (h0 : 0 ≤ x) (h1 : x ≤ 4294967295) (h2 : 0 ≤ y) (h3 : y ≤ 255) : bits .or .i64 (x * 256) y = x * 256 + y :=
  bits_join .i64 40 (by decide) wraps_i64' 8 _ _ (by omega) (by omega) (by omega) (by omega) (by omega) (by omega)

set_option maxHeartbeats 1000000 in
theorem get_any (b off len cap : Nat) (zs : List Int) (w : World) (hl : len ≤ cap) (hm : cap ≤ maxLen) (hz : zs.length = len) (h4 : len ≤ 4) (hr : Row w b off zs) :
    Calls Tryd.prog 52 #[.slice (some ⟨b, off, none⟩) len cap] w fun e w' => e = .returned (.int .i64 (numL 0 zs)) ∧ w' = w := by
  unfold maxLen at hm
  obtain ⟨hc, hb⟩ := hr
  go_enter Tryd.func52, Tryd.ntmps52
  go_wp2
  go_loop [3, 8] (fun v i => ∃ (k : Nat) (t : Int), k ≤ len ∧ i = .int .i64 ((k : Nat) : Int) ∧ v = .int .i64 t ∧ 0 ≤ t ∧ t ≤ 256 ^ k - 1 ∧ Hid (numL t (zs.drop k) = numL 0 zs)) (fun _ i => len - (intOf i).toNat)
  case atStart => exact ⟨0, 0, by omega, rfl, rfl, by omega, by omega, rfl⟩
  case round =>
    obtain ⟨k, t, hk, rfl, rfl, h0, h1, hT⟩ := hrel
    by_cases hlt : k < len
    · have c0 : w.cell? ⟨b, off + k, none⟩ = some (.int .u8 (zs.getD k 0)) := hc _ (by omega)
      have b0 := getD_byte (by omega : k < zs.length) hb
      have HT : Hid (numL (t * 256 + zs.getD k 0) (zs.drop (k + 1)) = numL 0 zs) := by
        rw [← numL_drop zs k t (by omega)]; exact hT.out
      generalize zs.getD k 0 = x0 at c0 b0 HT
      have ht : t ≤ 4294967295 := by
        have : k = 0 ∨ k = 1 ∨ k = 2 ∨ k = 3 := by omega
        rcases this with rfl | rfl | rfl | rfl <;> omega
      have h1' : t * 256 + x0 ≤ 256 ^ (k + 1) - 1 := by
        rw [Int.pow_succ]; omega
      have HO : Hid (bits .or .i64 (t * 256) x0 = t * 256 + x0) := or8' t x0 h0 ht b0.1 b0.2
      have HB : Hid (t * 256 + x0 ≤ 256 ^ (k + 1) - 1) := h1'
      clear hT hc hb h1 h1'
      go_wp2
      go_round
      case rel => exact ⟨k + 1, t * 256 + x0, by omega, by go_num, by rw [HO.out], by omega, HB.out, HT⟩
      case measure => simp [intOf]; omega
    · have HT : Hid (t = numL 0 zs) := by
        rw [← hT.out, numL_drop0 zs k t (by omega)]; exact rfl
      clear hT h1
      go_wp2
      go_ret
      exact ⟨ret_int HT.out, rfl⟩

/-- Bytes filled with a number, the high one first. -/
def putL : List Int → Nat → Nat → Int → List Int
  | zs, off, 0, n => zs
  | zs, off, m + 1, n => putL (zs.set (off + m) (n % 256)) off m (n / 256)
theorem putL_length : ∀ (m : Nat) (zs : List Int) (off : Nat) (n : Int), (putL zs off m n).length = zs.length
  | 0, zs, off, n => rfl
  | m + 1, zs, off, n => by rw [putL, putL_length m, List.length_set]

set_option maxHeartbeats 1000000 in
theorem put_any (g off len cap : Nat) (zs : List Int) (n : Int) (w : World) (hl : len ≤ cap) (h4 : len ≤ 4) (hz : off + len ≤ zs.length) (hr : RowB w g zs) :
    Calls Tryd.prog 49 #[.slice (some ⟨g, off, none⟩) len cap, .int .i64 n] w fun e w' => e = .returned (.tuple #[]) ∧ RowB w' g (putL zs off len n) ∧ Only g w w' := by
  go_enter Tryd.func49, Tryd.ntmps49
  go_wp2
  go_loopw [1, 4] (fun v i wr => ∃ (k : Nat) (t : Int) (cur : List Int), k ≤ len ∧ i = .int .i64 ((k : Int) - 1) ∧ v = .int .i64 t ∧ cur.length = zs.length ∧ RowB wr g cur ∧ Only g w wr ∧ Hid (putL cur off k t = putL zs off len n)) (fun _ i _ => (intOf i + 1).toNat)
  case atStart => exact ⟨len, n, zs, by omega, rfl, rfl, rfl, hr, Only.refl _ _, rfl⟩
  case round =>
    obtain ⟨k, t, cur, hk, rfl, rfl, hcl, hrow, honly, hT⟩ := hrel
    rcases k with _ | k
    · have HT : Hid (cur = putL zs off len n) := hT.out
      clear hT
      go_wp2
      go_end0
      exact ⟨rfl, HT.out ▸ hrow, honly⟩
    · have c0 := hrow.cell (off + k) (by omega)
      have f0 := hrow.free (off + k)
      have hrow2 := hrow.store (off + k) (t % 256) (by omega) (by omega)
      have honly2 := honly.setCell (off + k) (.int .u8 (t % 256))
      have HR : Hid (RowB (wr.setCell ⟨g, off + k, none⟩ (.int .u8 (t % 256))) g (cur.set (off + k) (t % 256))) := hrow2
      have HO : Hid (Only g w (wr.setCell ⟨g, off + k, none⟩ (.int .u8 (t % 256)))) := honly2
      have HL : Hid (cur.length = zs.length) := hcl
      have ek : ((k + 1 : Nat) : Int) - 1 = (k : Int) := by omega
      rw [ek]
      clear hrow hrow2 honly honly2 hcl hr ek
      go_wp2
      go_roundw
      case rel => exact ⟨k, t / 256, cur.set (off + k) (t % 256), by omega, by go_num, by go_num, by rw [List.length_set]; exact HL.out, HR.out, HO.out, hT⟩
      case measure => simp [intOf]
end Go.Proofs.YteijbohfakokfabDoor
