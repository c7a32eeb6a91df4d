/- What the functions of package sum and of the reference that they are held against return, each for every input that the callers hand it; bytes lie in memory as the callers lay them. -/
import Derived.Test.YtiigoeecklelpaaDoorProg
import Derived.Test.YtiigoeecklelpaaDoorMath
import Derived.WalkKit
import Derived.Deep.QuietTactic
import Derived.BigQuiet
namespace Go.Proofs.YtiigoeecklelpaaDoor
open Go.RowKit
set_option linter.unusedVariables false

theorem add_any (a b : Int) (w : World) (ha : 0 ≤ a) (ha' : a ≤ 65535) (hb : 0 ≤ b) (hb' : b ≤ 65535) :
    Calls Tryd.prog 70 #[.int .i64 a, .int .i64 b] w fun e w' => e = .returned (.int .i64 (addS a b)) ∧ w' = w := by
  by_cases h : 65535 < a + b
  · have e : addS a b = a + b - 65535 := if_pos h
    rw [e]
    go_enter Tryd.func70, Tryd.ntmps70
    go_wp2
    go_ret
    exact ⟨rfl, rfl⟩
  · have e : addS a b = a + b := if_neg h
    rw [e]
    go_enter Tryd.func70, Tryd.ntmps70
    go_wp2
    go_ret
    exact ⟨rfl, rfl⟩

/-- A row of bytes in memory, written out. -/
def Row (w : World) (b off : Nat) (zs : List Int) : Prop :=
  (∀ i, i < zs.length → w.cell? ⟨b, off + i, none⟩ = some (.int .u8 (zs.getD i 0))) ∧ ∀ x ∈ zs, 0 ≤ x ∧ x ≤ 255

set_option maxHeartbeats 1000000 in
theorem total_any (b off len cap : Nat) (zs : List Int) (w : World) (hl : len ≤ cap) (hm : cap ≤ maxLen) (hz : zs.length = len) (hr : Row w b off zs) :
    Calls Tryd.prog 68 #[.slice (some ⟨b, off, none⟩) len cap] w fun e w' => e = .returned (.int .i64 (tot 0 zs)) ∧ ∃ n, w' = w.drewN n := by
  unfold maxLen at hm
  obtain ⟨hc, hb⟩ := hr
  go_enter Tryd.func68, Tryd.ntmps68
  go_wp2
  go_loopw [0, 3] (fun s v wr => ∃ (k n o : Nat) (t : Int), 2 * k ≤ len ∧ (o = off + 2 * k ∨ len = 2 * k) ∧ s = .slice (some ⟨b, o, none⟩) (len - 2 * k) (cap - 2 * k) ∧ v = .int .i64 t ∧ 0 ≤ t ∧ t ≤ 65535 ∧ Hid (tot t (zs.drop (2 * k)) = tot 0 zs) ∧ wr = w.drewN n) (fun s _ _ => match s with | .slice _ l _ => l | _ => 0)
  case atStart => exact ⟨0, 0, off, 0, by omega, .inl rfl, rfl, rfl, by omega, by omega, rfl, rfl⟩
  case round =>
    obtain ⟨k, n, o, t, hk, ho, rfl, rfl, h0, h1, hT, rfl⟩ := hrel
    by_cases hlt : 2 ≤ len - 2 * k
    · obtain rfl : o = off + 2 * k := by omega
      have c0 : w.cell? ⟨b, off + 2 * k, none⟩ = some (.int .u8 (zs.getD (2 * k) 0)) := hc _ (by omega)
      have c1 : w.cell? ⟨b, off + 2 * k + 1, none⟩ = some (.int .u8 (zs.getD (2 * k + 1) 0)) := hc (2 * k + 1) (by omega)
      have b0 := getD_byte (by omega : 2 * k < zs.length) hb
      have b1 := getD_byte (by omega : 2 * k + 1 < zs.length) hb
      have HT : Hid (tot (addS t (zs.getD (2 * k) 0 * 256 + zs.getD (2 * k + 1) 0)) (zs.drop (2 * k + 2)) = tot 0 zs) := by
        rw [← tot_drop2 zs (2 * k) t (by omega)]; exact hT.out
      generalize zs.getD (2 * k) 0 = x0 at c0 b0 HT
      generalize zs.getD (2 * k + 1) 0 = x1 at c1 b1 HT
      have i0 : (0 : Int) < ((len - 2 * k : Nat) : Int) := by omega
      have i1 : (1 : Int) < ((len - 2 * k : Nat) : Int) := by omega
      have HO : Hid (bits .or .i64 (x0 * 256) x1 = x0 * 256 + x1) := or8 x0 x1 b0.1 b0.2 b1.1 b1.2
      have hs : Hid (0 ≤ addS t (x0 * 256 + x1) ∧ addS t (x0 * 256 + x1) ≤ 65535) := addS_range (a := t) (b := x0 * 256 + x1) h0 h1 (by omega) (by omega)
      clear hT
      go_wp2
      go_quiet ((go_at_call 70; rw [HO.out]; refine (add_any _ _ _ (by omega) (by omega) (by omega) (by omega)).mono ?_; rintro e w' ⟨rfl, rfl⟩; exact ⟨rfl, _, rfl⟩))
      go_wp2
      go_roundw
      case rel => exact ⟨k + 1, _, if cap - 2 * k = 2 then off + 2 * k else off + 2 * k + 2, _, by omega, by split <;> omega, slice_if rfl (by omega) (by omega), rfl, hs.out.1, hs.out.2, HT, rfl⟩
      case measure => simp; omega
    · by_cases h1 : len - 2 * k = 1
      · obtain rfl : o = off + 2 * k := by omega
        have c0 : w.cell? ⟨b, off + 2 * k, none⟩ = some (.int .u8 (zs.getD (2 * k) 0)) := hc _ (by omega)
        have b0 := getD_byte (by omega : 2 * k < zs.length) hb
        have HT : Hid (addS t (zs.getD (2 * k) 0 * 256) = tot 0 zs) := by
          rw [← tot_drop1 zs (2 * k) t (by omega)]; exact hT.out
        generalize zs.getD (2 * k) 0 = x0 at c0 b0 HT
        have i0 : (0 : Int) < ((len - 2 * k : Nat) : Int) := by omega
        clear hT
        go_wp2_with (go_at_call 70; refine (add_any _ _ _ (by omega) (by omega) (by omega) (by omega)).mono ?_; rintro e w' ⟨rfl, rfl⟩)
        go_ret
        exact ⟨ret_int HT.out, _, rfl⟩
      · have HT : Hid (t = tot 0 zs) := by
          rw [← hT.out, tot_drop0 zs (2 * k) t (by omega)]; exact rfl
        clear hT
        go_wp2
        go_ret
        exact ⟨ret_int HT.out, _, rfl⟩

theorem total_none (a : Option Addr) (cap : Nat) (w : World) :
    Calls Tryd.prog 68 #[.slice a 0 cap] w fun e w' => e = .returned (.int .i64 0) ∧ ∃ n, w' = w.drewN n := by
  go_enter Tryd.func68, Tryd.ntmps68
  go_wp2
  refine wp_loop_rounds 1 ?_
  rw [rounds_succ]
  go_wp2
  go_ret
  exact ⟨rfl, 0, rfl⟩

/-- A value that is a slice of these bytes. -/
def Bytes (w : World) (v : Value) (zs : List Int) : Prop :=
  (zs = [] ∧ ∃ a cap, v = .slice a 0 cap ∧ (a = none → cap = 0)) ∨
  ∃ b off len cap, v = .slice (some ⟨b, off, none⟩) len cap ∧ len ≤ cap ∧ cap ≤ maxLen ∧ len < 2 ^ 62 ∧ zs.length = len ∧ Row w b off zs

theorem Row.drewN {w : World} {b off : Nat} {zs : List Int} (h : Row w b off zs) (n : Nat) : Row (w.drewN n) b off zs := by
  refine ⟨fun i hi => ?_, h.2⟩
  have := h.1 i hi
  simpa using this
theorem Bytes.drewN {w : World} {v : Value} {zs : List Int} (h : Bytes w v zs) (n : Nat) : Bytes (w.drewN n) v zs := by
  rcases h with h | ⟨b, off, len, cap, h1, h2, h3, h4, h5, h6⟩
  · exact .inl h
  · exact .inr ⟨b, off, len, cap, h1, h2, h3, h4, h5, h6.drewN n⟩
theorem Bytes.byte {w : World} {v : Value} {zs : List Int} (h : Bytes w v zs) : ∀ x ∈ zs, 0 ≤ x ∧ x ≤ 255 := by
  rcases h with ⟨rfl, _⟩ | ⟨_, _, _, _, _, _, _, _, _, h⟩
  · intro x hx; cases hx
  · exact h.2
theorem Bytes.tot {w : World} {v : Value} {zs : List Int} (h : Bytes w v zs) : 0 ≤ tot 0 zs ∧ Go.Proofs.YtiigoeecklelpaaDoor.tot 0 zs ≤ 65535 :=
  tot_range zs 0 h.byte (by omega) (by omega)

theorem total_bytes {w : World} {v : Value} {zs : List Int} (h : Bytes w v zs) :
    Calls Tryd.prog 68 #[v] w fun e w' => e = .returned (.int .i64 (tot 0 zs)) ∧ ∃ n, w' = w.drewN n := by
  rcases h with ⟨rfl, a, cap, rfl, _⟩ | ⟨b, off, len, cap, rfl, h2, h3, h4, h5, h6⟩
  · exact total_none a cap w
  · exact total_any b off len cap zs w h2 h3 h5 h6
theorem sum_bytes {w : World} {v : Value} {zs : List Int} (h : Bytes w v zs) :
    Calls Tryd.prog 60 #[v] w fun e w' => e = .returned (.int .i64 (65535 - tot 0 zs)) ∧ ∃ n, w' = w.drewN n := by
  have ht := h.tot
  go_enter Tryd.func60, Tryd.ntmps60
  go_wp2_with (go_at_call 68; refine (total_bytes h).mono ?_; rintro e w' ⟨rfl, n, rfl⟩)
  go_ret
  exact ⟨rfl, _, rfl⟩
end Go.Proofs.YtiigoeecklelpaaDoor
