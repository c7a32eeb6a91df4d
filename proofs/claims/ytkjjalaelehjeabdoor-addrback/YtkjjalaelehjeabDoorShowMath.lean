/- The text of an address is read as that address. -/
import Derived.Test.YtkjjalaelehjeabDoorAddrPP
namespace Go.Proofs.YtkjjalaelehjeabDoor
open Go.RowKit
set_option linter.unusedVariables false

theorem splitC_none {c : UInt8} : ∀ {p : List UInt8}, (∀ x ∈ p, x ≠ c) → splitC c p = (p, [], false)
  | [], _ => rfl
  | x :: r, h => by
      unfold splitC
      rw [if_neg (h x (by simp)), splitC_none (fun y hy => h y (by simp [hy]))]
theorem splitC_at {c : UInt8} {r : List UInt8} : ∀ {p : List UInt8}, (∀ x ∈ p, x ≠ c) → splitC c (p ++ c :: r) = (p, r, true)
  | [], _ => by simp [splitC]
  | x :: t, h => by
      rw [List.cons_append]
      unfold splitC
      rw [if_neg (h x (by simp)), splitC_at (fun y hy => h y (by simp [hy]))]
theorem dig_all : ∀ n : Fin 256, (wholeL (digL n.val) 3 = (n.val : Int) ∧ (digL n.val).all (fun c => 48 ≤ c && c ≤ 57) = true) := by decide +kernel
theorem dig_whole {n : Nat} (h : n ≤ 255) : wholeL (digL n) 3 = (n : Int) := (dig_all ⟨n, by omega⟩).1
theorem dig_ne {n : Nat} (h : n ≤ 255) {c : UInt8} (hc : c < 48) : ∀ x ∈ digL n, x ≠ c := by
  intro x hx e
  have := List.all_eq_true.1 (dig_all ⟨n, by omega⟩).2 x hx
  subst e
  simp at this
  exact absurd this.1 (UInt8.not_le.2 hc)
theorem dig_num {n : Nat} (h : n ≤ 255) : numOK (wholeL (digL n) 3) 255 = true := by
  rw [dig_whole h]; unfold numOK; simp; omega
theorem parse_show {a : Int} (h0 : 0 ≤ a) (h1 : a ≤ 4294967295) : parseL 4 0 (showL a) = a := by
  have e : showL a = digL (a / 16777216 % 256).toNat ++ 46 :: (digL (a / 65536 % 256).toNat ++ 46 :: (digL (a / 256 % 256).toNat ++ 46 :: digL (a % 256).toNat)) := by simp [showL]
  have r3 : (a / 16777216 % 256).toNat ≤ 255 := by omega
  have r2 : (a / 65536 % 256).toNat ≤ 255 := by omega
  have r1 : (a / 256 % 256).toNat ≤ 255 := by omega
  have r0 : (a % 256).toNat ≤ 255 := by omega
  rw [e, parseL, splitC_at (dig_ne r3 (by decide)), if_pos ⟨dig_num r3, rfl⟩]
  rw [parseL, splitC_at (dig_ne r2 (by decide)), if_pos ⟨dig_num r2, rfl⟩]
  rw [parseL, splitC_at (dig_ne r1 (by decide)), if_pos ⟨dig_num r1, rfl⟩]
  rw [parseL, splitC_none (dig_ne r0 (by decide)), if_pos ⟨dig_num r0, rfl⟩, parseL]
  rw [dig_whole r3, dig_whole r2, dig_whole r1, dig_whole r0]
  omega
theorem show_ne {a : Int} {c : UInt8} (hc : c < 48) (hd : c ≠ 46) : ∀ x ∈ showL a, x ≠ c := by
  intro x hx
  simp only [showL, List.mem_append, List.mem_singleton] at hx
  rcases hx with (((((h | h) | h) | h) | h) | h) | h
  · exact dig_ne (by omega) hc x h
  · rw [h]; exact fun e => hd e.symm
  · exact dig_ne (by omega) hc x h
  · rw [h]; exact fun e => hd e.symm
  · exact dig_ne (by omega) hc x h
  · rw [h]; exact fun e => hd e.symm
  · exact dig_ne (by omega) hc x h
theorem show_any_ne {a : Int} : ¬ showL a = [97, 110, 121] := by
  intro e
  have : (46 : UInt8) ∈ showL a := by simp [showL]
  rw [e] at this
  revert this; decide
theorem read_show {a : Int} (h0 : 0 ≤ a) (h1 : a ≤ 4294967295) : readP (showL a) = (a, 32, true) := by
  unfold readP
  rw [if_neg show_any_ne, splitC_none (show_ne (c := 47) (by decide) (by decide)), parse_show h0 h1, if_neg (by omega), if_pos rfl]
theorem showL_short (a : Int) : (showL a).length ≤ 2000 := by
  have h1 := digL_small (n := (a / 16777216 % 256).toNat) (by omega)
  have h2 := digL_small (n := (a / 65536 % 256).toNat) (by omega)
  have h3 := digL_small (n := (a / 256 % 256).toNat) (by omega)
  have h4 := digL_small (n := (a % 256).toNat) (by omega)
  simp [showL]; omega
end Go.Proofs.YtkjjalaelehjeabDoor
