/- What the reference's ReadSeg returns where kind, source or destination are none, or the bytes are too few or too many (package portref1). -/
import Derived.Test.YteijbohfakokfacDoorSegRead
import Derived.Test.YteijbohfakokfacDoorRefSum
import Derived.Test.YteijbohfakokfacDoorRefNo
import Derived.Test.YteijbohfakokfacDoorRefSeg
namespace Go.Proofs.YteijbohfakokfacDoor
open Go.RowKit
set_option linter.unusedVariables false

def RNums (b off : Nat) (zs : List Int) (s : Value) (x : Int) : Prop :=
  ∀ W : World, Row W b off zs → Calls Tryd.prog 22 #[s] W fun e w' => e = .returned (.int .i64 x) ∧ w' = W
def RSums (k src dst : Int) (b off : Nat) (zs : List Int) (v1 v2 : Value) (x : Int) : Prop :=
  ∀ W : World, Row W b off zs → Calls Tryd.prog 21 #[.int .i64 k, v1, v2, .int .i64 src, .int .i64 dst] W fun e w' => e = .returned (.int .i64 x) ∧ Below W.heap.size W w'
set_option maxHeartbeats 4000000 in
theorem refRead_range (k src dst : Int) (v : Value) (w : World) (h : (isK k && upB src 4294967295 && upB dst 4294967295) = false) :
    Calls Tryd.prog 6 #[.int .i64 k, v, .int .i64 src, .int .i64 dst] w fun e w' => e = .returned (.tuple #[segV zeroS (.slice none 0 0), .int .i64 1]) ∧ Below w.heap.size w w' := by
  have bw1 : Below w.heap.size w (w.alloc (.cells #[.int .i64 0, .int .i64 0, .int .i64 0, .int .i64 0, .int .i64 0, .int .i64 0, .slice none 0 0] 29)) := (Below.refl _ _).alloc (Nat.le_refl _) _
  have hcase : k < 1 ∨ (¬ k < 1 ∧ 3 < k) ∨ (¬ k < 1 ∧ ¬ 3 < k ∧ upB src 4294967295 = false) ∨ (¬ k < 1 ∧ ¬ 3 < k ∧ upB src 4294967295 = true ∧ upB dst 4294967295 = false) := by
    by_cases x0 : k < 1
    · exact .inl x0
    by_cases x1 : 3 < k
    · exact .inr (.inl ⟨x0, x1⟩)
    have hk : isK k = true := by simp [isK]; omega
    rw [hk] at h
    revert h
    cases upB src 4294967295 <;> cases upB dst 4294967295 <;> simp [x0, x1]
  clear h
  rcases hcase with h0 | ⟨h0, h1⟩ | ⟨h0, h1, h2⟩ | ⟨h0, h1, h2, h3⟩
  all_goals
    go_enter Tryd.func6, Tryd.ntmps6
    go_wp2_with (go_at_call 19; refine (refAddr_up _ _).mono ?_; rintro e w' ⟨rfl, rfl⟩)
    exact bodyPost_ret (v := .tuple #[segV zeroS (.slice none 0 0), .int .i64 1]) (by simp [results, Tryd.results6, go_sem, segV, zeroS]) rfl ⟨rfl, bw1⟩
theorem refSize_any (k : Int) (w : World) (hk : isK k = true) : Calls Tryd.prog 20 #[.int .i64 k] w fun e w' => e = .returned (.int .i64 (hdN k : Nat)) ∧ w' = w := by
  rcases isK_of hk with rfl | rfl | rfl
  · exact size1 w
  · exact size2 w
  · exact size3 w
set_option maxHeartbeats 4000000 in
theorem refRead_len (k src dst : Int) (a : Option Addr) (len cap : Nat) (w : World) (hk : isK k = true) (hs : upB src 4294967295 = true) (hd : upB dst 4294967295 = true) (hl : len ≤ 9223372036854775807) (h : len < hdN k ∨ (hdN k ≤ len ∧ 4000 < len)) :
    Calls Tryd.prog 6 #[.int .i64 k, .slice a len cap, .int .i64 src, .int .i64 dst] w fun e w' => e = .returned (.tuple #[segV zeroS (.slice none 0 0), .int .i64 (if len < hdN k then 8 else 4)]) ∧ Below w.heap.size w w' := by
  have bw1 : Below w.heap.size w (w.alloc (.cells #[.int .i64 0, .int .i64 0, .int .i64 0, .int .i64 0, .int .i64 0, .int .i64 0, .slice none 0 0] 29)) := (Below.refl _ _).alloc (Nat.le_refl _) _
  have hh := fun W => refSize_any k W hk
  have hHb := hdN_ge hk
  have hk' : 1 ≤ k ∧ k ≤ 3 := by simpa [isK] using hk
  clear hk
  generalize hdN k = H at hh h hHb ⊢
  rcases h with h | ⟨h, h'⟩
  · rw [if_pos h]
    go_enter Tryd.func6, Tryd.ntmps6
    go_wp2_with (first
      | (go_at_call 19; refine (refAddr_up _ _).mono ?_; rintro e w' ⟨rfl, rfl⟩)
      | (go_at_call 20; refine (hh _).mono ?_; rintro e w' ⟨rfl, rfl⟩))
    exact bodyPost_ret (v := .tuple #[segV zeroS (.slice none 0 0), .int .i64 8]) (by simp [results, Tryd.results6, go_sem, segV, zeroS]) rfl ⟨rfl, bw1⟩
  · rw [if_neg (by omega)]
    go_enter Tryd.func6, Tryd.ntmps6
    go_wp2_with (first
      | (go_at_call 19; refine (refAddr_up _ _).mono ?_; rintro e w' ⟨rfl, rfl⟩)
      | (go_at_call 20; refine (hh _).mono ?_; rintro e w' ⟨rfl, rfl⟩))
    exact bodyPost_ret (v := .tuple #[segV zeroS (.slice none 0 0), .int .i64 4]) (by simp [results, Tryd.results6, go_sem, segV, zeroS]) rfl ⟨rfl, bw1⟩
end Go.Proofs.YteijbohfakokfacDoor
