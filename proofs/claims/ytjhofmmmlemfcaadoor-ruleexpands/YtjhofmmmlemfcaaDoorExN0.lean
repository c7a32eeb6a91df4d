/- What isName returns (package rule): 'nameT'. -/
import Derived.Test.YtjhofmmmlemfcaaDoorExM
import Derived.Test.YtjhofmmmlemfcaaDoorShelfE
import Derived.Laws.RangeAny
import Derived.Laws.RangeString
namespace Go.Proofs.YtjhofmmmlemfcaaDoor
open Go.RowKit
set_option linter.unusedVariables false
set_option maxRecDepth 10000

theorem sizeM (l : List UInt8) : ((mkB l).size : Int) = (l.length : Int) := by rw [mkB_size]
def nameT (a : List UInt8) : Bool := decide (a ≠ []) && (decide (a.length ≤ 8) && a.all isLet)
theorem nameT_iff (a : List UInt8) : nameT a = true ↔ nameB a := by
  unfold nameT nameB
  simp
def othB (x : Nat) : Bool := decide (x < 97) || decide (122 < x)
theorem oth_let (c : UInt8) : othB c.toNat = !isLet c := by
  unfold othB isLet
  by_cases h1 : 97 ≤ c.toNat
  · by_cases h2 : c.toNat ≤ 122
    · simp [h1, h2]
    · simp [h1, h2]; omega
  · simp [h1]; omega
theorem oth_at (s : ByteArray) (pos : Nat) (h : pos < s.size) : (othB (Utf8.decode s pos).1 = true ∧ isLet s[pos] = false) ∨ (othB (Utf8.decode s pos).1 = false ∧ (Utf8.decode s pos).2 = 1 ∧ isLet s[pos] = true) := by
  by_cases ha : s[pos].toNat < 128
  · rw [decode_ascii s pos h ha, oth_let]
    rcases isLet s[pos] with _ | _ <;> simp
  · obtain ⟨h1, h2⟩ := decode_high s pos h (by omega)
    refine .inl ⟨?_, ?_⟩
    · unfold othB; simp; omega
    · unfold isLet; simp; omega
theorem idx_let (s : ByteArray) : ∀ (f pos : Nat), s.size ≤ pos + f → (decide (0 ≤ Lib.idxFuncFrom othB true s f pos)) = !((s.data.toList.drop pos).all isLet)
  | 0, pos, h => by
      rw [List.drop_of_length_le (by simpa using h)]; rfl
  | f + 1, pos, h => by
      unfold Lib.idxFuncFrom
      by_cases hp : pos < s.size
      · rw [if_pos hp, List.drop_eq_getElem_cons (by simpa using hp), List.all_cons]
        have e : s.data.toList[pos]'(by simpa using hp) = s[pos] := rfl
        rw [e]
        rcases oth_at s pos hp with ⟨h1, h2⟩ | ⟨h1, h2, h3⟩
        · rw [if_pos h1, h2]; simp
        · rw [if_neg (by rw [h1]; simp), h2, h3, idx_let s f (pos + 1) (by omega)]; simp
      · rw [if_neg hp, List.drop_of_length_le (by simpa using hp)]; rfl
theorem isOth_any (x : Nat) (w : World) : Calls Tryd.prog 26 #[.int .i32 (x : Int)] w fun e w' => e = .returned (.bool (othB x)) ∧ w' = w := by
  have HB : Hid (othB x = (decide ((x : Int) < 97) || decide ((x : Int) > 122))) := by
    unfold othB
    show _ = _
    congr 1
    · rw [decide_eq_decide]; omega
    · rw [decide_eq_decide]; omega
  rw [HB.out]
  by_cases h1 : (x : Int) < 97
  · have e : (decide ((x : Int) < 97) || decide ((x : Int) > 122)) = true := by rw [decide_eq_true h1]; rfl
    rw [e]
    clear e HB
    go_enter Tryd.func26, Tryd.ntmps26
    go_wp2
    go_ret
    exact ⟨rfl, rfl⟩
  · by_cases h2 : (x : Int) > 122
    · have e : (decide ((x : Int) < 97) || decide ((x : Int) > 122)) = true := by rw [decide_eq_true h2]; simp
      rw [e]
      clear e HB
      go_enter Tryd.func26, Tryd.ntmps26
      go_wp2
      go_ret
      exact ⟨rfl, rfl⟩
    · have e : (decide ((x : Int) < 97) || decide ((x : Int) > 122)) = false := by rw [decide_eq_false h1, decide_eq_false h2]; rfl
      rw [e]
      clear e HB
      go_enter Tryd.func26, Tryd.ntmps26
      go_wp2
      go_ret
      exact ⟨rfl, rfl⟩
theorem isName_any (a : List UInt8) (w : World) : Calls Tryd.prog 15 #[.string (mkB a)] w fun e w' => e = .returned (.bool (nameT a)) ∧ Below w.heap.size w w' := by
  have hcf := Tryd.strings_ContainsFunc 26 #[] (enters_of Tryd.func26 (by kernel_rfl) rfl) othB (mkB a) w (fun W x _ => (isOth_any x W).mono (by rintro e w' ⟨rfl, rfl⟩; exact ⟨rfl, 0, rfl⟩))
  have hid := idx_let (mkB a) (mkB a).size 0 (by omega)
  rw [mkB_toList, List.drop_zero] at hid
  rw [show Lib.idxFunc othB true (mkB a) = Lib.idxFuncFrom othB true (mkB a) (mkB a).size 0 from rfl, hid] at hcf
  obtain ⟨Q, hQ⟩ : ∃ Q : Ending → World → Prop, Q = fun e w' => e = .returned (.bool (nameT a)) ∧ Below w.heap.size w w' := ⟨_, rfl⟩
  have HQ : Hid (∀ b w', b = nameT a → Below w.heap.size w w' → Q (.returned (.bool b)) w') := by rw [hQ]; exact fun b w' h1 h2 => ⟨by rw [h1], h2⟩
  rw [← hQ]
  clear hQ hid
  have hsz := sizeM a
  by_cases h0 : a = []
  · have hf : Hid (false = nameT a) := by rw [h0]; rfl
    have hq : (mkB a).toList = ([] : List UInt8) := by rw [ByteArray.toList_eq, mkB_toList]; exact h0
    clear h0 hsz hcf
    go_enter Tryd.func15, Tryd.ntmps15
    go_wp2
    exact HQ.out _ _ hf.out (Below.refl _ _)
  have hq : ¬ (mkB a).toList = ([] : List UInt8) := by
    rw [ByteArray.toList_eq, mkB_toList]; exact h0
  by_cases h8 : a.length ≤ 8
  · have h8' : ((mkB a).size : Int) ≤ 8 := by rw [hsz]; omega
    have hf : Hid ((!(!a.all isLet)) = nameT a) := by unfold nameT; rw [decide_eq_true h0, decide_eq_true h8]; simp [Hid]
    generalize (!a.all isLet) = b at hcf hf
    clear h0 h8 hsz
    go_enter Tryd.func15, Tryd.ntmps15
    go_wp2_with (go_at_call 27; go_must (refine hcf.mono ?_; rintro e w1 ⟨rfl, b1⟩))
    exact HQ.out _ _ (by rw [show (mkB a).toList.isEmpty = false by rw [← Bool.not_eq_true, List.isEmpty_iff]; exact hq]; exact hf.out) b1
  · have h8' : ¬ ((mkB a).size : Int) ≤ 8 := by rw [hsz]; omega
    have hf : Hid (false = nameT a) := by unfold nameT; rw [decide_eq_false h8]; simp [Hid]
    clear h0 h8 hsz hcf
    go_enter Tryd.func15, Tryd.ntmps15
    go_wp2
    exact HQ.out _ _ hf.out (Below.refl _ _)
end Go.Proofs.YtjhofmmmlemfcaaDoor
