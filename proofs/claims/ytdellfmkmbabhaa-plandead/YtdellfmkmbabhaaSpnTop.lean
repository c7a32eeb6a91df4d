/- What the program's Norm, Join, Meet, Less, Not, Has and Many return (package span). -/
import Derived.Test.YtdellfmkmbabhaaSpnCho
namespace Go.Proofs.Ytdellfmkmbabhaa
open Go.RowKit
set_option linter.unusedVariables false

theorem spE_nil : spE [] = 0 := rfl
theorem chE_nil (l : List Sp) : chE l [] = spE l := by
  unfold chE; split
  · rename_i h; rw [h, spE_nil]
  · rfl
theorem norm1_any (x y : Bool) (W : World) : Calls Try.prog 67 #[.bool x, .bool y] W fun e w' => e = .returned (.bool x) ∧ w' = W := by
  go_enter Try.func67, Try.ntmps67
  go_wp2
  go_ret
  exact ⟨rfl, rfl⟩
theorem norm_any (v : Value) (l : List Sp) (w : World) (hv : Spns w v l) (hn : l.length ≤ 140737488355328) :
    Calls Try.prog 55 #[v] w fun e w' => ∃ v', e = .returned (.tuple #[v', erV (spE l)]) ∧ OwnSp w' w.heap.size v' (resL (spE l) (inB l)) ∧ Below w.heap.size w w' := by
  have eg : ∀ args w, (callFunc 67 args).run Try.prog w = .ok (.enter 67 args) w := enters_of Try.func67 (by kernel_rfl) rfl
  have hc := choose_any 67 (fun x _ => x) eg norm1_any v (.slice none 0 0) l [] w hv (Spns.nil _ _ _) hn (by simp)
  rw [chE_nil] at hc
  have e : (fun n => (fun (x _ : Bool) => x) (inB l n) (inB [] n)) = inB l := rfl
  rw [e] at hc
  generalize resL (spE l) (inB l) = R at hc ⊢
  generalize erV (spE l) = er at hc ⊢
  clear hv e
  go_enter Try.func55, Try.ntmps55
  go_wp2_with (go_at_call 66; refine hc.mono ?_; rintro e w1 ⟨v1, rfl, own1, b1⟩)
  go_ret2
  exact ⟨v1, rfl, own1, b1⟩
def manyE (l : List Sp) : Int := if spE l = 0 then cnt (inB l) else 0
theorem manyL_take {R : List Sp} {k : Nat} (hk : k < R.length) : manyL (R.take (k + 1)) = manyL (R.take k) + (R[k].2 - R[k].1 + 1) := by
  rw [List.take_succ_eq_append_getElem hk, manyL_snoc]
theorem manyL_bd {R : List Sp} (h : Nrm R) (k : Nat) : 0 ≤ manyL (R.take k) ∧ manyL (R.take k) ≤ 65536 := by
  have e := List.take_append_drop k R
  have h1 := manyL_pre (a := R.take k) (b := R.drop k) (by rw [e]; exact h.1)
  rw [e] at h1
  have := manyL_le h
  omega
end Go.Proofs.Ytdellfmkmbabhaa
