/- What the program's Join, Meet, Less and Not return (package span). -/
import Derived.Test.YtplpdaojoilnaaaDoorSpnTop
namespace Go.Proofs.YtplpdaojoilnaaaDoor
open Go.RowKit
set_option linter.unusedVariables false

theorem join1_any (x y : Bool) (W : World) : Calls Tryd.prog 23 #[.bool x, .bool y] W fun e w' => e = .returned (.bool (x || y)) ∧ w' = W := by
  cases x <;> cases y <;> (go_enter Tryd.func23, Tryd.ntmps23; go_wp2; go_ret; exact ⟨rfl, rfl⟩)
theorem meet1_any (x y : Bool) (W : World) : Calls Tryd.prog 24 #[.bool x, .bool y] W fun e w' => e = .returned (.bool (x && y)) ∧ w' = W := by
  cases x <;> cases y <;> (go_enter Tryd.func24, Tryd.ntmps24; go_wp2; go_ret; exact ⟨rfl, rfl⟩)
theorem less1_any (x y : Bool) (W : World) : Calls Tryd.prog 25 #[.bool x, .bool y] W fun e w' => e = .returned (.bool (x && !y)) ∧ w' = W := by
  cases x <;> cases y <;> (go_enter Tryd.func25, Tryd.ntmps25; go_wp2; go_ret; exact ⟨rfl, rfl⟩)
theorem not1_any (x y : Bool) (W : World) : Calls Tryd.prog 22 #[.bool x, .bool y] W fun e w' => e = .returned (.bool (!x)) ∧ w' = W := by
  cases x <;> (go_enter Tryd.func22, Tryd.ntmps22; go_wp2; go_ret; exact ⟨rfl, rfl⟩)
theorem join_any (va vb : Value) (a b : List Sp) (w : World) (ha : Spns w va a) (hb : Spns w vb b) (hna : a.length ≤ 140737488355328) (hnb : b.length ≤ 140737488355328) :
    Calls Tryd.prog 12 #[va, vb] w fun e w' => ∃ v', e = .returned (.tuple #[v', erV (chE a b)]) ∧ OwnSp w' w.heap.size v' (resL (chE a b) (fun n => inB a n || inB b n)) ∧ Below w.heap.size w w' := by
  have eg : ∀ args w, (callFunc 23 args).run Tryd.prog w = .ok (.enter 23 args) w := enters_of Tryd.func23 (by kernel_rfl) rfl
  have hc := choose_any 23 (fun x y => x || y) eg join1_any va vb a b w ha hb hna hnb
  generalize resL (chE a b) (fun n => inB a n || inB b n) = R at hc ⊢
  generalize erV (chE a b) = er at hc ⊢
  clear ha hb
  go_enter Tryd.func12, Tryd.ntmps12
  go_wp2_with (go_at_call 20; refine hc.mono ?_; rintro e w1 ⟨v1, rfl, own1, b1⟩)
  go_ret2
  exact ⟨v1, rfl, own1, b1⟩
theorem meet_any (va vb : Value) (a b : List Sp) (w : World) (ha : Spns w va a) (hb : Spns w vb b) (hna : a.length ≤ 140737488355328) (hnb : b.length ≤ 140737488355328) :
    Calls Tryd.prog 13 #[va, vb] w fun e w' => ∃ v', e = .returned (.tuple #[v', erV (chE a b)]) ∧ OwnSp w' w.heap.size v' (resL (chE a b) (fun n => inB a n && inB b n)) ∧ Below w.heap.size w w' := by
  have eg : ∀ args w, (callFunc 24 args).run Tryd.prog w = .ok (.enter 24 args) w := enters_of Tryd.func24 (by kernel_rfl) rfl
  have hc := choose_any 24 (fun x y => x && y) eg meet1_any va vb a b w ha hb hna hnb
  generalize resL (chE a b) (fun n => inB a n && inB b n) = R at hc ⊢
  generalize erV (chE a b) = er at hc ⊢
  clear ha hb
  go_enter Tryd.func13, Tryd.ntmps13
  go_wp2_with (go_at_call 20; refine hc.mono ?_; rintro e w1 ⟨v1, rfl, own1, b1⟩)
  go_ret2
  exact ⟨v1, rfl, own1, b1⟩
theorem less_any (va vb : Value) (a b : List Sp) (w : World) (ha : Spns w va a) (hb : Spns w vb b) (hna : a.length ≤ 140737488355328) (hnb : b.length ≤ 140737488355328) :
    Calls Tryd.prog 14 #[va, vb] w fun e w' => ∃ v', e = .returned (.tuple #[v', erV (chE a b)]) ∧ OwnSp w' w.heap.size v' (resL (chE a b) (fun n => inB a n && !inB b n)) ∧ Below w.heap.size w w' := by
  have eg : ∀ args w, (callFunc 25 args).run Tryd.prog w = .ok (.enter 25 args) w := enters_of Tryd.func25 (by kernel_rfl) rfl
  have hc := choose_any 25 (fun x y => x && !y) eg less1_any va vb a b w ha hb hna hnb
  generalize resL (chE a b) (fun n => inB a n && !inB b n) = R at hc ⊢
  generalize erV (chE a b) = er at hc ⊢
  clear ha hb
  go_enter Tryd.func14, Tryd.ntmps14
  go_wp2_with (go_at_call 20; refine hc.mono ?_; rintro e w1 ⟨v1, rfl, own1, b1⟩)
  go_ret2
  exact ⟨v1, rfl, own1, b1⟩
theorem not_any (v : Value) (l : List Sp) (w : World) (hv : Spns w v l) (hn : l.length ≤ 140737488355328) :
    Calls Tryd.prog 11 #[v] w fun e w' => ∃ v', e = .returned (.tuple #[v', erV (spE l)]) ∧ OwnSp w' w.heap.size v' (resL (spE l) (fun n => !inB l n)) ∧ Below w.heap.size w w' := by
  have eg : ∀ args w, (callFunc 22 args).run Tryd.prog w = .ok (.enter 22 args) w := enters_of Tryd.func22 (by kernel_rfl) rfl
  have hc := choose_any 22 (fun x _ => !x) eg not1_any v (.slice none 0 0) l [] w hv (Spns.nil _ _ _) hn (by simp)
  rw [chE_nil] at hc
  generalize resL (spE l) (fun n => !inB l n) = R at hc ⊢
  generalize erV (spE l) = er at hc ⊢
  clear hv
  go_enter Tryd.func11, Tryd.ntmps11
  go_wp2_with (go_at_call 20; refine hc.mono ?_; rintro e w1 ⟨v1, rfl, own1, b1⟩)
  go_ret2
  exact ⟨v1, rfl, own1, b1⟩
end Go.Proofs.YtplpdaojoilnaaaDoor
