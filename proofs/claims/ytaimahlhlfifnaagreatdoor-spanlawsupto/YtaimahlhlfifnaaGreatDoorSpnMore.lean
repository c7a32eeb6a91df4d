/- What the program's Join, Meet, Less and Not return (package span). -/
import Derived.Test.YtaimahlhlfifnaaGreatDoorSpnTop
namespace Go.Proofs.YtaimahlhlfifnaaGreatDoor
open Go.RowKit
set_option linter.unusedVariables false

theorem join1_any (x y : Bool) (W : World) : Calls Tryz.prog 30 #[.bool x, .bool y] W fun e w' => e = .returned (.bool (x || y)) ∧ w' = W := by
  cases x <;> cases y <;> (go_enter Tryz.func30, Tryz.ntmps30; go_wp2; go_ret; exact ⟨rfl, rfl⟩)
theorem meet1_any (x y : Bool) (W : World) : Calls Tryz.prog 31 #[.bool x, .bool y] W fun e w' => e = .returned (.bool (x && y)) ∧ w' = W := by
  cases x <;> cases y <;> (go_enter Tryz.func31, Tryz.ntmps31; go_wp2; go_ret; exact ⟨rfl, rfl⟩)
theorem less1_any (x y : Bool) (W : World) : Calls Tryz.prog 32 #[.bool x, .bool y] W fun e w' => e = .returned (.bool (x && !y)) ∧ w' = W := by
  cases x <;> cases y <;> (go_enter Tryz.func32, Tryz.ntmps32; go_wp2; go_ret; exact ⟨rfl, rfl⟩)
theorem not1_any (x y : Bool) (W : World) : Calls Tryz.prog 35 #[.bool x, .bool y] W fun e w' => e = .returned (.bool (!x)) ∧ w' = W := by
  cases x <;> (go_enter Tryz.func35, Tryz.ntmps35; go_wp2; go_ret; exact ⟨rfl, rfl⟩)
theorem join_any (va vb : Value) (a b : List Sp) (w : World) (ha : Spns w va a) (hb : Spns w vb b) (hna : a.length ≤ 140737488355328) (hnb : b.length ≤ 140737488355328) :
    Calls Tryz.prog 13 #[va, vb] w fun e w' => ∃ v', e = .returned (.tuple #[v', erV (chE a b)]) ∧ OwnSp w' w.heap.size v' (resL (chE a b) (fun n => inB a n || inB b n)) ∧ Below w.heap.size w w' := by
  have eg : ∀ args w, (callFunc 30 args).run Tryz.prog w = .ok (.enter 30 args) w := enters_of Tryz.func30 (by kernel_rfl) rfl
  have hc := choose_any 30 (fun x y => x || y) eg join1_any va vb a b w ha hb hna hnb
  generalize resL (chE a b) (fun n => inB a n || inB b n) = R at hc ⊢
  generalize erV (chE a b) = er at hc ⊢
  clear ha hb
  go_enter Tryz.func13, Tryz.ntmps13
  go_wp2_with (go_at_call 29; refine hc.mono ?_; rintro e w1 ⟨v1, rfl, own1, b1⟩)
  go_ret2
  exact ⟨v1, rfl, own1, b1⟩
theorem meet_any (va vb : Value) (a b : List Sp) (w : World) (ha : Spns w va a) (hb : Spns w vb b) (hna : a.length ≤ 140737488355328) (hnb : b.length ≤ 140737488355328) :
    Calls Tryz.prog 14 #[va, vb] w fun e w' => ∃ v', e = .returned (.tuple #[v', erV (chE a b)]) ∧ OwnSp w' w.heap.size v' (resL (chE a b) (fun n => inB a n && inB b n)) ∧ Below w.heap.size w w' := by
  have eg : ∀ args w, (callFunc 31 args).run Tryz.prog w = .ok (.enter 31 args) w := enters_of Tryz.func31 (by kernel_rfl) rfl
  have hc := choose_any 31 (fun x y => x && y) eg meet1_any va vb a b w ha hb hna hnb
  generalize resL (chE a b) (fun n => inB a n && inB b n) = R at hc ⊢
  generalize erV (chE a b) = er at hc ⊢
  clear ha hb
  go_enter Tryz.func14, Tryz.ntmps14
  go_wp2_with (go_at_call 29; refine hc.mono ?_; rintro e w1 ⟨v1, rfl, own1, b1⟩)
  go_ret2
  exact ⟨v1, rfl, own1, b1⟩
theorem less_any (va vb : Value) (a b : List Sp) (w : World) (ha : Spns w va a) (hb : Spns w vb b) (hna : a.length ≤ 140737488355328) (hnb : b.length ≤ 140737488355328) :
    Calls Tryz.prog 15 #[va, vb] w fun e w' => ∃ v', e = .returned (.tuple #[v', erV (chE a b)]) ∧ OwnSp w' w.heap.size v' (resL (chE a b) (fun n => inB a n && !inB b n)) ∧ Below w.heap.size w w' := by
  have eg : ∀ args w, (callFunc 32 args).run Tryz.prog w = .ok (.enter 32 args) w := enters_of Tryz.func32 (by kernel_rfl) rfl
  have hc := choose_any 32 (fun x y => x && !y) eg less1_any va vb a b w ha hb hna hnb
  generalize resL (chE a b) (fun n => inB a n && !inB b n) = R at hc ⊢
  generalize erV (chE a b) = er at hc ⊢
  clear ha hb
  go_enter Tryz.func15, Tryz.ntmps15
  go_wp2_with (go_at_call 29; refine hc.mono ?_; rintro e w1 ⟨v1, rfl, own1, b1⟩)
  go_ret2
  exact ⟨v1, rfl, own1, b1⟩
theorem not_any (v : Value) (l : List Sp) (w : World) (hv : Spns w v l) (hn : l.length ≤ 140737488355328) :
    Calls Tryz.prog 18 #[v] w fun e w' => ∃ v', e = .returned (.tuple #[v', erV (spE l)]) ∧ OwnSp w' w.heap.size v' (resL (spE l) (fun n => !inB l n)) ∧ Below w.heap.size w w' := by
  have eg : ∀ args w, (callFunc 35 args).run Tryz.prog w = .ok (.enter 35 args) w := enters_of Tryz.func35 (by kernel_rfl) rfl
  have hc := choose_any 35 (fun x _ => !x) eg not1_any v (.slice none 0 0) l [] w hv (Spns.nil _ _ _) hn (by simp)
  rw [chE_nil] at hc
  generalize resL (spE l) (fun n => !inB l n) = R at hc ⊢
  generalize erV (spE l) = er at hc ⊢
  clear hv
  go_enter Tryz.func18, Tryz.ntmps18
  go_wp2_with (go_at_call 29; refine hc.mono ?_; rintro e w1 ⟨v1, rfl, own1, b1⟩)
  go_ret2
  exact ⟨v1, rfl, own1, b1⟩
end Go.Proofs.YtaimahlhlfifnaaGreatDoor
