/- What the reference's Bytes returns (package portref1): a row of the call's own with a number's bytes behind it, the high one first. -/
import Derived.Test.YteijbohfakokfacDoorRefNum
import Derived.Test.YteijbohfakokfacDoorGrew
namespace Go.Proofs.YteijbohfakokfacDoor
open Go.RowKit
set_option linter.unusedVariables false

def beL : Nat → Int → List Int
  | 0, n => []
  | m + 1, n => (n / pw (8 * (m : Int)) % 256) :: beL m n
set_option maxRecDepth 100000 in
set_option maxHeartbeats 4000000 in
theorem refBytes_any (v : Value) (ys : List Int) (n : Int) (size base : Nat) (w : World) (hown : OwnB w base v ys) (hn0 : 0 ≤ n) (hn1 : n ≤ 4294967295) (hs : size ≤ 4) (hy : ys.length ≤ 100000) (hbase : base ≤ w.heap.size) :
    Calls Tryd.prog 41 #[v, .int .i64 n, .int .i64 (size : Int)] w fun e w' => ∃ v', e = .returned v' ∧ OwnB w' base v' (ys ++ beL size n) ∧ Grew v v' w w' := by
  go_enter Tryd.func41, Tryd.ntmps41
  go_wp2
  go_loopw [0, 7] (fun vr i wr => ∃ (k : Nat) (cur : List Int), k ≤ size ∧ i = .int .i64 ((k : Int) - 1) ∧ OwnB wr base vr cur ∧ Grew v vr w wr ∧ cur.length ≤ 100004 - k ∧ Hid (cur ++ beL k n = ys ++ beL size n)) (fun _ i _ => (intOf i + 1).toNat)
  case atStart => exact ⟨size, ys, by omega, rfl, hown, Grew.refl _ _, by omega, rfl⟩
  case round =>
    rename_i vr _ wr
    obtain ⟨k, cur, hk, rfl, ho, hg, hl, hT⟩ := hrel
    rcases k with _ | k
    · have HT : Hid (cur = ys ++ beL size n) := by
        show cur = ys ++ beL size n
        rw [← hT.out]; simp [beL]
      clear hT
      go_wp2
      go_ret
      exact ⟨_, rfl, HT.out ▸ ho, hg⟩
    · have ek : ((k + 1 : Nat) : Int) - 1 = (k : Int) := by omega
      rw [ek]
      have hp := fun ww => pow_any (8 * (k : Int)) ww (by omega) (by omega)
      have p1 := pw_pos (8 * (k : Int))
      have p2 := pw_le (n := 8 * (k : Int)) (by omega) (by omega)
      have HT : Hid (cur ++ (n / pw (8 * (k : Int)) % 256) :: beL k n = ys ++ beL size n) := hT.out
      generalize pw (8 * (k : Int)) = P at hp p1 p2 HT
      have d0 : 0 ≤ n / P := Int.ediv_nonneg hn0 (by omega)
      have d1 : n / P ≤ 4294967295 := Int.le_trans (Int.ediv_le_self _ hn0) hn1
      have hP : (P == 0) = false := by rw [beq_eq_false_iff_ne]; omega
      have hb0 : base ≤ wr.heap.size := Nat.le_trans hbase hg.1.size
      clear hT ek hown
      go_wp2_with (first
        | (go_at_call 48; refine (hp _).mono ?_; rintro e w' ⟨rfl, rfl⟩)
        | (at_builtin; refine wpList_append_byte rfl (.tmp 14) (.tmp 22) rfl base _ cur rfl ho (n / P % 256) (by omega) rfl (by omega) hb0 ?_; intro v2 w2 own2 grew2))
      go_roundw
      case rel =>
        refine ⟨k, cur ++ [n / P % 256], by omega, by go_num, own2, hg.trans grew2, by simp; omega, ?_⟩
        show cur ++ [n / P % 256] ++ beL k n = ys ++ beL size n
        rw [List.append_assoc]; exact HT.out
      case measure => simp [intOf]
end Go.Proofs.YteijbohfakokfacDoor
