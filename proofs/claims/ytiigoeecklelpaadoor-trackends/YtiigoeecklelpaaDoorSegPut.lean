/- What the small functions of package seg return (upTo, isAddr, head, isKind, fromFits, number, write), for what its callers hand them: a number read of bytes, and bytes of a number behind a row of the call's own, the high one first. -/
import Derived.Test.YtiigoeecklelpaaDoorSegAt
import Derived.Test.YtiigoeecklelpaaDoorWireMeas
namespace Go.Proofs.YtiigoeecklelpaaDoor
open Go.RowKit
set_option linter.unusedVariables false

theorem sgUp_any (n most : Int) (w : World) :
    Calls Tryd.prog 66 #[.int .i64 n, .int .i64 most] w fun e w' => e = .returned (.bool (upB n most)) ∧ w' = w := by
  by_cases h0 : 0 ≤ n
  · by_cases h1 : n ≤ most
    · rw [upB_yes h0 h1]
      go_enter Tryd.func66, Tryd.ntmps66
      go_wp2
      go_ret
      exact ⟨rfl, rfl⟩
    · rw [show upB n most = false by simp [upB]; omega]
      go_enter Tryd.func66, Tryd.ntmps66
      go_wp2
      go_ret
      exact ⟨rfl, rfl⟩
  · rw [show upB n most = false by simp [upB]; omega]
    go_enter Tryd.func66, Tryd.ntmps66
    go_wp2
    go_ret
    exact ⟨rfl, rfl⟩
theorem sgAddr_any (n : Int) (w : World) :
    Calls Tryd.prog 57 #[.int .i64 n] w fun e w' => e = .returned (.bool (upB n 4294967295)) ∧ w' = w := by
  go_enter Tryd.func57, Tryd.ntmps57
  go_wp2_with (go_at_call 66; refine (sgUp_any _ _ _).mono ?_; rintro e w' ⟨rfl, rfl⟩)
  go_ret
  exact ⟨rfl, rfl⟩
theorem head_any (k : Int) (w : World) :
    Calls Tryd.prog 59 #[.int .i64 k] w fun e w' => e = .returned (.int .i64 (hdN k : Nat)) ∧ w' = w := by
  by_cases h1 : k = 1
  · subst h1
    rw [show ((hdN 1 : Nat) : Int) = 17 from rfl]
    go_enter Tryd.func59, Tryd.ntmps59
    go_wp2
    go_ret
    exact ⟨rfl, rfl⟩
  by_cases h2 : k = 2
  · subst h2
    rw [show ((hdN 2 : Nat) : Int) = 6 from rfl]
    go_enter Tryd.func59, Tryd.ntmps59
    go_wp2
    go_ret
    exact ⟨rfl, rfl⟩
  by_cases h3 : k = 3
  · subst h3
    rw [show ((hdN 3 : Nat) : Int) = 8 from rfl]
    go_enter Tryd.func59, Tryd.ntmps59
    go_wp2
    go_ret
    exact ⟨rfl, rfl⟩
  · rw [show ((hdN k : Nat) : Int) = 0 by unfold hdN; rw [if_neg h1, if_neg h2, if_neg h3]; rfl]
    have e1 : (k == 1) = false := by simpa using h1
    have e2 : (k == 2) = false := by simpa using h2
    have e3 : (k == 3) = false := by simpa using h3
    go_enter Tryd.func59, Tryd.ntmps59
    go_wp2
    go_ret
    exact ⟨rfl, rfl⟩
theorem isK_hd (k : Int) : isK k = decide ((0 : Int) < ((hdN k : Nat) : Int)) := by
  unfold isK hdN
  by_cases h1 : k = 1
  · subst h1; rfl
  by_cases h2 : k = 2
  · subst h2; rfl
  by_cases h3 : k = 3
  · subst h3; rfl
  · rw [if_neg h1, if_neg h2, if_neg h3]
    simp; omega
theorem isKind_any (k : Int) (w : World) :
    Calls Tryd.prog 56 #[.int .i64 k] w fun e w' => e = .returned (.bool (isK k)) ∧ w' = w := by
  rw [isK_hd]
  have hh := head_any k w
  generalize ((hdN k : Nat) : Int) = n at hh ⊢
  go_enter Tryd.func56, Tryd.ntmps56
  go_wp2_with (go_at_call 59; refine hh.mono ?_; rintro e w' ⟨rfl, rfl⟩)
  go_ret
  exact ⟨rfl, rfl⟩
theorem fromFits_any (k n : Int) (w : World) :
    Calls Tryd.prog 67 #[.int .i64 k, .int .i64 n] w fun e w' => e = .returned (.bool (frmB k n)) ∧ w' = w := by
  by_cases h : k = 3
  · subst h
    rw [show frmB 3 n = upB n 1 from rfl]
    go_enter Tryd.func67, Tryd.ntmps67
    go_wp2_with (go_at_call 66; refine (sgUp_any _ _ _).mono ?_; rintro e w' ⟨rfl, rfl⟩)
    go_ret
    exact ⟨rfl, rfl⟩
  · rw [show frmB k n = upB n 65535 by unfold frmB; rw [if_neg h]]
    have e3 : (k == 3) = false := by simpa using h
    go_enter Tryd.func67, Tryd.ntmps67
    go_wp2_with (go_at_call 66; refine (sgUp_any _ _ _).mono ?_; rintro e w' ⟨rfl, rfl⟩)
    go_ret
    exact ⟨rfl, rfl⟩

/-- The bytes of a number, the high one first. -/
def beP : Nat → Int → List Int
  | 0, n => []
  | 1, n => b1L n
  | 2, n => b2L n
  | 3, n => [n / 65536 % 256, n / 256 % 256, n % 256]
  | _, n => b4L n
set_option maxRecDepth 100000 in
set_option maxHeartbeats 4000000 in
theorem write_any (v : Value) (ys : List Int) (n : Int) (many base : Nat) (w : World) (hown : OwnB w base v ys) (hs : many ≤ 4) (hy : ys.length ≤ 100000) (hbase : base ≤ w.heap.size) :
    Calls Tryd.prog 45 #[v, .int .i64 (many : Int), .int .i64 n] w fun e w' => ∃ v', e = .returned v' ∧ OwnB w' base v' (ys ++ beP many n) ∧ Grew v v' w w' := by
  go_enter Tryd.func45, Tryd.ntmps45
  go_wp2
  go_loopw [0, 7] (fun vr i wr => ∃ (k : Nat) (cur : List Int), k ≤ many ∧ i = .int .i64 ((k : Int) - 1) ∧ OwnB wr base vr cur ∧ Grew v vr w wr ∧ cur.length ≤ 100004 - k ∧ Hid (cur ++ beP k n = ys ++ beP many n)) (fun _ i _ => (intOf i + 1).toNat)
  case atStart => exact ⟨many, ys, by omega, rfl, hown, Grew.refl _ _, by omega, rfl⟩
  case round =>
    rename_i vr _ wr
    obtain ⟨k, cur, hk, rfl, ho, hg, hl, hT⟩ := hrel
    have hb0 : base ≤ wr.heap.size := Nat.le_trans hbase hg.1.size
    have hk4 : k = 0 ∨ k = 1 ∨ k = 2 ∨ k = 3 ∨ k = 4 := by omega
    clear hown hbase
    rcases hk4 with rfl | rfl | rfl | rfl | rfl
    · have HT : Hid (cur = ys ++ beP many n) := by
        show cur = ys ++ beP many n
        rw [← hT.out]; simp [beP]
      clear hT
      go_wp2
      go_ret
      exact ⟨_, rfl, HT.out ▸ ho, hg⟩
    · rw [show (((1 : Nat) : Int) - 1) = 0 from rfl]
      have HT : Hid (cur ++ [n % 256] ++ beP 0 n = ys ++ beP many n) := by show cur ++ [n % 256] ++ beP 0 n = _; rw [← hT.out, List.append_assoc]; rfl
      clear hT
      go_wp2_with (at_builtin; refine wpList_append_byte rfl (.tmp 14) (.tmp 20) rfl base _ cur rfl ho (n % 256) (by omega) rfl (by omega) hb0 ?_; intro v2 w2 own2 grew2)
      go_roundw
      case rel => exact ⟨0, cur ++ [n % 256], by omega, by go_num, own2, hg.trans grew2, by simp; omega, HT⟩
      case measure => simp [intOf]
    · rw [show (((2 : Nat) : Int) - 1) = 1 from rfl]
      have HT : Hid (cur ++ [n / 256 % 256] ++ beP 1 n = ys ++ beP many n) := by show cur ++ [n / 256 % 256] ++ beP 1 n = _; rw [← hT.out, List.append_assoc]; rfl
      clear hT
      go_wp2_with (at_builtin; refine wpList_append_byte rfl (.tmp 14) (.tmp 20) rfl base _ cur rfl ho (n / 256 % 256) (by omega) rfl (by omega) hb0 ?_; intro v2 w2 own2 grew2)
      go_roundw
      case rel => exact ⟨1, cur ++ [n / 256 % 256], by omega, by go_num, own2, hg.trans grew2, by simp; omega, HT⟩
      case measure => simp [intOf]
    · rw [show (((3 : Nat) : Int) - 1) = 2 from rfl]
      have HT : Hid (cur ++ [n / 65536 % 256] ++ beP 2 n = ys ++ beP many n) := by show cur ++ [n / 65536 % 256] ++ beP 2 n = _; rw [← hT.out, List.append_assoc]; rfl
      clear hT
      go_wp2_with (at_builtin; refine wpList_append_byte rfl (.tmp 14) (.tmp 20) rfl base _ cur rfl ho (n / 65536 % 256) (by omega) rfl (by omega) hb0 ?_; intro v2 w2 own2 grew2)
      go_roundw
      case rel => exact ⟨2, cur ++ [n / 65536 % 256], by omega, by go_num, own2, hg.trans grew2, by simp; omega, HT⟩
      case measure => simp [intOf]
    · rw [show (((4 : Nat) : Int) - 1) = 3 from rfl]
      have HT : Hid (cur ++ [n / 16777216 % 256] ++ beP 3 n = ys ++ beP many n) := by show cur ++ [n / 16777216 % 256] ++ beP 3 n = _; rw [← hT.out, List.append_assoc]; rfl
      clear hT
      go_wp2_with (at_builtin; refine wpList_append_byte rfl (.tmp 14) (.tmp 20) rfl base _ cur rfl ho (n / 16777216 % 256) (by omega) rfl (by omega) hb0 ?_; intro v2 w2 own2 grew2)
      go_roundw
      case rel => exact ⟨3, cur ++ [n / 16777216 % 256], by omega, by go_num, own2, hg.trans grew2, by simp; omega, HT⟩
      case measure => simp [intOf]
/-- A row of the call's own that grows, from block B on; below B all is as it was. -/
def Grows (w : World) (B : Nat) (wi : World) (v : Value) (L : List Int) : Prop := OwnB wi B v L ∧ Below B w wi ∧ B ≤ wi.heap.size
theorem Grows.nil (w : World) (B : Nat) (hB : B ≤ w.heap.size) : Grows w B w (.slice none 0 0) [] := ⟨OwnB.nil _ _, Below.refl _ _, hB⟩
theorem Grows.step {w wi wj : World} {B : Nat} {v v' : Value} {L L' : List Int} (h : Grows w B wi v L) (ho : OwnB wj B v' L') (hg : Grew v v' wi wj) : Grows w B wj v' L' :=
  ⟨ho, hg.below h.2.1 h.2.2 h.1.block_ge, Nat.le_trans h.2.2 hg.1.size⟩
theorem Grows.app {w wi wj : World} {B : Nat} {v v' : Value} {L L' : List Int} (h : Grows w B wi v L) (ho : OwnB wj B v' L') (hg : wi.grownBy wj v.ownBlock) : Grows w B wj v' L' :=
  ⟨ho, h.2.1.grown hg h.2.2 h.1.block_ge, Nat.le_trans h.2.2 hg.size⟩
theorem Grows.write1 {w wi : World} {B : Nat} {v : Value} {L : List Int} (h : Grows w B wi v L) (n : Int) (hy : L.length ≤ 100000) :
    Calls Tryd.prog 45 #[v, .int .i64 1, .int .i64 n] wi fun e w' => ∃ v', e = .returned v' ∧ Grows w B w' v' (L ++ b1L n) := by
  refine (write_any v L n 1 B wi h.1 (by omega) hy h.2.2).mono ?_
  rintro e w' ⟨v', rfl, ho, hg⟩
  exact ⟨v', rfl, h.step ho hg⟩
theorem Grows.write2 {w wi : World} {B : Nat} {v : Value} {L : List Int} (h : Grows w B wi v L) (n : Int) (hy : L.length ≤ 100000) :
    Calls Tryd.prog 45 #[v, .int .i64 2, .int .i64 n] wi fun e w' => ∃ v', e = .returned v' ∧ Grows w B w' v' (L ++ b2L n) := by
  refine (write_any v L n 2 B wi h.1 (by omega) hy h.2.2).mono ?_
  rintro e w' ⟨v', rfl, ho, hg⟩
  exact ⟨v', rfl, h.step ho hg⟩
theorem Grows.write4 {w wi : World} {B : Nat} {v : Value} {L : List Int} (h : Grows w B wi v L) (n : Int) (hy : L.length ≤ 100000) :
    Calls Tryd.prog 45 #[v, .int .i64 4, .int .i64 n] wi fun e w' => ∃ v', e = .returned v' ∧ Grows w B w' v' (L ++ b4L n) := by
  refine (write_any v L n 4 B wi h.1 (by omega) hy h.2.2).mono ?_
  rintro e w' ⟨v', rfl, ho, hg⟩
  exact ⟨v', rfl, h.step ho hg⟩
end Go.Proofs.YtiigoeecklelpaaDoor
