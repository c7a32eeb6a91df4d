/- What head and fits of package seg return, for every kind and segment. -/
import Derived.Test.YtiigoeecklelpaaDoorSegPut
namespace Go.Proofs.YtiigoeecklelpaaDoor
open Go.RowKit
set_option linter.unusedVariables false

theorem head1 (w : World) : Calls Tryd.prog 59 #[.int .i64 1] w fun e w' => e = .returned (.int .i64 17) ∧ w' = w := head_any 1 w
theorem head2 (w : World) : Calls Tryd.prog 59 #[.int .i64 2] w fun e w' => e = .returned (.int .i64 6) ∧ w' = w := head_any 2 w
theorem head3 (w : World) : Calls Tryd.prog 59 #[.int .i64 3] w fun e w' => e = .returned (.int .i64 8) ∧ w' = w := head_any 3 w
theorem ret_bool {a b : Bool} (h : a = b) : Ending.returned (.bool a) = .returned (.bool b) := by rw [h]

set_option maxRecDepth 100000 in
set_option maxHeartbeats 8000000 in
theorem fits_raw (k f t q a n g : Int) (ad : Option Addr) (l c : Nat) (w : World) :
    Calls Tryd.prog 58 #[.int .i64 k, .agg #[.int .i64 f, .int .i64 t, .int .i64 q, .int .i64 a, .int .i64 n, .int .i64 g, .slice ad l c]] w fun e w' =>
      e = .returned (.bool (frmB k f && upB t 65535 && upB n 65535 && upB q (seqM k) && upB a 4294967295 && upB g 15)) ∧ Below w.heap.size w w' := by
  have b1 : Below w.heap.size w (w.alloc (.cells #[.int .i64 f, .int .i64 t, .int .i64 q, .int .i64 a, .int .i64 n, .int .i64 g, .slice ad l c] 26)) := (Below.refl _ _).alloc (Nat.le_refl _) _
  have HB : Hid _ := b1
  obtain ⟨M, HM⟩ : ∃ M, Hid (M = seqM k) := ⟨_, rfl⟩
  obtain ⟨R, HR⟩ : ∃ R, Hid (R = (frmB k f && upB t 65535 && upB n 65535 && upB q M && upB a 4294967295 && upB g 15)) := ⟨_, rfl⟩
  rw [show (frmB k f && upB t 65535 && upB n 65535 && upB q (seqM k) && upB a 4294967295 && upB g 15) = R by rw [HR.out, HM.out]]
  clear b1
  go_enter Tryd.func58, Tryd.ntmps58
  go_upto_if 7 with fail
  go_cut [5] (fun s ww => s = .int .i64 M ∧ ww = w.alloc (.cells #[.int .i64 f, .int .i64 t, .int .i64 q, .int .i64 a, .int .i64 n, .int .i64 g, .slice ad l c] 26))
  case first =>
    by_cases h : k = 3
    · have E : Hid ((65535 : Int) = M) := by show (65535 : Int) = M; rw [HM.out, h]; rfl
      subst h
      go_wp2_with fail
      go_meet
      case rel => exact ⟨congrArg (Value.int .i64) E.out, rfl⟩
    · have E : Hid ((4294967295 : Int) = M) := by show (4294967295 : Int) = M; rw [HM.out]; unfold seqM; rw [if_neg h]
      have e3 : (k == 3) = false := by simpa using h
      go_wp2_with fail
      go_meet
      case rel => exact ⟨congrArg (Value.int .i64) E.out, rfl⟩
  case rest =>
    obtain ⟨hx, hy⟩ := hcut
    subst hx hy
    rcases h0 : frmB k f with _ | _
    · go_wp2_with (first
      | (go_at_call 67; refine (fromFits_any _ _ _).mono ?_; rintro e w' ⟨rfl, rfl⟩)
      | (go_at_call 66; refine (sgUp_any _ _ _).mono ?_; rintro e w' ⟨rfl, rfl⟩))
      go_ret
      exact ⟨ret_bool (by rw [HR.out, h0]; simp), HB.out⟩
    rcases h1 : upB t 65535 with _ | _
    · go_wp2_with (first
      | (go_at_call 67; refine (fromFits_any _ _ _).mono ?_; rintro e w' ⟨rfl, rfl⟩)
      | (go_at_call 66; refine (sgUp_any _ _ _).mono ?_; rintro e w' ⟨rfl, rfl⟩))
      go_ret
      exact ⟨ret_bool (by rw [HR.out, h0, h1]; simp), HB.out⟩
    rcases h2 : upB n 65535 with _ | _
    · go_wp2_with (first
      | (go_at_call 67; refine (fromFits_any _ _ _).mono ?_; rintro e w' ⟨rfl, rfl⟩)
      | (go_at_call 66; refine (sgUp_any _ _ _).mono ?_; rintro e w' ⟨rfl, rfl⟩))
      go_ret
      exact ⟨ret_bool (by rw [HR.out, h0, h1, h2]; simp), HB.out⟩
    rcases h3 : upB q M with _ | _
    · go_wp2_with (first
      | (go_at_call 67; refine (fromFits_any _ _ _).mono ?_; rintro e w' ⟨rfl, rfl⟩)
      | (go_at_call 66; refine (sgUp_any _ _ _).mono ?_; rintro e w' ⟨rfl, rfl⟩))
      go_ret
      exact ⟨ret_bool (by rw [HR.out, h0, h1, h2, h3]; simp), HB.out⟩
    rcases h4 : upB a 4294967295 with _ | _
    · go_wp2_with (first
      | (go_at_call 67; refine (fromFits_any _ _ _).mono ?_; rintro e w' ⟨rfl, rfl⟩)
      | (go_at_call 66; refine (sgUp_any _ _ _).mono ?_; rintro e w' ⟨rfl, rfl⟩))
      go_ret
      exact ⟨ret_bool (by rw [HR.out, h0, h1, h2, h3, h4]; simp), HB.out⟩
    rcases h5 : upB g 15 with _ | _
    · go_wp2_with (first
      | (go_at_call 67; refine (fromFits_any _ _ _).mono ?_; rintro e w' ⟨rfl, rfl⟩)
      | (go_at_call 66; refine (sgUp_any _ _ _).mono ?_; rintro e w' ⟨rfl, rfl⟩))
      go_ret
      exact ⟨ret_bool (by rw [HR.out, h0, h1, h2, h3, h4, h5]; simp), HB.out⟩
    go_wp2_with (first
      | (go_at_call 67; refine (fromFits_any _ _ _).mono ?_; rintro e w' ⟨rfl, rfl⟩)
      | (go_at_call 66; refine (sgUp_any _ _ _).mono ?_; rintro e w' ⟨rfl, rfl⟩))
    go_ret
    exact ⟨ret_bool (by rw [HR.out, h0, h1, h2, h3, h4, h5]; rfl), HB.out⟩
end Go.Proofs.YtiigoeecklelpaaDoor
