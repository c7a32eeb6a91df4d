/- What the reference's Packet returns (package portref1): the fault of a packet. -/
import Derived.Test.YtgodjaffmojhlaaDoorRefNum
import Derived.Test.YtgodjaffmojhlaaDoorMgB
namespace Go.Proofs.YtgodjaffmojhlaaDoor
open Go.RowKit
set_option linter.unusedVariables false

theorem isAddr_up (n : Int) : isAddr n = upB n 4294967295 := rfl
set_option maxHeartbeats 8000000 in
theorem refPacket_raw (k t i s d o : Int) (m : Bool) (a : Option Addr) (l c : Nat) (w : World) (hl : l ≤ 9223372036854775807) :
    Calls Tryd.prog 17 #[.agg #[.int .i64 k, .int .i64 t, .int .i64 i, .int .i64 s, .int .i64 d, .int .i64 o, .bool m, .slice a l c]] w fun e w' =>
      e = .returned (.int .i64 (if (upB k 15 && upB t 255 && upB i 65535 && upB s 4294967295 && upB d 4294967295 && upB o 32767) = false then 1 else if 4000 < l then 4 else 0)) ∧ Below w.heap.size w w' := by
  have hb1 : Below w.heap.size w (w.alloc (.cells #[.int .i64 k, .int .i64 t, .int .i64 i, .int .i64 s, .int .i64 d, .int .i64 o, .bool m, .slice a l c] 40)) := (Below.refl _ _).alloc (Nat.le_refl _) _
  have HB : Hid _ := hb1
  clear hb1
  by_cases hbad : (upB k 15 && upB t 255 && upB i 65535 && upB s 4294967295 && upB d 4294967295 && upB o 32767) = false
  · rw [if_pos hbad]
    have hcase : k < 0 ∨ (¬ k < 0 ∧ 15 < k) ∨ (¬ k < 0 ∧ ¬ 15 < k ∧ t < 0) ∨ (¬ k < 0 ∧ ¬ 15 < k ∧ ¬ t < 0 ∧ 255 < t) ∨ (¬ k < 0 ∧ ¬ 15 < k ∧ ¬ t < 0 ∧ ¬ 255 < t ∧ i < 0) ∨ (¬ k < 0 ∧ ¬ 15 < k ∧ ¬ t < 0 ∧ ¬ 255 < t ∧ ¬ i < 0 ∧ 65535 < i) ∨
        (¬ k < 0 ∧ ¬ 15 < k ∧ ¬ t < 0 ∧ ¬ 255 < t ∧ ¬ i < 0 ∧ ¬ 65535 < i ∧ isAddr s = false) ∨ (¬ k < 0 ∧ ¬ 15 < k ∧ ¬ t < 0 ∧ ¬ 255 < t ∧ ¬ i < 0 ∧ ¬ 65535 < i ∧ isAddr s = true ∧ isAddr d = false) ∨
        (¬ k < 0 ∧ ¬ 15 < k ∧ ¬ t < 0 ∧ ¬ 255 < t ∧ ¬ i < 0 ∧ ¬ 65535 < i ∧ isAddr s = true ∧ isAddr d = true ∧ o < 0) ∨ (¬ k < 0 ∧ ¬ 15 < k ∧ ¬ t < 0 ∧ ¬ 255 < t ∧ ¬ i < 0 ∧ ¬ 65535 < i ∧ isAddr s = true ∧ isAddr d = true ∧ ¬ o < 0 ∧ 32767 < o) := by
      by_cases x0 : k < 0
      · exact .inl x0
      by_cases x1 : 15 < k
      · exact .inr (.inl ⟨x0, x1⟩)
      by_cases x2 : t < 0
      · exact .inr (.inr (.inl ⟨x0, x1, x2⟩))
      by_cases x3 : 255 < t
      · exact .inr (.inr (.inr (.inl ⟨x0, x1, x2, x3⟩)))
      by_cases x4 : i < 0
      · exact .inr (.inr (.inr (.inr (.inl ⟨x0, x1, x2, x3, x4⟩))))
      by_cases x5 : 65535 < i
      · exact .inr (.inr (.inr (.inr (.inr (.inl ⟨x0, x1, x2, x3, x4, x5⟩)))))
      rcases x6 : isAddr s with _ | _
      · exact .inr (.inr (.inr (.inr (.inr (.inr (.inl ⟨x0, x1, x2, x3, x4, x5, rfl⟩))))))
      rcases x7 : isAddr d with _ | _
      · exact .inr (.inr (.inr (.inr (.inr (.inr (.inr (.inl ⟨x0, x1, x2, x3, x4, x5, rfl, rfl⟩)))))))
      by_cases x8 : o < 0
      · exact .inr (.inr (.inr (.inr (.inr (.inr (.inr (.inr (.inl ⟨x0, x1, x2, x3, x4, x5, rfl, rfl, x8⟩))))))))
      by_cases x9 : 32767 < o
      · exact .inr (.inr (.inr (.inr (.inr (.inr (.inr (.inr (.inr ⟨x0, x1, x2, x3, x4, x5, rfl, rfl, x8, x9⟩))))))))
      exfalso
      rw [isAddr_up] at x6 x7
      rw [upB_yes (n := k) (m := 15) (by omega) (by omega), upB_yes (n := t) (m := 255) (by omega) (by omega), upB_yes (n := i) (m := 65535) (by omega) (by omega), x6, x7, upB_yes (n := o) (m := 32767) (by omega) (by omega)] at hbad
      cases hbad
    clear hbad
    rcases hcase with h | ⟨h0, h⟩ | ⟨h0, h1, h⟩ | ⟨h0, h1, h2, h⟩ | ⟨h0, h1, h2, h3, h⟩ | ⟨h0, h1, h2, h3, h4, h⟩ | ⟨h0, h1, h2, h3, h4, h5, h⟩ | ⟨h0, h1, h2, h3, h4, h5, h6, h⟩ | ⟨h0, h1, h2, h3, h4, h5, h6, h7, h⟩ | ⟨h0, h1, h2, h3, h4, h5, h6, h7, h8, h⟩
    all_goals
      go_enter Tryd.func17, Tryd.ntmps17
      go_wp2_with (go_at_call 27; refine (refAddr_any _ _).mono ?_; rintro e w' ⟨rfl, rfl⟩)
      go_ret
      exact ⟨rfl, HB.out⟩
  · have hin : pkIn { kind := k, ttl := t, ident := i, src := s, dst := d, pos := o, more := m, body := [] } = true := by
      show (upB k 15 && upB t 255 && upB i 65535 && upB s 4294967295 && upB d 4294967295 && upB o 32767) = true
      revert hbad
      cases (upB k 15 && upB t 255 && upB i 65535 && upB s 4294967295 && upB d 4294967295 && upB o 32767) <;> simp
    obtain ⟨a1, a2, a3, a4, a5, a6⟩ := of_pkIn hin
    simp only at a1 a2 a3 a4 a5 a6
    rw [if_neg hbad]
    clear hbad hin
    have e1 : isAddr s = true := isAddr_yes a4.1 a4.2
    have e2 : isAddr d = true := isAddr_yes a5.1 a5.2
    by_cases hl4 : 4000 < l
    · rw [if_pos hl4]
      go_enter Tryd.func17, Tryd.ntmps17
      go_wp2_with (go_at_call 27; refine (refAddr_any _ _).mono ?_; rintro e w' ⟨rfl, rfl⟩)
      go_ret
      exact ⟨rfl, HB.out⟩
    · rw [if_neg hl4]
      go_enter Tryd.func17, Tryd.ntmps17
      go_wp2_with (go_at_call 27; refine (refAddr_any _ _).mono ?_; rintro e w' ⟨rfl, rfl⟩)
      go_ret
      exact ⟨rfl, HB.out⟩
theorem refPacket_any (p : Pk) (bv : Value) (w : World) (hb : Bytes w bv p.body) :
    Calls Tryd.prog 17 #[pkV p bv] w fun e w' => e = .returned (.int .i64 (pkErr p)) ∧ Below w.heap.size w w' := by
  have hl : p.body.length ≤ 9223372036854775807 := by
    rcases hb with ⟨h, _⟩ | ⟨b, off, len, cap, _, h1, h2, h3, h4, _⟩
    · rw [h]; simp
    · rw [h4]; omega
  obtain ⟨a, c, rfl⟩ := len_body hb
  exact refPacket_raw p.kind p.ttl p.ident p.src p.dst p.pos p.more a p.body.length c w hl
end Go.Proofs.YtgodjaffmojhlaaDoor
