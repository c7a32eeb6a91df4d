/- What Top of package heavy returns: the greatest counts, as many as are asked for, or as there are. -/
import Derived.Test.YtchailjgikjhlaaDoorHvRnk
namespace Go.Proofs.YtchailjgikjhlaaDoor
open Go.RowKit Go.Maps
set_option linter.unusedVariables false

theorem Cts.take {w : World} {g len cap : Nat} {qs : List Ct} (h : Cts w (.slice (some ⟨g, 0, none⟩) len cap) qs) (j : Nat) (hj : j ≤ len) : Cts w (.slice (some ⟨g, 0, none⟩) j cap) (qs.take j) := by
  rcases h with ⟨_, h2⟩ | ⟨b, ln, cp, e, h1, h2, h3, h4, h5⟩
  · cases h2
  · injection e with e1 e2 e3
    injection e1 with e1
    injection e1 with e1
    subst e1; subst e2; subst e3
    refine .inr ⟨g, j, cap, rfl, by omega, h2, by rw [List.length_take]; omega, h4, fun i hi => ?_⟩
    have hi' : i < qs.length := by rw [List.length_take] at hi; omega
    rw [List.getElem_take]
    exact h5 i hi'
theorem top_bad (b : Nat) (n : Int) (w : World) (h : numB n = false) : Calls Tryd.prog 12 #[.pointer (some ⟨b, 0, none⟩), .int .i64 n] w fun e w' => e = .returned (.tuple #[.slice none 0 0, .iface 47 (.int .i64 1)]) ∧ w' = w := by
  have hc := number_any n w
  rw [h] at hc
  go_enter Tryd.func12, Tryd.ntmps12
  go_wp2_with (go_at_call 15; go_must (refine hc.mono ?_; rintro e W3 ⟨rfl, hW3⟩; rw [hW3]; clear hW3 W3))
  exact bodyPost_ret (v := .tuple #[.slice none 0 0, .iface 47 (.int .i64 1)]) (by simp [results, Tryd.results12, go_sem]) rfl ⟨rfl, rfl⟩
set_option maxRecDepth 100000 in
set_option maxHeartbeats 8000000 in
theorem top_ok (b m : Nat) (h : Hv) (n : Nat) (w : World) (k : HvAt w b m h) (hl : h.l.length ≤ 1000) (hn : numB (n : Int) = true) :
    Calls Tryd.prog 12 #[.pointer (some ⟨b, 0, none⟩), .int .i64 (n : Int)] w fun e w' => ∃ (v : Value) (qs : List Ct), e = .returned (.tuple #[v, .nilIface]) ∧ Cts w' v (qs.take n) ∧ qs.Perm (h.l.map (ctOf h.less)) ∧ qs.Pairwise (fun p q => ¬ LtC q p) ∧ Below w.heap.size w w' := by
  obtain ⟨Q, hQ⟩ : ∃ Q : Ending → World → Prop, Q = fun e w' => ∃ (v : Value) (qs : List Ct), e = .returned (.tuple #[v, .nilIface]) ∧ Cts w' v (qs.take n) ∧ qs.Perm (h.l.map (ctOf h.less)) ∧ qs.Pairwise (fun p q => ¬ LtC q p) ∧ Below w.heap.size w w' := ⟨_, rfl⟩
  have HQ := hidE hQ
  rw [← hQ]
  clear hQ
  have hc := number_any n w
  have hr := ranked_any b m h w k hl
  have hn1 : (1 : Int) ≤ n := by unfold numB at hn; simp at hn; omega
  have hn2 : (n : Int) ≤ 20 := by unfold numB at hn; simp at hn; omega
  rw [hn] at hc
  clear hn k hl
  go_enter Tryd.func12, Tryd.ntmps12
  go_upto_region 4 with (first
    | (go_at_call 15; go_must (refine hc.mono ?_; rintro e W3 ⟨rfl, hW3⟩; rw [hW3]; clear hW3 W3))
    | (go_at_call 23; go_must (refine hr.mono ?_; rintro e W3 ⟨v, qs, rfl, q1, q2, q3, q4⟩)))
  rcases q1 with ⟨rfl, rfl⟩ | ⟨g, len, cap, rfl, h1, h2, h3, h4, h5⟩
  · have HFIN : Hid (Q (.returned (.tuple #[.slice none 0 0, .nilIface])) W3) := by
      show Q _ _
      rw [HQ.out]
      exact ⟨_, [], rfl, .inl ⟨by simp, rfl⟩, q2, q3, q4⟩
    clear q2 q3 q4 hc hr
    have hm : min (n : Int) 0 = 0 := by omega
    go_wp2_with fail
    exact HFIN.out
  · have q1 : Cts W3 (.slice (some ⟨g, 0, none⟩) len cap) qs := .inr ⟨g, len, cap, rfl, h1, h2, h3, h4, h5⟩
    by_cases hle : n ≤ len
    · have HFIN : Hid (Q (.returned (.tuple #[.slice (some ⟨g, 0, none⟩) n cap, .nilIface])) W3) := by
        show Q _ _
        rw [HQ.out]
        exact ⟨_, qs, rfl, q1.take n hle, q2, q3, q4⟩
      have hm : min (n : Int) (len : Int) = (n : Int) := by omega
      have hc1 : (n : Int) ≤ (cap : Int) := by omega
      have hc2 : n ≤ cap := by omega
      clear q1 q2 q3 q4 hc hr h5 h3 h4
      go_wp2_with fail
      exact HFIN.out
    · have HFIN : Hid (Q (.returned (.tuple #[.slice (some ⟨g, 0, none⟩) len cap, .nilIface])) W3) := by
        show Q _ _
        rw [HQ.out]
        refine ⟨_, qs, rfl, ?_, q2, q3, q4⟩
        rw [List.take_of_length_le (by omega)]
        exact q1
      have hm : min (n : Int) (len : Int) = (len : Int) := by omega
      have hc1 : (len : Int) ≤ (cap : Int) := by omega
      clear q1 q2 q3 q4 hc hr h5 h3 h4
      go_wp2_with fail
      exact HFIN.out
end Go.Proofs.YtchailjgikjhlaaDoor
