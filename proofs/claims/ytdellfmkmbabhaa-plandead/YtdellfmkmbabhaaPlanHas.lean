/- Whether spans have a number, by the closure of 'fitting' (package plan). -/
import Derived.Test.YtdellfmkmbabhaaSpnHas
namespace Go.Proofs.Ytdellfmkmbabhaa
open Go.RowKit
set_option linter.unusedVariables false

theorem fpred_any (s : Sp) (n : Int) (B : Nat) (W : World) (hB : B < W.heap.size) (hc : W.cell? ⟨B, 0, none⟩ = some (.int .i64 n)) :
    Calls Try.prog 65 #[.agg #[.int .i64 s.1, .int .i64 s.2], .pointer (some ⟨B, 0, none⟩)] W fun e w' => e = .returned (.bool (insB s n)) ∧ Below W.heap.size W w' := by
  have hne : B ≠ W.heap.size := by omega
  have hb := (Below.refl W.heap.size W).alloc (Nat.le_refl _) (.cells #[.int .i64 s.1, .int .i64 s.2] 52)
  obtain ⟨r, hr⟩ : ∃ r, insB s n = r := ⟨_, rfl⟩
  rw [hr]
  obtain ⟨p, q⟩ := s
  simp only at hb ⊢
  have HR : Hid (insB (p, q) n = r) := hr
  clear hr
  by_cases h1 : p ≤ n
  · by_cases h2 : n ≤ q
    · have h3 : r = true := by rw [← HR.out]; simp [insB, h1, h2]
      subst h3
      go_enter Try.func65, Try.ntmps65
      go_wp2
      go_ret
      exact ⟨rfl, hb⟩
    · have h3 : r = false := by rw [← HR.out]; simp [insB, h2]
      subst h3
      go_enter Try.func65, Try.ntmps65
      go_wp2
      go_ret
      exact ⟨rfl, hb⟩
  · have h3 : r = false := by rw [← HR.out]; simp [insB, h1]
    subst h3
    go_enter Try.func65, Try.ntmps65
    go_wp2
    go_ret
    exact ⟨rfl, hb⟩
set_option maxHeartbeats 4000000 in
theorem fidx_any (v : Value) (l : List Sp) (n : Int) (B : Nat) (w : World) (hv : Spns w v l) (hN : l.length ≤ 140737488355328) (hB : B < w.heap.size) (hc : w.cell? ⟨B, 0, none⟩ = some (.int .i64 n)) :
    Calls Try.prog 71 #[v, .func (.func 65) #[] #[.pointer (some ⟨B, 0, none⟩)]] w fun e w' => ∃ z : Int, e = .returned (.int .i64 z) ∧ decide (0 ≤ z) = inB l n ∧ Below w.heap.size w w' := by
  obtain ⟨ao, co, rfl⟩ := hv.len
  obtain ⟨N, hNe⟩ : ∃ N, l.length = N := ⟨_, rfl⟩
  rw [hNe] at hv hN ⊢
  have HN : Hid (l.length = N) := hNe
  have HV : Hid (Spns w (.slice ao N co) l) := hv
  have HC : Hid (∀ W, Below w.heap.size w W → B < W.heap.size ∧ W.cell? ⟨B, 0, none⟩ = some (.int .i64 n)) := fun W hb => ⟨Nat.lt_of_lt_of_le hB hb.size, (hb.cell (p := ⟨B, 0, none⟩) hB).trans hc⟩
  obtain ⟨r, hr⟩ : ∃ r, inB l n = r := ⟨_, rfl⟩
  rw [hr]
  have HR : Hid (inB l n = r) := hr
  clear hv hNe hc hr
  go_enter Try.func71, Try.ntmps71
  go_wp2
  go_loopw [8] (fun i wr => ∃ k : Nat, k ≤ N ∧ i = .int .i64 (k : Int) ∧ Below w.heap.size w wr ∧ Hid (inB (l.take k) n = false)) (fun i _ => ((N : Int) - intOf i).toNat)
  case atStart => exact ⟨0, by omega, rfl, Below.refl _ _, rfl⟩
  case round =>
    obtain ⟨k, hk, rfl, hb, hO⟩ := hrel
    by_cases hlt : k < N
    · have hlt' : (k : Int) < (N : Int) := by omega
      have hkl : k < l.length := by rw [HN.out]; exact hlt
      obtain ⟨b, off, rfl, hbl, hcc, hcm, hcs⟩ := HV.out.shape (by omega)
      obtain ⟨c0, c1⟩ := (hcs k hkl).keep (hb.block b hbl)
      unfold maxLen at hcm
      obtain ⟨hBW, hcW⟩ := HC.out wr hb
      have hp := fpred_any l[k] n B wr hBW hcW
      have HT : Hid (inB (l.take (k + 1)) n = (inB (l.take k) n || insB l[k] n)) := insB_take hkl
      obtain ⟨s, hs⟩ : ∃ s, l[k] = s := ⟨_, rfl⟩
      have HS : Hid (l[k] ∈ l) := List.getElem_mem _
      rw [hs] at c0 c1 hp HT HS
      obtain ⟨t, ht⟩ : ∃ t, insB s n = t := ⟨_, rfl⟩
      rw [ht] at hp HT
      have HI : Hid (insB s n = t) := ht
      clear hs hcs ht hcW
      cases t with
      | true =>
        have h0 : r = true := by rw [← HR.out]; exact inB_iff.2 ⟨s, HS.out, insB_iff.1 HI.out⟩
        subst h0
        go_wp2_with (go_at_call 65; refine hp.mono ?_; rintro e w1 ⟨rfl, b1⟩)
        go_ret
        exact ⟨k, rfl, by simp, hb.trans (b1.mono hb.size)⟩
      | false =>
        go_wp2_with (go_at_call 65; refine hp.mono ?_; rintro e w1 ⟨rfl, b1⟩)
        go_roundw
        case rel => exact ⟨k + 1, by omega, by go_num, hb.trans (b1.mono hb.size), by rw [Hid, HT.out, hO.out]; rfl⟩
        case measure => simp [intOf]; omega
    · have hlt' : ¬ (k : Int) < (N : Int) := by omega
      have h0 : r = false := by
        rw [← HR.out]
        have := hO.out
        rw [List.take_of_length_le (by rw [HN.out]; omega)] at this
        exact this
      subst h0
      go_wp2
      go_ret
      exact ⟨-1, rfl, by decide, hb⟩
theorem fcon_any (v : Value) (l : List Sp) (n : Int) (B : Nat) (w : World) (hv : Spns w v l) (hN : l.length ≤ 140737488355328) (hB : B < w.heap.size) (hc : w.cell? ⟨B, 0, none⟩ = some (.int .i64 n)) :
    Calls Try.prog 64 #[v, .func (.func 65) #[] #[.pointer (some ⟨B, 0, none⟩)]] w fun e w' => e = .returned (.bool (inB l n)) ∧ Below w.heap.size w w' := by
  have hi := fidx_any v l n B w hv hN hB hc
  generalize inB l n = r at hi ⊢
  clear hv hc
  go_enter Try.func64, Try.ntmps64
  go_wp2_with (go_at_call 71; refine hi.mono ?_; rintro e w1 ⟨z, rfl, hz, b1⟩; subst hz)
  go_ret
  exact ⟨rfl, b1⟩
end Go.Proofs.Ytdellfmkmbabhaa
