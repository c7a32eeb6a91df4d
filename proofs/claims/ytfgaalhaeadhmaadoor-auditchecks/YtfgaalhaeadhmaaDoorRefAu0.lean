/- What the reference's Time (portref2) and Master (portref3) return. -/
import Derived.Test.YtfgaalhaeadhmaaDoorAuM2
import Derived.Test.YtfgaalhaeadhmaaDoorAuWr
import Derived.Test.YtfgaalhaeadhmaaDoorAuLd
namespace Go.Proofs.YtfgaalhaeadhmaaDoor
open Go.RowKit
set_option linter.unusedVariables false

theorem auTime_any (t : Int) (w : World) : Calls Tryd.prog 32 #[.int .i64 t] w fun e w' => e = .returned (.bool (decide (0 ≤ t ∧ t ≤ 1000000))) ∧ w' = w := by
  by_cases h0 : 0 ≤ t
  · by_cases h1 : t ≤ 1000000
    · rw [show decide (0 ≤ t ∧ t ≤ 1000000) = true from decide_eq_true ⟨h0, h1⟩]
      go_enter Tryd.func32, Tryd.ntmps32
      go_wp2_with fail
      go_ret
      exact ⟨rfl, rfl⟩
    · rw [show decide (0 ≤ t ∧ t ≤ 1000000) = false from decide_eq_false (by omega)]
      go_enter Tryd.func32, Tryd.ntmps32
      go_wp2_with fail
      go_ret
      exact ⟨rfl, rfl⟩
  · rw [show decide (0 ≤ t ∧ t ≤ 1000000) = false from decide_eq_false (by omega)]
    go_enter Tryd.func32, Tryd.ntmps32
    go_wp2_with fail
    go_ret
    exact ⟨rfl, rfl⟩
set_option maxRecDepth 100000 in
set_option maxHeartbeats 16000000 in
theorem master_any (es : List Ev) (v : Value) (w : World) (hl : es.length ≤ 1000) (hv : Evs w v es) : Calls Tryd.prog 33 #[v] w fun e w' => e = .returned (.int .i64 (stA es es.length).2) ∧ Below w.heap.size w w' := by
  obtain ⟨Q, hQ⟩ : ∃ Q : Ending → World → Prop, Q = fun e w' => e = .returned (.int .i64 (stA es es.length).2) ∧ Below w.heap.size w w' := ⟨_, rfl⟩
  have HQ : Hid (∀ w' z, z = (stA es es.length).2 → Below w.heap.size w w' → Q (.returned (.int .i64 z)) w') := by rw [hQ]; intro w' z h1 h2; rw [h1]; exact ⟨rfl, h2⟩
  rw [← hQ]
  clear hQ
  obtain ⟨ao, co, rfl⟩ := hv.len
  have HV := hidA hv
  obtain ⟨N, hN⟩ : ∃ N, es.length = N := ⟨_, rfl⟩
  have HN := hidA hN
  rw [hN] at HV hl ⊢
  have hl' : (N : Int) ≤ 1000 := by omega
  clear hv hN hl
  go_enter Tryd.func33, Tryd.ntmps33
  go_wp2_with fail
  go_loopw [3] (fun i wr => ∃ (j : Nat) (z : Int), j ≤ N ∧ i = .int .i64 z ∧ z = (j : Int) - 1 ∧ (∀ q (h : q < es.length), j ≤ q → ¬ es[q].what = 3 ∧ ¬ es[q].what = 4) ∧ Below w.heap.size w wr) (fun i _ => (intOf i + 1).toNat)
  case atStart => exact ⟨N, _, Nat.le_refl _, rfl, by first | rfl | (try unfold wrap64; omega) | simp, fun q h hq => absurd h (by rw [HN.out]; omega), Below.refl _ _⟩
  case round =>
    obtain ⟨j, z, hj, rfl, hz, hno, hb⟩ := hrel
    have HNo := hidA hno
    have HB := hidA hb
    clear hno hb
    rcases Nat.eq_zero_or_pos j with hj0 | hj0
    · subst hj0
      obtain rfl : z = -1 := by omega
      clear hz
      have HR := hidA (st_back (es := es) es.length 0 (by omega) (fun i hi hk => HNo.out i hi (by omega)))
      go_wp2_with fail
      exact HQ.out _ (-1) (by rw [HR.out]; rfl) HB.out
    · obtain ⟨k, rfl⟩ : ∃ k, j = k + 1 := ⟨j - 1, by omega⟩
      clear hj0
      obtain rfl : z = (k : Int) := by omega
      clear hz
      have hk : k < es.length := by rw [HN.out]; omega
      obtain ⟨c1, c2, b, off, rfl⟩ := HV.out.capOk (by omega)
      have hcs := (HV.out.below HB.out).cells k hk
      obtain ⟨q0, q1, q2, _⟩ := hcs
      have HS := hidA (st_back (es := es) (es.length - (k + 1)) (k + 1) (by omega) (fun i hi hk => HNo.out i hi hk))
      have HS1 := hidA (stA_succ hk)
      obtain ⟨p, hp⟩ : ∃ p, es[k] = p := ⟨_, rfl⟩
      have HP := hidA hp
      rw [hp] at q0 q1 q2 HS1
      clear hp
      unfold nxE at HS1
      have hkN : (k : Int) < (N : Int) := by have := HN.out; omega
      have hkN' : k < N := by have := HN.out; omega
      rcases (by omega : p.what = 3 ∨ p.what = 4 ∨ (¬ p.what = 3 ∧ ¬ p.what = 4)) with i3 | i3 | ⟨i3, i4⟩
      · rw [i3] at q2
        rw [if_pos i3] at HS1
        clear i3
        go_wp2_with fail
        exact HQ.out _ p.node (by rw [HS.out, HS1.out]) HB.out
      · rw [if_neg (by omega), if_pos i3] at HS1
        rw [i3] at q2
        clear i3
        go_wp2_with fail
        exact HQ.out _ (-1) (by rw [HS.out, HS1.out]) HB.out
      · have H3 := hidA i3
        have H4 := hidA i4
        obtain ⟨x, hx⟩ : ∃ x, p.what = x := ⟨_, rfl⟩
        rw [hx] at q2 i3 i4
        clear hx
        have i3b : (x == 3) = false := by simpa using i3
        have i4b : (x == 4) = false := by simpa using i4
        clear i3 i4
        go_wp2_with fail
        go_roundw
        case rel => exact ⟨k, _, by omega, rfl, by omega, fun q h hq => by
          rcases Nat.lt_or_ge k q with h1 | h1
          · exact HNo.out q h (by omega)
          · obtain rfl : q = k := by omega
            rw [HP.out]; exact ⟨H3.out, H4.out⟩, HB.out⟩
        case measure => first | (simp [intOf]; done) | (simp [intOf]; omega)
end Go.Proofs.YtfgaalhaeadhmaaDoor
