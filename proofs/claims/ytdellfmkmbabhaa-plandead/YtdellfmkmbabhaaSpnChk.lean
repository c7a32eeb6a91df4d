/- What the program's Check of spans, 'has' and 'extend' return (package span). -/
import Derived.Test.YtdellfmkmbabhaaSpnAt
namespace Go.Proofs.Ytdellfmkmbabhaa
open Go.RowKit
set_option linter.unusedVariables false

def okB (s : Sp) : Bool := decide (0 ≤ s.1) && decide (s.1 ≤ s.2) && decide (s.2 ≤ 65535)
/-- The fault of spans. -/
def spE (l : List Sp) : Int := if 200 < l.length then 4 else if l.all (fun s => okB s) = true then 0 else 1
def erV (n : Int) : Value := if n = 0 then .nilIface else .iface 62 (.int .i64 n)
theorem okB_iff {s : Sp} : okB s = true ↔ 0 ≤ s.1 ∧ s.1 ≤ s.2 ∧ s.2 ≤ 65535 := by simp [okB, and_assoc]
theorem spE_ok {l : List Sp} (h : l.length ≤ 200) (hk : OkS l) : spE l = 0 := by
  unfold spE; rw [if_neg (by omega), if_pos (List.all_eq_true.2 (fun s hs => okB_iff.2 (hk s hs)))]
theorem of_spE {l : List Sp} (h : spE l = 0) : l.length ≤ 200 ∧ OkS l := by
  unfold spE at h
  split at h
  · cases h
  · split at h
    · rename_i h1 h2
      exact ⟨by omega, fun s hs => okB_iff.1 (List.all_eq_true.1 h2 s hs)⟩
    · cases h
theorem spE_full {l : List Sp} (h : 200 < l.length) : spE l = 4 := by unfold spE; rw [if_pos h]
theorem spE_bad {l : List Sp} (h : l.length ≤ 200) {k : Nat} (hk : k < l.length) (hb : okB l[k] = false) : spE l = 1 := by
  unfold spE
  rw [if_neg (by omega), if_neg]
  intro hall
  have := List.all_eq_true.1 hall l[k] (List.getElem_mem _)
  have h2 : okB l[k] = true := this
  rw [hb] at h2; cases h2

set_option maxHeartbeats 4000000 in
theorem spCheck_any (v : Value) (l : List Sp) (w : World) (hv : Spns w v l) (hN : l.length ≤ 140737488355328) :
    Calls Try.prog 34 #[v] w fun e w' => e = .returned (erV (spE l)) ∧ Below w.heap.size w w' := by
  obtain ⟨ao, co, rfl⟩ := hv.len
  obtain ⟨N, hNe⟩ : ∃ N, l.length = N := ⟨_, rfl⟩
  rw [hNe] at hv hN ⊢
  have HN : Hid (l.length = N) := hNe
  have HV : Hid (Spns w (.slice ao N co) l) := hv
  by_cases hf : 200 < N
  · have h4 : erV (spE l) = .iface 62 (.int .i64 4) := by rw [spE_full (by omega)]; rfl
    rw [h4]
    have hf' : (200 : Int) < (N : Int) := by omega
    clear hv hNe h4 HV
    go_enter Try.func34, Try.ntmps34
    go_wp2
    go_ret
    exact ⟨rfl, Below.refl _ _⟩
  have hf' : ¬ (200 : Int) < (N : Int) := by omega
  obtain ⟨er, hE⟩ : ∃ er, erV (spE l) = er := ⟨_, rfl⟩
  rw [hE]
  have HE : Hid (erV (spE l) = er) := hE
  clear hv hNe hE
  go_enter Try.func34, Try.ntmps34
  go_wp2
  go_loopw [11] (fun i wr => ∃ k : Nat, k ≤ N ∧ i = .int .i64 (k : Int) ∧ Below w.heap.size w wr ∧ Hid (∀ j (h : j < l.length), j < k → okB l[j] = true)) (fun i _ => ((N : Int) - intOf i).toNat)
  case atStart => exact ⟨0, by omega, rfl, Below.refl _ _, fun j _ hj => by omega⟩
  case round =>
    obtain ⟨k, hk, rfl, hb, hO⟩ := hrel
    by_cases hlt : k < N
    · have hlt' : (k : Int) < (N : Int) := by omega
      have hkl : k < l.length := by rw [HN.out]; exact hlt
      obtain ⟨b, off, rfl, hbl, hcc, hcm, hc⟩ := HV.out.shape (by omega)
      obtain ⟨c0, c1⟩ := (hc k hkl).keep (hb.block b hbl)
      unfold maxLen at hcm
      obtain ⟨s, hs⟩ : ∃ s, l[k] = s := ⟨_, rfl⟩
      rw [hs] at c0 c1
      have HS : Hid (l[k] = s) := hs
      have hbb := (Below.refl w.heap.size w)
      have hb2 := hb.alloc hb.size (.cells #[.int .i64 s.1, .int .i64 s.2] 52)
      obtain ⟨p, q⟩ := s
      simp only at c0 c1 hb2
      clear hs hc hbb
      by_cases h1 : p < 0
      · have h0 : erV 1 = er := by rw [← HE.out, spE_bad (by rw [HN.out]; omega) hkl (by rw [HS.out]; simp [okB]; omega)]
        go_wp2
        go_ret
        exact ⟨by rw [← h0]; rfl, hb2⟩
      · by_cases h2 : q < p
        · have h0 : erV 1 = er := by rw [← HE.out, spE_bad (by rw [HN.out]; omega) hkl (by rw [HS.out]; simp [okB]; omega)]
          go_wp2
          go_ret
          exact ⟨by rw [← h0]; rfl, hb2⟩
        · by_cases h3 : 65535 < q
          · have h0 : erV 1 = er := by rw [← HE.out, spE_bad (by rw [HN.out]; omega) hkl (by rw [HS.out]; simp [okB]; omega)]
            go_wp2
            go_ret
            exact ⟨by rw [← h0]; rfl, hb2⟩
          · go_wp2
            go_roundw
            case rel =>
              refine ⟨k + 1, by omega, by go_num, hb2, fun j h hj => ?_⟩
              by_cases hjk : j < k
              · exact hO.out j h hjk
              · obtain rfl : j = k := by omega
                rw [HS.out]; simp [okB]; omega
            case measure => simp [intOf]; omega
    · have hlt' : ¬ (k : Int) < (N : Int) := by omega
      have h0 : erV 0 = er := by
        rw [← HE.out]
        rw [spE_ok (by rw [HN.out]; omega) (fun s hs => ?_)]
        obtain ⟨j, hj, rfl⟩ := List.getElem_of_mem hs
        exact okB_iff.1 (hO.out j hj (by have := HN.out; omega))
      go_wp2
      go_ret
      exact ⟨by rw [← h0]; rfl, hb⟩
end Go.Proofs.Ytdellfmkmbabhaa
