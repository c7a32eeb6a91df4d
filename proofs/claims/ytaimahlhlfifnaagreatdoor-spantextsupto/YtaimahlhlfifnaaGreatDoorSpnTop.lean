/- What the program's Norm, Join, Meet, Less, Not, Has and Many return (package span). -/
import Derived.Test.YtaimahlhlfifnaaGreatDoorSpnCho
namespace Go.Proofs.YtaimahlhlfifnaaGreatDoor
open Go.RowKit
set_option linter.unusedVariables false

theorem spE_nil : spE [] = 0 := rfl
theorem chE_nil (l : List Sp) : chE l [] = spE l := by
  unfold chE; split
  · rename_i h; rw [h, spE_nil]
  · rfl
theorem norm1_any (x y : Bool) (W : World) : Calls Tryz.prog 36 #[.bool x, .bool y] W fun e w' => e = .returned (.bool x) ∧ w' = W := by
  go_enter Tryz.func36, Tryz.ntmps36
  go_wp2
  go_ret
  exact ⟨rfl, rfl⟩
theorem norm_any (v : Value) (l : List Sp) (w : World) (hv : Spns w v l) (hn : l.length ≤ 140737488355328) :
    Calls Tryz.prog 19 #[v] w fun e w' => ∃ v', e = .returned (.tuple #[v', erV (spE l)]) ∧ OwnSp w' w.heap.size v' (resL (spE l) (inB l)) ∧ Below w.heap.size w w' := by
  have eg : ∀ args w, (callFunc 36 args).run Tryz.prog w = .ok (.enter 36 args) w := enters_of Tryz.func36 (by kernel_rfl) rfl
  have hc := choose_any 36 (fun x _ => x) eg norm1_any v (.slice none 0 0) l [] w hv (Spns.nil _ _ _) hn (by simp)
  rw [chE_nil] at hc
  have e : (fun n => (fun (x _ : Bool) => x) (inB l n) (inB [] n)) = inB l := rfl
  rw [e] at hc
  generalize resL (spE l) (inB l) = R at hc ⊢
  generalize erV (spE l) = er at hc ⊢
  clear hv e
  go_enter Tryz.func19, Tryz.ntmps19
  go_wp2_with (go_at_call 29; refine hc.mono ?_; rintro e w1 ⟨v1, rfl, own1, b1⟩)
  go_ret2
  exact ⟨v1, rfl, own1, b1⟩
theorem Has_any (v : Value) (l : List Sp) (n : Int) (w : World) (hv : Spns w v l) (hn : l.length ≤ 140737488355328) :
    Calls Tryz.prog 16 #[v, .int .i64 n] w fun e w' => e = .returned (.bool (decide (spE l = 0) && inB l n)) ∧ Below w.heap.size w w' := by
  have hc := spCheck_any v l w hv hn
  have hh := fun W (h : Below w.heap.size w W) => has_any v l n W (hv.below h) hn
  by_cases h0 : spE l = 0
  · rw [h0, erV_0] at hc
    have e : (decide (spE l = 0) && inB l n) = inB l n := by rw [decide_eq_true h0, Bool.true_and]
    rw [e]
    generalize inB l n = r at hh ⊢
    clear e h0 hv
    go_enter Tryz.func16, Tryz.ntmps16
    go_wp2_with (first
      | (go_at_call 33; refine hc.mono ?_; rintro e w1 ⟨rfl, b1⟩)
      | (go_at_call 34; refine (hh _ b1).mono ?_; rintro e w2 ⟨rfl, b2⟩))
    go_ret
    exact ⟨rfl, b1.trans (b2.mono b1.size)⟩
  · rw [erV_n h0] at hc
    have e : (decide (spE l = 0) && inB l n) = false := by rw [decide_eq_false h0, Bool.false_and]
    rw [e]
    generalize spE l = z at hc
    clear e h0 hv hh
    go_enter Tryz.func16, Tryz.ntmps16
    go_wp2_with (go_at_call 33; refine hc.mono ?_; rintro e w1 ⟨rfl, b1⟩)
    go_ret
    exact ⟨rfl, b1⟩
def manyE (l : List Sp) : Int := if spE l = 0 then cnt (inB l) else 0
theorem manyL_take {R : List Sp} {k : Nat} (hk : k < R.length) : manyL (R.take (k + 1)) = manyL (R.take k) + (R[k].2 - R[k].1 + 1) := by
  rw [List.take_succ_eq_append_getElem hk, manyL_snoc]
theorem manyL_bd {R : List Sp} (h : Nrm R) (k : Nat) : 0 ≤ manyL (R.take k) ∧ manyL (R.take k) ≤ 65536 := by
  have e := List.take_append_drop k R
  have h1 := manyL_pre (a := R.take k) (b := R.drop k) (by rw [e]; exact h.1)
  rw [e] at h1
  have := manyL_le h
  omega
set_option maxHeartbeats 4000000 in
theorem many_any (v : Value) (l : List Sp) (w : World) (hv : Spns w v l) (hn : l.length ≤ 140737488355328) :
    Calls Tryz.prog 17 #[v] w fun e w' => e = .returned (.int .i64 (manyE l)) ∧ Below w.heap.size w w' := by
  have hc := norm_any v l w hv hn
  by_cases h0 : spE l = 0
  case neg =>
    have e : manyE l = 0 := by unfold manyE; rw [if_neg h0]
    rw [e]
    rw [erV_n h0] at hc
    generalize spE l = z at hc
    clear e h0 hv
    go_enter Tryz.func17, Tryz.ntmps17
    go_wp2_with (go_at_call 19; refine hc.mono ?_; rintro e w1 ⟨v1, rfl, own1, b1⟩)
    go_ret
    exact ⟨rfl, b1⟩
  case pos =>
  have hR := (setP_is (inB l)).1
  have hm := setP_many (inB l)
  obtain ⟨R, hRe⟩ : ∃ R, setP (inB l) = R := ⟨_, rfl⟩
  have e : manyE l = manyL R := by unfold manyE; rw [if_pos h0, ← hm, hRe]
  rw [e]
  rw [h0, erV_0, resL_0, hRe] at hc
  rw [hRe] at hR
  have hlen : R.length ≤ 200 := by rw [← hRe]; have := setP_few (of_spE h0).2; have := (of_spE h0).1; omega
  obtain ⟨N, hN⟩ : ∃ N, R.length = N := ⟨_, rfl⟩
  have hc := hc.mono (R' := fun e w' => ∃ a1 c1, e = .returned (.tuple #[.slice a1 N c1, .nilIface]) ∧ Spns w' (.slice a1 N c1) R ∧ Below w.heap.size w w') (fun e w' h => by
    obtain ⟨v1, rfl, own1, b1⟩ := h
    obtain ⟨a1, c1, rfl⟩ := own1.len
    rw [hN] at own1 ⊢
    exact ⟨a1, c1, rfl, own1.spns, b1⟩)
  rw [hN] at hlen
  have HN : Hid (R.length = N) := hN
  have HR : Hid (Nrm R) := hR
  obtain ⟨z, hz⟩ : ∃ z, manyL R = z := ⟨_, rfl⟩
  rw [hz]
  have HZ : Hid (manyL R = z) := hz
  clear hR hm hRe e h0 hv hN hz
  go_enter Tryz.func17, Tryz.ntmps17
  go_wp2_with (go_at_call 19; refine hc.mono ?_; rintro e w1 ⟨a1, c1, rfl, sp1, b1⟩)
  have H1 : Hid (Spns w1 (.slice a1 N c1) R) := sp1
  clear sp1
  go_loopw [5, 17] (fun m i wr => ∃ k : Nat, k ≤ N ∧ i = .int .i64 (k : Int) ∧ m = .int .i64 (manyL (R.take k)) ∧ Below w1.heap.size w1 wr) (fun _ i _ => ((N : Int) - intOf i).toNat)
  case atStart => exact ⟨0, by omega, rfl, rfl, Below.refl _ _⟩
  case round =>
    obtain ⟨k, hk, rfl, rfl, hb⟩ := hrel
    by_cases hlt : k < N
    · have hlt' : (k : Int) < (N : Int) := by omega
      have hkl : k < R.length := by rw [HN.out]; exact hlt
      obtain ⟨b, off, rfl, hbl, hcc, hcm, hcs⟩ := H1.out.shape (by omega)
      obtain ⟨c0, c1'⟩ := (hcs k hkl).keep (hb.block b hbl)
      unfold maxLen at hcm
      have hm0 := manyL_bd HR.out k
      have HM : Hid (manyL (R.take (k + 1)) = manyL (R.take k) + (R[k].2 - R[k].1 + 1)) := manyL_take hkl
      have hok := HR.out.1 R[k] (List.getElem_mem _)
      generalize R[k] = s at c0 c1' HM hok
      obtain ⟨p, q⟩ := s
      simp only at c0 c1' hok
      have hb2 := hb.alloc hb.size (.cells #[.int .i64 p, .int .i64 q] 38)
      generalize manyL (R.take k) = m at hm0 HM ⊢
      obtain ⟨m0, m1⟩ := hm0
      obtain ⟨o0, o1, o2⟩ := hok
      clear hcs hc
      go_wp2
      go_roundw
      case rel => exact ⟨k + 1, by omega, by go_num, by rw [HM.out], hb2⟩
      case measure => simp [intOf]; omega
    · have hlt' : ¬ (k : Int) < (N : Int) := by omega
      have hT : manyL (R.take k) = z := by rw [List.take_of_length_le (by rw [HN.out]; omega)]; exact HZ.out
      rw [hT]
      clear hc hT
      go_wp2
      go_ret
      exact ⟨rfl, b1.trans (hb.mono b1.size)⟩
end Go.Proofs.YtaimahlhlfifnaaGreatDoor
