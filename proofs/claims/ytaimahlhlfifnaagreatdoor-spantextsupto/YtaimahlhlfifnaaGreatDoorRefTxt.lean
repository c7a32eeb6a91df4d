/- What the reference's ShowSpans returns (package portref1). -/
import Derived.Test.YtaimahlhlfifnaaGreatDoorSpnTM
import Derived.Test.YtaimahlhlfifnaaGreatDoorRefNrm
import Derived.Test.YtaimahlhlfifnaaGreatDoorCut
namespace Go.Proofs.YtaimahlhlfifnaaGreatDoor
open Go.RowKit
set_option linter.unusedVariables false
set_option maxRecDepth 4000

theorem join_snoc (xs : List (List UInt8)) (x : List UInt8) (h : xs ≠ []) : Lib.join (xs ++ [x]) [44] = Lib.join xs [44] ++ [44] ++ x := by
  cases xs with
  | nil => exact absurd rfl h
  | cons y r => rw [List.cons_append, Lib.join_cons, Lib.join_cons]; simp [Lib.joinTail]
theorem mk44 : (⟨#[44]⟩ : ByteArray) = mkB [44] := rfl
theorem mkE_app (b : ByteArray) : (⟨#[]⟩ : ByteArray) ++ b = b := by apply ByteArray.ext; simp [ByteArray.data_append]
theorem mkE : (⟨#[]⟩ : ByteArray) = mkB [] := rfl
set_option maxHeartbeats 8000000 in
theorem refShow_any (v : Value) (R : List Sp) (w : World) (hv : Spns w v R) (hN : R.length ≤ 200) (hk : OkS R) :
    Calls Tryz.prog 6 #[v] w fun e w' => e = .returned (.string (mkB (textL R))) ∧ Below w.heap.size w w' := by
  obtain ⟨ao, co, rfl⟩ := hv.len
  obtain ⟨N, hNe⟩ : ∃ N, R.length = N := ⟨_, rfl⟩
  rw [hNe] at hv hN ⊢
  have HN : Hid (R.length = N) := hNe
  have HV : Hid (Spns w (.slice ao N co) R) := hv
  have HK : Hid (OkS R) := hk
  rcases Nat.eq_zero_or_pos N with hz | hz
  · have hzz : R = [] := List.length_eq_zero_iff.1 (by omega)
    subst hzz hz
    have e : textL [] = [45] := rfl
    rw [e]
    clear hv hNe hk HV HK e
    go_enter Tryz.func6, Tryz.ntmps6
    go_wp2
    go_ret
    exact ⟨rfl, Below.refl _ _⟩
  have hne : ¬ R = [] := fun e => by subst e; simp at hNe; omega
  have HT : Hid (textL R = Lib.join ((R.take N).map wordL) [44]) := by
    unfold Hid textL
    rw [if_neg hne, List.take_of_length_le (by omega)]
  obtain ⟨tx, htx⟩ : ∃ tx, mkB (textL R) = tx := ⟨_, rfl⟩
  rw [htx]
  have HTX : Hid (mkB (Lib.join ((R.take N).map wordL) [44]) = tx) := by rw [Hid, ← HT.out]; exact htx
  have hz0 : ((N : Int) == 0) = false := by simp; omega
  clear hv hNe hk hne HT htx
  go_enter Tryz.func6, Tryz.ntmps6
  go_wp2
  go_loopw [3, 4] (fun sv i wr => ∃ (k : Nat) (st : ByteArray), k ≤ N ∧ i = .int .i64 (k : Int) ∧ sv = .string st ∧ st.size ≤ 100000000 ∧ Below w.heap.size w wr ∧ Hid (st = mkB (Lib.join ((R.take k).map wordL) [44]))) (fun _ i _ => ((N : Int) - intOf i).toNat)
  case atStart => exact ⟨0, ⟨#[]⟩, by omega, rfl, rfl, by decide, Below.refl _ _, rfl⟩
  case round =>
    obtain ⟨k, st, hkN, rfl, rfl, hst, hb, hS⟩ := hrel
    by_cases hlt : k < N
    · have hlt' : (k : Int) < (N : Int) := by omega
      have hk0 : (0 : Int) ≤ (k : Int) := by omega
      have hkl : k < R.length := by rw [HN.out]; exact hlt
      obtain ⟨b, off, rfl, hbl, hcc, hcm, hcs⟩ := HV.out.shape (by omega)
      obtain ⟨c0, c1⟩ := (hcs k hkl).keep (hb.block b hbl)
      unfold maxLen at hcm
      have hok := HK.out R[k] (List.getElem_mem _)
      have HM : Hid (((R.take (k + 1)).map wordL) = ((R.take k).map wordL) ++ [wordL R[k]]) := by
        rw [Hid, List.take_succ_eq_append_getElem hkl, List.map_append]; rfl
      have hsz : (mkB (Lib.join ((R.take (k + 1)).map wordL) [44])).size ≤ 100000000 := by
        rw [mkB_size]
        have := join_len ((R.take (k + 1)).map wordL) 200000 (fun x hx => by
          obtain ⟨s, hs, rfl⟩ := List.mem_map.1 hx
          have := HK.out s (List.mem_of_mem_take hs)
          exact wordL_len this.1 this.2.1 this.2.2)
        have h2 : ((R.take (k + 1)).map wordL).length ≤ 200 := by rw [List.length_map, List.length_take]; omega
        have h3 := Nat.mul_le_mul_right (200000 + 1) h2
        omega
      have HSZ : Hid ((mkB (Lib.join ((R.take (k + 1)).map wordL) [44])).size ≤ 100000000) := hsz
      generalize R[k] = t at c0 c1 hok HM
      obtain ⟨p, q⟩ := t
      simp only at c0 c1 hok
      obtain ⟨o0, o1, o2⟩ := hok
      have hd1 := fun W => digits_any p W o0 (by omega)
      have hd2 := fun W => digits_any q W (by omega) (by omega)
      have hl1 := digL_len p.toNat
      have hl2 := digL_len q.toNat
      have hs1 : (mkB (digL p.toNat)).size ≤ 65536 := by rw [mkB_size]; omega
      have hs2 : (mkB (digL q.toNat)).size ≤ 65536 := by rw [mkB_size]; omega
      have HB : Hid (Below w.heap.size w wr) := hb
      have HW0 : Hid (k = 0 → mkB (Lib.join ((R.take (k + 1)).map wordL) [44]) = mkB (wordL (p, q)) ∧ st = ⟨#[]⟩) := fun h0 => by
        subst h0
        refine ⟨by rw [HM.out]; simp [Lib.join_one], by rw [hS.out]; rfl⟩
      have HW1 : Hid (0 < k → mkB (Lib.join ((R.take (k + 1)).map wordL) [44]) = st ++ ⟨#[44]⟩ ++ mkB (wordL (p, q))) := fun h0 => by
        rw [HM.out, join_snoc _ _ (fun e => by have := congrArg List.length e; rw [List.length_map, List.length_take, List.length_nil] at this; omega), hS.out, mk44, mkB_append, mkB_append]
      have HE1 : Hid (p = q → mkB (wordL (p, q)) = mkB (digL p.toNat)) := fun e => by unfold wordL; rw [if_pos (show (p, q).1 = (p, q).2 from e)]
      have HE2 : Hid (¬ p = q → mkB (wordL (p, q)) = mkB (digL p.toNat) ++ ⟨#[45]⟩ ++ mkB (digL q.toNat)) := fun e => by unfold wordL; rw [if_neg (show ¬ (p, q).1 = (p, q).2 from e), mk45, mkB_append, mkB_append]
      obtain ⟨nx, hnx⟩ : ∃ nx, mkB (Lib.join ((R.take (k + 1)).map wordL) [44]) = nx := ⟨_, rfl⟩
      have HNX : Hid (nx = mkB (Lib.join ((R.take (k + 1)).map wordL) [44])) := hnx.symm
      rw [hnx] at HSZ HW0 HW1 hsz
      clear hnx
      generalize mkB (wordL (p, q)) = wd at HW0 HW1 HE1 HE2
      generalize mkB (digL p.toNat) = sp at hd1 hs1 HE1 HE2
      generalize mkB (digL q.toNat) = sq at hd2 hs2 HE2
      clear hcs hb hl1 hl2
      by_cases hk1 : 0 < k
      · have hk1' : (0 : Int) < (k : Int) := by omega
        by_cases he : p = q
        · have HX0 : Hid True := trivial
          have HX : Hid ((st ++ ⟨#[44]⟩ ++ sp) = nx) := by
            rw [Hid]
            rw [HW1.out (by omega), HE1.out he]
          clear HW0 HW1 HE1 HE2 HX0
          subst he
          have hlt2 : ¬ p < p := by omega
          have hg : decide (p < p) = false := decide_eq_false (by omega)
          go_upto_region 11 with (go_at_call 21; go_must (refine (hd1 _).mono ?_; rintro e wr ⟨rfl, rfl⟩))
          clear hd1
          go_big_quiet (fail)
          go_wp2_with fail
          go_roundw
          case rel => exact ⟨k + 1, (st ++ ⟨#[44]⟩ ++ sp), by omega, by go_num, rfl, by rw [HX.out]; exact HSZ.out, below_drewN HB.out _, by rw [Hid, HX.out]; exact HNX.out⟩
          case measure => simp [intOf]; omega
        · have hlt2 : p < q := by omega
          have hg : decide (p < q) = true := decide_eq_true hlt2
          have HX : Hid ((st ++ ⟨#[44]⟩ ++ sp ++ ⟨#[45]⟩ ++ sq) = nx) := by
            rw [Hid]
            rw [HW1.out (by omega), HE2.out he]; simp only [ByteArray.append_assoc]
          clear HW0 HW1 HE1 HE2
          go_upto_region 11 with (go_at_call 21; go_must (refine (hd1 _).mono ?_; rintro e wr ⟨rfl, rfl⟩))
          clear hd1
          go_big_quiet (fail)
          go_wp2_with (go_at_call 21; go_must (refine (hd2 _).mono ?_; rintro e wq ⟨rfl, rfl⟩))
          go_roundw
          case rel => exact ⟨k + 1, (st ++ ⟨#[44]⟩ ++ sp ++ ⟨#[45]⟩ ++ sq), by omega, by go_num, rfl, by rw [HX.out]; exact HSZ.out, below_drewN HB.out _, by rw [Hid, HX.out]; exact HNX.out⟩
          case measure => simp [intOf]; omega
      · have hk1' : ¬ (0 : Int) < (k : Int) := by omega
        by_cases he : p = q
        · have HX0 : Hid True := trivial
          have HX : Hid ((st ++ sp) = nx) := by
            rw [Hid]
            obtain ⟨h1, h2⟩ := HW0.out (by omega); rw [h1, HE1.out he, h2, mkE_app]
          clear HW0 HW1 HE1 HE2 HX0
          subst he
          have hlt2 : ¬ p < p := by omega
          have hg : decide (p < p) = false := decide_eq_false (by omega)
          go_upto_region 11 with (go_at_call 21; go_must (refine (hd1 _).mono ?_; rintro e wr ⟨rfl, rfl⟩))
          clear hd1
          go_big_quiet (fail)
          go_wp2_with fail
          go_roundw
          case rel => exact ⟨k + 1, (st ++ sp), by omega, by go_num, rfl, by rw [HX.out]; exact HSZ.out, below_drewN HB.out _, by rw [Hid, HX.out]; exact HNX.out⟩
          case measure => simp [intOf]; omega
        · have hlt2 : p < q := by omega
          have hg : decide (p < q) = true := decide_eq_true hlt2
          have HX : Hid ((st ++ sp ++ ⟨#[45]⟩ ++ sq) = nx) := by
            rw [Hid]
            obtain ⟨h1, h2⟩ := HW0.out (by omega); rw [h1, HE2.out he, h2, mkE_app]
          clear HW0 HW1 HE1 HE2
          go_upto_region 11 with (go_at_call 21; go_must (refine (hd1 _).mono ?_; rintro e wr ⟨rfl, rfl⟩))
          clear hd1
          go_big_quiet (fail)
          go_wp2_with (go_at_call 21; go_must (refine (hd2 _).mono ?_; rintro e wq ⟨rfl, rfl⟩))
          go_roundw
          case rel => exact ⟨k + 1, (st ++ sp ++ ⟨#[45]⟩ ++ sq), by omega, by go_num, rfl, by rw [HX.out]; exact HSZ.out, below_drewN HB.out _, by rw [Hid, HX.out]; exact HNX.out⟩
          case measure => simp [intOf]; omega
    · have hlt' : ¬ (k : Int) < (N : Int) := by omega
      have e : k = N := by omega
      have hst2 : st = tx := by rw [hS.out, e]; exact HTX.out
      subst hst2
      clear e
      go_wp2
      go_ret
      exact ⟨rfl, hb⟩
end Go.Proofs.YtaimahlhlfifnaaGreatDoor
