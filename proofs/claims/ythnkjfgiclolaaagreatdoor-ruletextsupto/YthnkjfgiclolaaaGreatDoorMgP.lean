/- What the reference's ShowSpans returns (package portref1). -/
import Derived.Test.YthnkjfgiclolaaaGreatDoorMgW
import Derived.Test.YthnkjfgiclolaaaGreatDoorMgM
import Derived.Test.YthnkjfgiclolaaaGreatDoorMgO
import Derived.Laws.ResultCell
import Derived.Deep.DeepCutAuto
import Derived.Outline
import Derived.Test.YthnkjfgiclolaaaGreatDoorMgF
namespace Go.Proofs.YthnkjfgiclolaaaGreatDoor
open Go.RowKit
set_option linter.unusedVariables false
set_option maxRecDepth 4000

theorem join_snoc (xs : List (List UInt8)) (x : List UInt8) (h : xs ≠ []) : Lib.join (xs ++ [x]) [44] = Lib.join xs [44] ++ [44] ++ x := by
  cases xs with
  | nil => exact absurd rfl h
  | cons y r => rw [List.cons_append, Lib.join_cons, Lib.join_cons]; simp [Lib.joinTail]
theorem mk44 : (⟨#[44]⟩ : ByteArray) = mkB [44] := rfl
theorem mkE_app (b : ByteArray) : (⟨#[]⟩ : ByteArray) ++ b = b := by apply ByteArray.ext; simp [ByteArray.data_append]
theorem mkE : (⟨#[]⟩ : ByteArray) = mkB [] := rfl
set_option maxHeartbeats 8000000 in
theorem refShow_any (v : Value) (R : List Sp) (w : World) (hv : Spns w v R) (hN : R.length ≤ 200) (hk : OkS R) :
    Calls Tryz.prog 18 #[v] w fun e w' => e = .returned (.string (mkB (textL R))) ∧ Below w.heap.size w w' := by
  obtain ⟨ao, co, rfl⟩ := hv.len
  obtain ⟨N, hNe⟩ : ∃ N, R.length = N := ⟨_, rfl⟩
  rw [hNe] at hv hN ⊢
  have HN : Hid (R.length = N) := hNe
  have HV : Hid (Spns w (.slice ao N co) R) := hv
  have HK : Hid (OkS R) := hk
  rcases Nat.eq_zero_or_pos N with hz | hz
  · have hzz : R = [] := List.length_eq_zero_iff.1 (by omega)
    subst hzz hz
    have e : textL [] = [45] := rfl
    rw [e]
    clear hv hNe hk HV HK e
    go_enter Tryz.func18, Tryz.ntmps18
    go_wp2
    go_ret
    exact ⟨rfl, Below.refl _ _⟩
  have hne : ¬ R = [] := fun e => by subst e; simp at hNe; omega
  have HT : Hid (textL R = Lib.join ((R.take N).map wordL) [44]) := by
    unfold Hid textL
    rw [if_neg hne, List.take_of_length_le (by omega)]
  obtain ⟨tx, htx⟩ : ∃ tx, mkB (textL R) = tx := ⟨_, rfl⟩
  rw [htx]
  have HTX : Hid (mkB (Lib.join ((R.take N).map wordL) [44]) = tx) := by rw [Hid, ← HT.out]; exact htx
  have hz0 : ((N : Int) == 0) = false := by simp; omega
  clear hv hNe hk hne HT htx
  go_enter Tryz.func18, Tryz.ntmps18
  go_wp2
  go_loopw [3, 4] (fun sv i wr => ∃ (k : Nat) (st : ByteArray), k ≤ N ∧ i = .int .i64 (k : Int) ∧ sv = .string st ∧ st.size ≤ 100000000 ∧ Below w.heap.size w wr ∧ Hid (st = mkB (Lib.join ((R.take k).map wordL) [44]))) (fun _ i _ => ((N : Int) - intOf i).toNat)
  case atStart => exact ⟨0, ⟨#[]⟩, by omega, rfl, rfl, by decide, Below.refl _ _, rfl⟩
  case round =>
    obtain ⟨k, st, hkN, rfl, rfl, hst, hb, hS⟩ := hrel
    by_cases hlt : k < N
    · have hlt' : (k : Int) < (N : Int) := by omega
      have hk0 : (0 : Int) ≤ (k : Int) := by omega
      have hkl : k < R.length := by rw [HN.out]; exact hlt
      obtain ⟨b, off, rfl, hbl, hcc, hcm, hcs⟩ := HV.out.shape (by omega)
      obtain ⟨c0, c1⟩ := (hcs k hkl).keep (hb.block b hbl)
      unfold maxLen at hcm
      have hok := HK.out R[k] (List.getElem_mem _)
      have HM : Hid (((R.take (k + 1)).map wordL) = ((R.take k).map wordL) ++ [wordL R[k]]) := by
        rw [Hid, List.take_succ_eq_append_getElem hkl, List.map_append]; rfl
      have hsz : (mkB (Lib.join ((R.take (k + 1)).map wordL) [44])).size ≤ 100000000 := by
        rw [mkB_size]
        have := join_len ((R.take (k + 1)).map wordL) 200000 (fun x hx => by
          obtain ⟨s, hs, rfl⟩ := List.mem_map.1 hx
          have := HK.out s (List.mem_of_mem_take hs)
          exact wordL_len this.1 this.2.1 this.2.2)
        have h2 : ((R.take (k + 1)).map wordL).length ≤ 200 := by rw [List.length_map, List.length_take]; omega
        have h3 := Nat.mul_le_mul_right (200000 + 1) h2
        omega
      have HSZ : Hid ((mkB (Lib.join ((R.take (k + 1)).map wordL) [44])).size ≤ 100000000) := hsz
      generalize R[k] = t at c0 c1 hok HM
      obtain ⟨p, q⟩ := t
      simp only at c0 c1 hok
      obtain ⟨o0, o1, o2⟩ := hok
      have hd1 := fun W => digits_any p W o0 (by omega)
      have hd2 := fun W => digits_any q W (by omega) (by omega)
      have hl1 := digL_len p.toNat
      have hl2 := digL_len q.toNat
      have hs1 : (mkB (digL p.toNat)).size ≤ 65536 := by rw [mkB_size]; omega
      have hs2 : (mkB (digL q.toNat)).size ≤ 65536 := by rw [mkB_size]; omega
      have HB : Hid (Below w.heap.size w wr) := hb
      have HW0 : Hid (k = 0 → mkB (Lib.join ((R.take (k + 1)).map wordL) [44]) = mkB (wordL (p, q)) ∧ st = ⟨#[]⟩) := fun h0 => by
        subst h0
        refine ⟨by rw [HM.out]; simp [Lib.join_one], by rw [hS.out]; rfl⟩
      have HW1 : Hid (0 < k → mkB (Lib.join ((R.take (k + 1)).map wordL) [44]) = st ++ ⟨#[44]⟩ ++ mkB (wordL (p, q))) := fun h0 => by
        rw [HM.out, join_snoc _ _ (fun e => by have := congrArg List.length e; rw [List.length_map, List.length_take, List.length_nil] at this; omega), hS.out, mk44, mkB_append, mkB_append]
      have HE1 : Hid (p = q → mkB (wordL (p, q)) = mkB (digL p.toNat)) := fun e => by unfold wordL; rw [if_pos (show (p, q).1 = (p, q).2 from e)]
      have HE2 : Hid (¬ p = q → mkB (wordL (p, q)) = mkB (digL p.toNat) ++ ⟨#[45]⟩ ++ mkB (digL q.toNat)) := fun e => by unfold wordL; rw [if_neg (show ¬ (p, q).1 = (p, q).2 from e), mk45, mkB_append, mkB_append]
      obtain ⟨nx, hnx⟩ : ∃ nx, mkB (Lib.join ((R.take (k + 1)).map wordL) [44]) = nx := ⟨_, rfl⟩
      have HNX : Hid (nx = mkB (Lib.join ((R.take (k + 1)).map wordL) [44])) := hnx.symm
      rw [hnx] at HSZ HW0 HW1 hsz
      clear hnx
      generalize mkB (wordL (p, q)) = wd at HW0 HW1 HE1 HE2
      generalize mkB (digL p.toNat) = sp at hd1 hs1 HE1 HE2
      generalize mkB (digL q.toNat) = sq at hd2 hs2 HE2
      clear hcs hb hl1 hl2
      by_cases hk1 : 0 < k
      · have hk1' : (0 : Int) < (k : Int) := by omega
        by_cases he : p = q
        · have HX0 : Hid True := trivial
          have HX : Hid ((st ++ ⟨#[44]⟩ ++ sp) = nx) := by
            rw [Hid]
            rw [HW1.out (by omega), HE1.out he]
          clear HW0 HW1 HE1 HE2 HX0
          subst he
          have hlt2 : ¬ p < p := by omega
          have hg : decide (p < p) = false := decide_eq_false (by omega)
          go_upto_region 11 with (go_at_call 45; go_must (refine (hd1 _).mono ?_; rintro e wr ⟨rfl, rfl⟩))
          clear hd1
          go_big_quiet (fail)
          go_wp2_with fail
          go_roundw
          case rel => exact ⟨k + 1, (st ++ ⟨#[44]⟩ ++ sp), by omega, by go_num, rfl, by rw [HX.out]; exact HSZ.out, below_drewN HB.out _, by rw [Hid, HX.out]; exact HNX.out⟩
          case measure => simp [intOf]; omega
        · have hlt2 : p < q := by omega
          have hg : decide (p < q) = true := decide_eq_true hlt2
          have HX : Hid ((st ++ ⟨#[44]⟩ ++ sp ++ ⟨#[45]⟩ ++ sq) = nx) := by
            rw [Hid]
            rw [HW1.out (by omega), HE2.out he]; simp only [ByteArray.append_assoc]
          clear HW0 HW1 HE1 HE2
          go_upto_region 11 with (go_at_call 45; go_must (refine (hd1 _).mono ?_; rintro e wr ⟨rfl, rfl⟩))
          clear hd1
          go_big_quiet (fail)
          go_wp2_with (go_at_call 45; go_must (refine (hd2 _).mono ?_; rintro e wq ⟨rfl, rfl⟩))
          go_roundw
          case rel => exact ⟨k + 1, (st ++ ⟨#[44]⟩ ++ sp ++ ⟨#[45]⟩ ++ sq), by omega, by go_num, rfl, by rw [HX.out]; exact HSZ.out, below_drewN HB.out _, by rw [Hid, HX.out]; exact HNX.out⟩
          case measure => simp [intOf]; omega
      · have hk1' : ¬ (0 : Int) < (k : Int) := by omega
        by_cases he : p = q
        · have HX0 : Hid True := trivial
          have HX : Hid ((st ++ sp) = nx) := by
            rw [Hid]
            obtain ⟨h1, h2⟩ := HW0.out (by omega); rw [h1, HE1.out he, h2, mkE_app]
          clear HW0 HW1 HE1 HE2 HX0
          subst he
          have hlt2 : ¬ p < p := by omega
          have hg : decide (p < p) = false := decide_eq_false (by omega)
          go_upto_region 11 with (go_at_call 45; go_must (refine (hd1 _).mono ?_; rintro e wr ⟨rfl, rfl⟩))
          clear hd1
          go_big_quiet (fail)
          go_wp2_with fail
          go_roundw
          case rel => exact ⟨k + 1, (st ++ sp), by omega, by go_num, rfl, by rw [HX.out]; exact HSZ.out, below_drewN HB.out _, by rw [Hid, HX.out]; exact HNX.out⟩
          case measure => simp [intOf]; omega
        · have hlt2 : p < q := by omega
          have hg : decide (p < q) = true := decide_eq_true hlt2
          have HX : Hid ((st ++ sp ++ ⟨#[45]⟩ ++ sq) = nx) := by
            rw [Hid]
            obtain ⟨h1, h2⟩ := HW0.out (by omega); rw [h1, HE2.out he, h2, mkE_app]
          clear HW0 HW1 HE1 HE2
          go_upto_region 11 with (go_at_call 45; go_must (refine (hd1 _).mono ?_; rintro e wr ⟨rfl, rfl⟩))
          clear hd1
          go_big_quiet (fail)
          go_wp2_with (go_at_call 45; go_must (refine (hd2 _).mono ?_; rintro e wq ⟨rfl, rfl⟩))
          go_roundw
          case rel => exact ⟨k + 1, (st ++ sp ++ ⟨#[45]⟩ ++ sq), by omega, by go_num, rfl, by rw [HX.out]; exact HSZ.out, below_drewN HB.out _, by rw [Hid, HX.out]; exact HNX.out⟩
          case measure => simp [intOf]; omega
    · have hlt' : ¬ (k : Int) < (N : Int) := by omega
      have e : k = N := by omega
      have hst2 : st = tx := by rw [hS.out, e]; exact HTX.out
      subst hst2
      clear e
      go_wp2
      go_ret
      exact ⟨rfl, hb⟩
end Go.Proofs.YthnkjfgiclolaaaGreatDoor

namespace Go.Proofs.YthnkjfgiclolaaaGreatDoor
open Go.RowKit
set_option linter.unusedVariables false

def foldAddr : Int → List (List UInt8) → Int
  | a, [] => a
  | a, p :: r => if wholeL p 3 < 0 ∨ 255 < wholeL p 3 then -1 else foldAddr (a * 256 + wholeL p 3) r
def readAddrL (l : List UInt8) : Int := if (cutL 46 l).length = 4 then foldAddr 0 (cutL 46 l) else -1
theorem cutG_pos (c : UInt8) : ∀ (r cur : List UInt8), 0 < (cutG c cur r).length
  | [], cur => by simp [cutG]
  | x :: r, cur => by
      unfold cutG
      split
      · simp
      · exact cutG_pos c r _
theorem cutG_mem (c : UInt8) : ∀ (r cur : List UInt8), ∀ p ∈ cutG c cur r, p.length ≤ cur.length + r.length
  | [], cur => by simp [cutG]
  | x :: r, cur => by
      intro p hp
      unfold cutG at hp
      split at hp
      · rcases List.mem_cons.1 hp with rfl | hp
        · simp
        · have := cutG_mem c r [] p hp; simp at this ⊢; omega
      · have := cutG_mem c r (cur ++ [x]) p hp; simp at this ⊢; omega
theorem foldAddr_drop (ps : List (List UInt8)) (k : Nat) (a : Int) (h : k < ps.length) :
    foldAddr a (ps.drop k) = if wholeL ps[k] 3 < 0 ∨ 255 < wholeL ps[k] 3 then -1 else foldAddr (a * 256 + wholeL ps[k] 3) (ps.drop (k + 1)) := by
  rw [List.drop_eq_getElem_cons h]; rfl
theorem whole_mk (p : List UInt8) (most : Int) (w : World) (h0 : 0 ≤ most) (h1 : most ≤ 18) (hs : p.length ≤ 1048576) :
    Calls Tryz.prog 116 #[.string (mkB p), .int .i64 most] w fun e w' => e = .returned (.int .i64 (wholeL p most)) ∧ w' = w := by
  have := whole_any (mkB p) most w h0 h1 (by rw [mkB_size]; unfold maxLen; omega)
  rw [mkB_toList] at this
  exact this
set_option maxHeartbeats 2000000 in
theorem readAddr_any (s : ByteArray) (w : World) (hs : s.size ≤ 1048576) :
    Calls Tryz.prog 115 #[.string s] w fun e w' => e = .returned (.int .i64 (readAddrL s.data.toList)) ∧ Below w.heap.size w w' := by
  have hcut := cut_any s 46 w hs
  obtain ⟨ps, hps⟩ : ∃ ps, ps = cutL 46 s.data.toList := ⟨_, rfl⟩
  have hpos : 0 < ps.length := by rw [hps]; exact cutG_pos _ _ _
  have hmem : ∀ p ∈ ps, p.length ≤ 1048576 := by
    intro p hp
    rw [hps] at hp
    have := cutG_mem 46 _ _ p hp
    rw [size_list] at this; simp at this; omega
  have HR : Hid (readAddrL s.data.toList = if ps.length = 4 then foldAddr 0 ps else -1) := by
    show readAddrL s.data.toList = if ps.length = 4 then foldAddr 0 ps else -1
    rw [hps]; rfl
  rw [← hps] at hcut
  clear hps
  go_enter Tryz.func115, Tryz.ntmps115
  go_upto_region 2 with (go_at_call 22; refine hcut.mono ?_; rintro e w1 ⟨v, rfl, own1, b1⟩)
  obtain ⟨g, cap, hv, hg0, hg1, hlc, hcm⟩ := own1.shape (by simpa using hpos)
  subst hv
  obtain ⟨n, hn⟩ : ∃ n, n = (ps.map mkB).length := ⟨_, rfl⟩
  rw [← hn] at own1 hlc ⊢
  have hn1 : n ≤ ps.length := by rw [hn]; simp
  have hn2 : ps.length ≤ n := by rw [hn]; simp
  have HN : Hid (n = (ps.map mkB).length) := hn
  clear hn hcut
  by_cases h4 : ps.length = 4
  · have hr := HR.out
    rw [if_pos h4] at hr
    have HR' : Hid (foldAddr 0 ps = readAddrL s.data.toList) := hr.symm
    have h4a : n ≤ 4 := by omega
    have h4b : 4 ≤ n := by omega
    clear hr HR
    have h4c : ((n : Int) != 4) = false := by simp; omega
    go_wp2_with fail
    go_loop [4, 5] (fun v i => ∃ (k : Nat) (a : Int), k ≤ 4 ∧ i = .int .i64 k ∧ v = .int .i64 a ∧ 0 ≤ a ∧ a + 1 ≤ p256 k ∧ Hid (foldAddr a (ps.drop k) = foldAddr 0 ps)) (fun _ i => 4 - (intOf i).toNat)
    case atStart => exact ⟨0, 0, by omega, rfl, rfl, by omega, by decide, rfl⟩
    case round =>
      obtain ⟨k, a, hk, rfl, rfl, ha0, ha1, hT⟩ := hrel
      have hp4 := p256_le hk
      by_cases hlt : k < 4
      · have hkl : k < ps.length := by omega
        have st := foldAddr_drop ps k a hkl
        have hc := own1.cell HN.out k (by simpa using hkl)
        have hpk := hmem ps[k] (List.getElem_mem _)
        have e1 : (ps.map mkB)[k]'(by simpa using hkl) = mkB ps[k] := by simp
        rw [e1] at hc
        clear e1
        obtain ⟨pk, hpk'⟩ : ∃ pk, pk = ps[k] := ⟨_, rfl⟩
        rw [← hpk'] at hc hpk st
        clear hpk'
        have hwh := whole_mk pk 3 w1 (by omega) (by omega) hpk
        generalize wholeL pk 3 = z at hwh st
        by_cases hz : z < 0 ∨ 255 < z
        · rw [if_pos hz] at st
          have HT : Hid ((-1 : Int) = readAddrL s.data.toList) := by
            show (-1 : Int) = readAddrL s.data.toList
            rw [← HR'.out, ← hT.out, st]
          clear st hT
          have hkn : (k : Int) < (n : Int) := by omega
          rcases hz with hz | hz
          all_goals
            go_wp2_with (go_at_call 116; refine hwh.mono ?_; rintro e w' ⟨rfl, rfl⟩)
            go_ret
            exact ⟨ret_i64 HT.out, b1⟩
        · rw [if_neg hz] at st
          have hz0 : 0 ≤ z := by omega
          have hz1 : z ≤ 255 := by omega
          have hs := p256_succ k
          have HT : Hid (foldAddr (a * 256 + z) (ps.drop (k + 1)) = foldAddr 0 ps) := by
            show foldAddr (a * 256 + z) (ps.drop (k + 1)) = foldAddr 0 ps
            rw [← st]; exact hT.out
          have HB : Hid (a * 256 + z + 1 ≤ p256 (k + 1)) := by
            show a * 256 + z + 1 ≤ p256 (k + 1)
            omega
          have hkn : (k : Int) < (n : Int) := by omega
          have haa : a ≤ 4294967296 := by omega
          clear st hT hz hs ha1 hp4
          go_wp2_with (go_at_call 116; refine hwh.mono ?_; rintro e w' ⟨rfl, rfl⟩)
          go_round
          case rel => exact ⟨k + 1, _, by omega, by go_num, rfl, by omega, HB.out, HT⟩
          case measure => simp [intOf]; omega
      · have HT : Hid (a = readAddrL s.data.toList) := by
          show a = readAddrL s.data.toList
          rw [← HR'.out, ← hT.out, List.drop_eq_nil_of_le (by omega)]; rfl
        have hge : 4 ≤ (k : Int) := by omega
        clear hT ha1 hp4 hlt
        go_wp2
        go_ret
        exact ⟨ret_i64 HT.out, b1⟩
  · have hr := HR.out
    rw [if_neg h4] at hr
    have HR' : Hid ((-1 : Int) = readAddrL s.data.toList) := hr.symm
    have h4c : ((n : Int) != 4) = true := by simp; omega
    clear hr HR h4
    go_wp2_with fail
    go_ret
    exact ⟨ret_i64 HR'.out, b1⟩
end Go.Proofs.YthnkjfgiclolaaaGreatDoor

namespace Go.Proofs.YthnkjfgiclolaaaGreatDoor
open Go.RowKit
set_option linter.unusedVariables false

theorem showL_len (a : Int) : (showL a).length ≤ 2000 := by
  have h1 := digL_small (n := (a / 16777216 % 256).toNat) (by omega)
  have h2 := digL_small (n := (a / 65536 % 256).toNat) (by omega)
  have h3 := digL_small (n := (a / 256 % 256).toNat) (by omega)
  have h4 := digL_small (n := (a % 256).toNat) (by omega)
  simp [showL]; omega

theorem showPrefix_any (a l : Int) (w : World) (h0 : 0 ≤ a) (h1 : a ≤ 4294967295) (h2 : 0 ≤ l) (h3 : l ≤ 32) :
    Calls Tryz.prog 17 #[.agg #[.int .i64 a, .int .i64 l]] w fun e w' => e = .returned (.string (mkB (showPrefL a l))) ∧ Below w.heap.size w w' := by
  have hb : Below w.heap.size w (w.alloc (.cells #[.int .i64 a, .int .i64 l] 30)) := (Below.refl _ _).alloc (Nat.le_refl _) _
  rcases hl : (l == 0) with _ | _
  · have HS : Hid (mkB (showL a) ++ mkB [47] ++ mkB (digL l.toNat) = mkB (showPrefL a l)) := by
      show _ = mkB (showPrefL a l)
      unfold showPrefL
      rw [if_neg (by simpa using hl)]
      simp only [mkB_append]
    have z1 : (mkB (showL a)).size ≤ 2000 := by rw [mkB_size]; exact showL_len a
    have z2 : (mkB (digL l.toNat)).size ≤ 2000 := by rw [mkB_size]; have := digL_small (n := l.toNat) (by omega); omega
    go_enter Tryz.func17, Tryz.ntmps17
    go_wp2_with (first | (go_at_call 44; refine (show_any _ _ h0 h1).mono ?_; rintro e w' ⟨rfl, rfl⟩) | (go_at_call 45; refine (digits_any _ _ h2 (by omega)).mono ?_; rintro e w' ⟨rfl, rfl⟩))
    go_ret
    exact ⟨ret_str HS.out, hb⟩
  · have HS : Hid (mkB [97, 110, 121] = mkB (showPrefL a l)) := by
      show _ = mkB (showPrefL a l)
      unfold showPrefL
      rw [if_pos (by simpa using hl)]
    go_enter Tryz.func17, Tryz.ntmps17
    go_wp2
    go_ret
    exact ⟨ret_str HS.out, hb⟩

/-- The prefix of a text, or none. -/
def readPrefL (l : List UInt8) : Int × Int × Bool :=
  if l = [97, 110, 121] then (0, 0, true) else
  let ws := cutL 47 l
  let A := readAddrL (ws.headD [])
  let L := if ws.length = 2 then wholeL (ws.getD 1 []) 2 else 32
  if 2 < ws.length ∨ L < 1 ∨ prefE A L ≠ 0 then (0, 0, false) else (A, L, true)

set_option maxHeartbeats 2000000 in
theorem readPrefix_any (s : ByteArray) (w : World) (hs : s.size ≤ 1048576) :
    Calls Tryz.prog 92 #[.string s] w fun e w' => e = .returned (.tuple #[.agg #[.int .i64 (readPrefL s.data.toList).1, .int .i64 (readPrefL s.data.toList).2.1], .bool (readPrefL s.data.toList).2.2]) ∧ Below w.heap.size w w' := by
  rcases hany : (s.toList == [97, 110, 121]) with _ | _
  · obtain ⟨ws, hws⟩ : ∃ ws, ws = cutL 47 s.data.toList := ⟨_, rfl⟩
    have hpos : 0 < ws.length := by rw [hws]; exact cutG_pos _ _ _
    have hmem : ∀ p ∈ ws, p.length ≤ 1048576 := by
      intro p hp
      rw [hws] at hp
      have := cutG_mem 47 _ _ p hp
      rw [size_list] at this; simp at this; omega
    have hHE : readPrefL s.data.toList = (if 2 < ws.length ∨ (if ws.length = 2 then wholeL (ws.getD 1 []) 2 else 32) < 1 ∨ prefE (readAddrL (ws.headD [])) (if ws.length = 2 then wholeL (ws.getD 1 []) 2 else 32) ≠ 0 then (0, 0, false) else (readAddrL (ws.headD []), (if ws.length = 2 then wholeL (ws.getD 1 []) 2 else 32), true)) := by
      unfold readPrefL
      rw [if_neg (by rw [← ByteArray.toList_eq]; simpa using hany), hws]
    obtain ⟨rp, hrp⟩ : ∃ rp, rp = readPrefL s.data.toList := ⟨_, rfl⟩
    rw [← hrp] at hHE ⊢
    go_enter Tryz.func92, Tryz.ntmps92
    have hcut := cut_any s 47 (w.alloc (.cells #[.int .i64 0, .int .i64 0] 30)) hs
    go_upto_region 5 with (go_at_call 22; refine hcut.mono ?_; rintro e w1 ⟨v, rfl, own1, b1⟩)
    rw [← hws] at own1
    clear hws hrp hcut hany
    have HE : Hid (rp = (if 2 < ws.length ∨ (if ws.length = 2 then wholeL (ws.getD 1 []) 2 else 32) < 1 ∨ prefE (readAddrL (ws.headD [])) (if ws.length = 2 then wholeL (ws.getD 1 []) 2 else 32) ≠ 0 then (0, 0, false) else (readAddrL (ws.headD []), (if ws.length = 2 then wholeL (ws.getD 1 []) 2 else 32), true))) := hHE
    clear hHE
    obtain ⟨g, cap, hv, hg0, hg1, hlc, hcm⟩ := own1.shape (by simpa using hpos)
    subst hv
    obtain ⟨n, hn⟩ : ∃ n, n = (ws.map mkB).length := ⟨_, rfl⟩
    rw [← hn] at own1 hlc ⊢
    have hn1 : n ≤ ws.length := by rw [hn]; simp
    have hn2 : ws.length ≤ n := by rw [hn]; simp
    have HN : Hid (n = (ws.map mkB).length) := hn
    clear hn
    have z0 : (w.alloc (.cells #[.int .i64 0, .int .i64 0] 30)).heap.size = w.heap.size + 1 := by simp
    have bw : Below w.heap.size w w1 := ((Below.refl w.heap.size w).alloc (Nat.le_refl _) _).trans (b1.mono (by rw [z0]; omega))
    have pR := ((PairAt.new w 0 0 30).below (by rw [z0]; omega) b1).alloc (.cells #[.int .i64 0, .int .i64 32] 30)
    have pP := PairAt.new w1 0 32 30
    have zw1 : w.heap.size < w1.heap.size := by have := b1.size; rw [z0] at this; omega
    have bw2 : Below w.heap.size w (w1.alloc (.cells #[.int .i64 0, .int .i64 32] 30)) := bw.alloc (Nat.le_of_lt zw1) _
    have own2 := own1.alloc (.cells #[.int .i64 0, .int .i64 32] 30)
    obtain ⟨wp, hwp⟩ : ∃ wp, w1.alloc (.cells #[.int .i64 0, .int .i64 32] 30) = wp := ⟨_, rfl⟩
    have zwp : w1.heap.size < wp.heap.size := by rw [← hwp]; simp
    rw [hwp] at pR pP bw2 own2 ⊢
    obtain ⟨P, hP⟩ : ∃ P, P = w1.heap.size := ⟨_, rfl⟩
    rw [← hP] at pP zwp zw1 hg1 ⊢
    clear hwp own1 bw b1 z0 hP
    have c0 := own2.cell HN.out 0 (by simpa using hpos)
    obtain ⟨u0, hu0⟩ : ∃ u0, u0 = ws[0] := ⟨_, rfl⟩
    have e1 : (ws.map mkB)[0]'(by simpa using hpos) = mkB u0 := by simp [hu0]
    have hlu : u0.length ≤ 1048576 := by rw [hu0]; exact hmem _ (List.getElem_mem _)
    have HU : Hid (ws.headD [] = u0) := by
      show ws.headD [] = u0
      rw [hu0]
      cases ws with
      | nil => simp at hpos
      | cons c r => rfl
    rw [e1] at c0
    clear e1 hu0
    have hra := readAddr_any (mkB u0) wp (by rw [mkB_size]; exact hlu)
    rw [mkB_toList] at hra
    obtain ⟨A, hA⟩ : ∃ A, A = readAddrL u0 := ⟨_, rfl⟩
    rw [← hA] at hra
    have HA : Hid (readAddrL (ws.headD []) = A) := by show readAddrL (ws.headD []) = A; rw [HU.out, hA]
    clear hA
    have hnp : (0 : Int) < (n : Int) := by omega
    obtain ⟨q1, q2, q3, q4⟩ := pP
    have pP : PairAt wp P 0 32 := ⟨q1, q2, q3, q4⟩
    clear q1 q2 q3 q4
    go_upto_region 6 with (go_at_call 115; refine hra.mono ?_; rintro e w2 ⟨rfl, b2⟩; obtain ⟨q1, q2, q3, q4⟩ := pP.below zwp b2)
    have pP3 := (pP.below zwp b2).set0 A
    have pR3 := (pR.below pR.lt b2).other (c := P) (off := 0) (by omega) (.int .i64 A)
    have bw3 := (bw2.trans (b2.mono bw2.size)).setCell (p := ⟨P, 0, none⟩) (Nat.le_of_lt zw1) (.int .i64 A)
    have cg : ∀ j (h : j < (ws.map mkB).length), (w2.setCell ⟨P, 0, none⟩ (.int .i64 A)).cell? ⟨g, j, none⟩ = some (.string (ws.map mkB)[j]) := by
      intro j h
      rw [World.cell?_setCell_other w2 _ _ _ (fun h => absurd (congrArg Addr.block h) (by simp; omega)), b2.cell (p := ⟨g, j, none⟩) (Nat.lt_trans hg1 zwp)]
      exact own2.cell HN.out j h
    obtain ⟨w3, hw3⟩ : ∃ w3, w2.setCell ⟨P, 0, none⟩ (.int .i64 A) = w3 := ⟨_, rfl⟩
    rw [hw3] at pP3 pR3 bw3 ⊢
    simp only [hw3] at cg
    clear hw3 q1 q2 q3 q4 pP pR bw2 b2 own2 c0 hra
    rcases hq : ((n : Int) == 2) with _ | _
    · have hl2 : ¬ ws.length = 2 := by
        have : ¬ (n : Int) = 2 := by simpa using hq
        omega
      clear cg
      obtain ⟨p1, p2, p3, p4⟩ := pP3
      have pP4 : PairAt w3 P A (32 : Int) := ⟨p1, p2, p3, p4⟩
      have hE0 := HE.out
      rw [HA.out, if_neg hl2] at hE0
      have HE4 : Hid (rp = if 2 < ws.length ∨ (32 : Int) < 1 ∨ prefE A 32 ≠ 0 then (0, 0, false) else (A, 32, true)) := hE0
      clear hE0
      have hpr := refPrefix_any A 32 w3
      generalize prefE A 32 = pe at hpr HE4
      go_upto_region 9 with (go_at_call 31; refine hpr.mono ?_; rintro e w5 ⟨rfl, b5⟩)
      have pP5 := pP4.below pP4.lt b5
      have pR5 := pR3.below pR3.lt b5
      have bw5 : Below w.heap.size w w5 := bw3.trans (b5.mono bw3.size)
      obtain ⟨s1, s2, s3, s4⟩ := pP5
      obtain ⟨t1, t2, t3, t4⟩ := pR5
      have bwe := fun (a b : Int) => (bw5.setCell (p := ⟨w.heap.size, 0, none⟩) (Nat.le_refl _) (.int .i64 a)).setCell (p := ⟨w.heap.size, 1, none⟩) (Nat.le_refl _) (.int .i64 b)
      clear p1 p2 p3 p4 pP4 hpr b5
      by_cases bad : 2 < ws.length ∨ (32 : Int) < 1 ∨ ¬ pe = 0
      · have hb := HE4.out
        rw [if_pos bad] at hb
        subst hb
        clear HE4 HE
        by_cases d1 : 2 < (n : Int)
        · go_wp2_with fail
          exact bodyPost_ret (v := .tuple #[.agg #[.int .i64 0, .int .i64 0], .bool false]) (by simp [results, Tryz.results92, go_sem, t1, t2]) rfl ⟨rfl, bwe 0 0⟩
        have d3 : (pe != 0) = true := by
          have : ¬ pe = 0 := by omega
          simpa [bne] using this
        clear bad
        go_wp2_with fail
        exact bodyPost_ret (v := .tuple #[.agg #[.int .i64 0, .int .i64 0], .bool false]) (by simp [results, Tryz.results92, go_sem, t1, t2]) rfl ⟨rfl, bwe 0 0⟩
      · have hb := HE4.out
        rw [if_neg bad] at hb
        subst hb
        clear HE4 HE
        have d1 : (n : Int) ≤ 2 := by omega
        have d3 : (pe != 0) = false := by
          have : pe = 0 := by omega
          simp [this]
        clear bad
        go_wp2_with fail
        exact bodyPost_ret (v := .tuple #[.agg #[.int .i64 A, .int .i64 32], .bool true]) (by simp [results, Tryz.results92, go_sem, t1, t2]) rfl ⟨rfl, bwe A 32⟩
    · have hl2 : ws.length = 2 := by
        have : (n : Int) = 2 := by simpa using hq
        omega
      have c1 := cg 1 (by simp [hl2])
      obtain ⟨u1, hu1⟩ : ∃ u1, u1 = ws.getD 1 [] := ⟨_, rfl⟩
      have e1 : (ws.map mkB)[1]'(by simp [hl2]) = mkB u1 := by simp [hu1, List.getD, hl2]
      have hlu1 : u1.length ≤ 1048576 := by
        have : ws.getD 1 [] = ws[1] := by simp [List.getD, hl2]
        rw [hu1, this]; exact hmem _ (List.getElem_mem _)
      rw [e1] at c1
      have hwh := whole_mk u1 2 w3 (by omega) (by omega) hlu1
      obtain ⟨L, hL⟩ : ∃ L, L = wholeL u1 2 := ⟨_, rfl⟩
      rw [← hL] at hwh
      have HL : Hid (wholeL (ws.getD 1 []) 2 = L) := by show wholeL (ws.getD 1 []) 2 = L; rw [← hu1, hL]
      clear cg e1 hu1 hL
      obtain ⟨q1, q2, q3, q4⟩ := pP3
      have pP3 : PairAt w3 P A 32 := ⟨q1, q2, q3, q4⟩
      have hn2' : (1 : Int) < (n : Int) := by omega
      go_upto_region 8 with (go_at_call 116; refine hwh.mono ?_; rintro e w3 ⟨rfl, rfl⟩)
      have pP4' := pP3.set1 L
      have pR4' := pR3.other (c := P) (off := 1) (by omega) (.int .i64 L)
      have bw4' := bw3.setCell (p := ⟨P, 1, none⟩) (Nat.le_of_lt zw1) (.int .i64 L)
      obtain ⟨w4, hw4⟩ : ∃ w4, w3.setCell ⟨P, 1, none⟩ (.int .i64 L) = w4 := ⟨_, rfl⟩
      rw [hw4] at pP4' pR4' bw4' ⊢
      clear hw4 q1 q2 q3 q4 pP3 pR3 bw3 c1 hwh
      obtain ⟨p1, p2, p3, p4⟩ := pP4'
      have pP4 : PairAt w4 P A L := ⟨p1, p2, p3, p4⟩
      have hE0 := HE.out
      rw [HA.out, if_pos hl2, HL.out] at hE0
      have HE4 : Hid (rp = if 2 < ws.length ∨ L < 1 ∨ prefE A L ≠ 0 then (0, 0, false) else (A, L, true)) := hE0
      clear hE0
      have hpr := refPrefix_any A L w4
      generalize prefE A L = pe at hpr HE4
      go_upto_region 9 with (go_at_call 31; refine hpr.mono ?_; rintro e w5 ⟨rfl, b5⟩)
      have pP5 := pP4.below pP4.lt b5
      have pR5 := pR4'.below pR4'.lt b5
      have bw5 : Below w.heap.size w w5 := bw4'.trans (b5.mono bw4'.size)
      obtain ⟨s1, s2, s3, s4⟩ := pP5
      obtain ⟨t1, t2, t3, t4⟩ := pR5
      have bwe := fun (a b : Int) => (bw5.setCell (p := ⟨w.heap.size, 0, none⟩) (Nat.le_refl _) (.int .i64 a)).setCell (p := ⟨w.heap.size, 1, none⟩) (Nat.le_refl _) (.int .i64 b)
      clear p1 p2 p3 p4 pP4 hpr b5
      by_cases bad : 2 < ws.length ∨ L < 1 ∨ ¬ pe = 0
      · have hb := HE4.out
        rw [if_pos bad] at hb
        subst hb
        clear HE4 HE
        have d1 : (n : Int) ≤ 2 := by omega
        by_cases d2 : L < 1
        · go_wp2_with fail
          exact bodyPost_ret (v := .tuple #[.agg #[.int .i64 0, .int .i64 0], .bool false]) (by simp [results, Tryz.results92, go_sem, t1, t2]) rfl ⟨rfl, bwe 0 0⟩
        have d3 : (pe != 0) = true := by
          have : ¬ pe = 0 := by omega
          simpa [bne] using this
        clear bad
        go_wp2_with fail
        exact bodyPost_ret (v := .tuple #[.agg #[.int .i64 0, .int .i64 0], .bool false]) (by simp [results, Tryz.results92, go_sem, t1, t2]) rfl ⟨rfl, bwe 0 0⟩
      · have hb := HE4.out
        rw [if_neg bad] at hb
        subst hb
        clear HE4 HE
        have d1 : (n : Int) ≤ 2 := by omega
        have d2 : 1 ≤ L := by omega
        have d3 : (pe != 0) = false := by
          have : pe = 0 := by omega
          simp [this]
        clear bad
        go_wp2_with fail
        exact bodyPost_ret (v := .tuple #[.agg #[.int .i64 A, .int .i64 L], .bool true]) (by simp [results, Tryz.results92, go_sem, t1, t2]) rfl ⟨rfl, bwe A L⟩
  · have HE : Hid (readPrefL s.data.toList = (0, 0, true)) := by
      show readPrefL s.data.toList = (0, 0, true)
      unfold readPrefL
      rw [if_pos (by rw [← ByteArray.toList_eq]; simpa using hany)]
    rw [HE.out]
    go_enter Tryz.func92, Tryz.ntmps92
    go_wp2
    exact bodyPost_ret (v := .tuple #[.agg #[.int .i64 0, .int .i64 0], .bool true]) (by simp [results, Tryz.results92, go_sem]) rfl ⟨rfl, (Below.refl _ _).alloc (Nat.le_refl _) _⟩
end Go.Proofs.YthnkjfgiclolaaaGreatDoor
