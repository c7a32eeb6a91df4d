/- What Under and Over of the reference's list return. -/
import Derived.Test.YtdpnmhfhjcebbaaDoorRefT3
namespace Go.Proofs.YtdpnmhfhjcebbaaDoor
open Go.RowKit
set_option linter.unusedVariables false
set_option maxRecDepth 4000

/-- A row of pairs of the call's own is returned. -/
def RList (L : List Pr) (w : World) (e : Ending) (w' : World) : Prop := ∃ v, e = .returned v ∧ OwnR w' w.heap.size v L ∧ Below w.heap.size w w'
theorem below_grownNo {w w1 w2 : World} {row : Option Nat} (h : Below w.heap.size w w1) (hg : w1.grownBy w2 row) (hr : ∀ k, row = some k → w.heap.size ≤ k) : Below w.heap.size w w2 :=
  ((Turn.of_below h NoF).grown hg hr).belowNo
theorem filter_take {p : Pr → Bool} {L : List Pr} {k : Nat} (h : k < L.length) : (L.take (k + 1)).filter p = (L.take k).filter p ++ (if p L[k] = true then [L[k]] else []) := by
  rw [List.take_succ_eq_append_getElem h, List.filter_append]
  congr 1
  by_cases hp : p L[k] = true
  · rw [if_pos hp, List.filter_cons_of_pos hp]; rfl
  · rw [if_neg hp, List.filter_cons_of_neg hp]; rfl
set_option maxHeartbeats 16000000 in
theorem refUnder_any (F : Nat → Prop) (mb : Nat) (V : Value) (L : List Pr) (a l : Int) (w : World) (h : RV w F mb V L) (hn : L.length ≤ 200) :
    Calls Tryd.prog 16 #[.pointer (some ⟨mb, 0, none⟩), .agg #[.int .i64 a, .int .i64 l]] w (RList (L.filter (fun x => insB x.a x.l a l)) w) := by
  obtain ⟨av, cv, hv⟩ := h.row.len
  obtain ⟨N, hN⟩ : ∃ N, L.length = N := ⟨_, rfl⟩
  rw [hN] at hv hn
  subst hv
  obtain ⟨P, hP⟩ : ∃ P : Pr → Bool, (fun x => insB x.a x.l a l) = P := ⟨_, rfl⟩
  rw [hP]
  have HPP : Hid ((fun x : Pr => insB x.a x.l a l) = P) := hP
  have HN : Hid (L.length = N) := hN
  have HB : Hid (Below w.heap.size w (w.alloc (.cells #[.int .i64 a, .int .i64 l] 25))) := (Below.refl _ _).alloc (Nat.le_refl _) _
  have HP : Hid (PairAt (w.alloc (.cells #[.int .i64 a, .int .i64 l] 25)) w.heap.size a l) := PairAt.new w a l 25
  have H1 : Hid (RV (w.alloc (.cells #[.int .i64 a, .int .i64 l] 25)) F mb (.slice av N cv) L) := h.below HB.out
  clear h hN hP
  go_enter Tryd.func16, Tryd.ntmps16
  go_wp2_with fail
  generalize w.alloc (.cells #[.int .i64 a, .int .i64 l] 25) = w1 at HB HP H1 ⊢
  go_loopw [5, 6] (fun ov i wr => ∃ k : Nat, k ≤ N ∧ i = .int .i64 (k : Int) ∧ Below w1.heap.size w1 wr ∧ OwnR wr w1.heap.size ov ((L.take k).filter P)) (fun _ i _ => ((N : Int) - intOf i).toNat)
  case atStart => exact ⟨0, by omega, rfl, Below.refl _ _, OwnR.nil _ _⟩
  case round =>
    obtain ⟨k, hk, rfl, hb, hown⟩ := hrel
    have hcm := (H1.out.below hb).cell
    by_cases hkn : k < N
    · have i1 : (k : Int) < (N : Int) := by omega
      have i2 : (0 : Int) ≤ (k : Int) := by omega
      have hkp : k < L.length := by have := HN.out; omega
      obtain ⟨b1, o1, e1, hb1, hl1, hx1, hc1⟩ := (H1.out.below hb).row.prs.shape (by omega)
      subst e1
      obtain ⟨x0, x1, x2⟩ := hc1 k hkp
      obtain ⟨y0, y1, _, _⟩ := HP.out.below HP.out.lt hb
      have hft := filter_take (p := P) hkp
      have hPq : P L[k] = insB L[k].a L[k].l a l := by rw [← HPP.out]
      generalize L[k] = q at x0 x1 x2 hft hPq
      have hx1' : cv ≤ 9223372036854775807 := by unfold maxLen at hx1; omega
      have HBR : Hid (Below w1.heap.size w1 wr) := hb
      have hin := fun W => refInside_any q.a q.l a l W
      rw [← hPq] at hin
      have HOW : Hid (OwnR wr w1.heap.size u5 ((L.take k).filter P)) := hown
      clear hc1 hx1 hb hPq hown
      have z0 := Ext.cell hcm
      have z1 := Ext.cell x0
      have z2 := Ext.cell x1
      have z3 := Ext.cell y0
      have z4 := Ext.cell y1
      rcases hpq : P q with _ | _
      · rw [hpq] at hin hft
        simp only [Bool.false_eq_true, if_false, List.append_nil] at hft
        have HFT : Hid ((L.take (k + 1)).filter P = (L.take k).filter P) := hft
        have hcl := Ext.call (w := wr) hin
        clear hft hpq
        go_upto_region 5 with fail
        refine wp_region_ext (by kernel_rfl) (by kernel_rfl) ?_
        repeat (go_big_quiet_step ((go_at_call 30; exact hcl _)))
        refine wpQuiet_nil ?_
        rintro _ ⟨u, rfl⟩
        have HB4 : Hid (Below w1.heap.size w1 u.W) := HBR.out.trans (u.h.mono HBR.out.size)
        have HO4 : Hid (OwnR u.W w1.heap.size u5 ((L.take k).filter P)) := HOW.out.below u.h
        obtain ⟨w4, hw4⟩ : ∃ w4, u.W = w4 := ⟨_, rfl⟩
        rw [hw4] at HB4 HO4 ⊢
        clear hw4 z0 z1 z2 z3 z4 hcl hin hcm x0 x1 x2 y0 y1
        go_wp2_with fail
        go_roundw
        case rel => exact ⟨k + 1, by omega, by go_num, HB4.out, by rw [HFT.out]; exact HO4.out⟩
        case measure => simp [intOf]; omega
      · rw [hpq] at hin hft
        simp only [if_true] at hft
        have HFT : Hid ((L.take (k + 1)).filter P = (L.take k).filter P ++ [q]) := hft
        have hcl := Ext.call (w := wr) hin
        have z5 := Ext.cell x2
        have HX : Hid (PrCells wr b1 (o1 + k * 3) q ∧ b1 < wr.heap.size) := ⟨⟨x0, x1, x2⟩, hb1⟩
        clear hft hpq
        go_upto_region 5 with fail
        refine wp_region_ext (by kernel_rfl) (by kernel_rfl) ?_
        repeat (go_big_quiet_step ((go_at_call 30; exact hcl _)))
        refine wpQuiet_nil ?_
        rintro _ ⟨u, rfl⟩
        have HB4 : Hid (Below w1.heap.size w1 u.W) := HBR.out.trans (u.h.mono HBR.out.size)
        have HO4 : Hid (OwnR u.W w1.heap.size u5 ((L.take k).filter P)) := HOW.out.below u.h
        have c0 := z0 u
        have hX4 := HX.out.1.keep (u.h.block b1 HX.out.2)
        obtain ⟨w4, hw4⟩ : ∃ w4, u.W = w4 := ⟨_, rfl⟩
        rw [hw4] at HB4 HO4 c0 hX4 ⊢
        obtain ⟨c1, c2, c3⟩ := hX4
        have hl4 : ((L.take k).filter P).length ≤ 1000000 := by have := List.length_filter_le P (L.take k); have := List.length_take_le k L; omega
        have hs4 : w1.heap.size ≤ w4.heap.size := HB4.out.size
        clear hw4 z0 z1 z2 z3 z4 z5 hcl hin hcm x0 x1 x2 y0 y1
        have HB5 : Hid (Below w1.heap.size w1 (w4.alloc (.cells #[.int .i64 q.a, .int .i64 q.l, .int .i64 q.v] 34))) := HB4.out.alloc hs4 _
        go_wp2_with (at_builtin; refine wpList_append_pr rfl (.tmp 28) (.tmp 36) rfl w1.heap.size _ _ rfl HO4.out q rfl hl4 hs4 ?_; intro g6 cap6 w6; generalize ((L.take k).filter P).length + 1 = M6; intro own6 grow6 n6; have HB6 : Hid (Below w1.heap.size w1 w6) := below_grownNo HB5.out grow6 (fun k hk => (HO4.out.block k hk).1); have HO6 : Hid (OwnR w6 w1.heap.size (.slice (some ⟨g6, 0, none⟩) M6 cap6) ((L.take k).filter P ++ [q])) := own6; clear own6 grow6 n6)
        go_roundw
        case rel => exact ⟨k + 1, by omega, by go_num, HB6.out, by rw [HFT.out]; exact HO6.out⟩
        case measure => simp [intOf]; omega
    · have hkn' : N ≤ k := by omega
      have i1 : ¬ (k : Int) < (N : Int) := by omega
      have HZ : Hid (RList (L.filter P) w (.returned u5) wr) := by
        rw [List.take_of_length_le (by have := HN.out; omega)] at hown
        exact ⟨u5, rfl, hown.base HB.out.size, HB.out.trans (hb.mono HB.out.size)⟩
      clear hb hown
      go_wp2_with fail
      go_ret
      exact HZ.out
set_option maxHeartbeats 16000000 in
theorem refOver_any (F : Nat → Prop) (mb : Nat) (V : Value) (L : List Pr) (a l : Int) (w : World) (h : RV w F mb V L) (hn : L.length ≤ 200) :
    Calls Tryd.prog 14 #[.pointer (some ⟨mb, 0, none⟩), .agg #[.int .i64 a, .int .i64 l]] w (RList (ovR L a l 33) w) := by
  obtain ⟨av, cv, hv⟩ := h.row.len
  obtain ⟨N, hN⟩ : ∃ N, L.length = N := ⟨_, rfl⟩
  rw [hN] at hv hn
  subst hv
  have HN : Hid (L.length = N) := hN
  have HB : Hid (Below w.heap.size w (w.alloc (.cells #[.int .i64 a, .int .i64 l] 25))) := (Below.refl _ _).alloc (Nat.le_refl _) _
  have HP : Hid (PairAt (w.alloc (.cells #[.int .i64 a, .int .i64 l] 25)) w.heap.size a l) := PairAt.new w a l 25
  have H1 : Hid (RV (w.alloc (.cells #[.int .i64 a, .int .i64 l] 25)) F mb (.slice av N cv) L) := h.below HB.out
  clear h hN
  go_enter Tryd.func14, Tryd.ntmps14
  go_wp2_with fail
  generalize w.alloc (.cells #[.int .i64 a, .int .i64 l] 25) = w1 at HB HP H1 ⊢
  go_loopw [5, 6] (fun ov i wr => ∃ n : Nat, n ≤ 33 ∧ i = .int .i64 (n : Int) ∧ Below w1.heap.size w1 wr ∧ OwnR wr w1.heap.size ov (ovR L a l n)) (fun _ i _ => (33 - intOf i).toNat)
  case atStart => exact ⟨0, by omega, rfl, Below.refl _ _, by rw [ovR_zero]; exact OwnR.nil _ _⟩
  case round =>
    obtain ⟨n, hn3, rfl, hb0, hown0⟩ := hrel
    by_cases hn33 : n < 33
    · have j1 : (n : Int) ≤ 32 := by omega
      obtain ⟨P, hP⟩ : ∃ P : Pr → Bool, (fun x => insB a l x.a x.l && decide (x.l = (n : Int))) = P := ⟨_, rfl⟩
      have HPP : Hid ((fun x : Pr => insB a l x.a x.l && decide (x.l = (n : Int))) = P) := hP
      have HOV : Hid (ovR L a l (n + 1) = ovR L a l n ++ L.filter P) := by rw [← hP]; exact ovR_succ L a l n
      obtain ⟨O, hO⟩ : ∃ O, ovR L a l n = O := ⟨_, rfl⟩
      rw [hO] at hown0 HOV
      have HOL : Hid (O.length + L.length ≤ 100000) := by
        have : ∀ m, (ovR L a l m).length ≤ m * L.length := by
          intro m
          induction m with
          | zero => rw [ovR_zero]; simp
          | succ m ih => rw [ovR_succ, List.length_append, Nat.succ_mul]; have := List.length_filter_le (fun x : Pr => insB a l x.a x.l && decide (x.l = (m : Int))) L; omega
        have h1 := this n
        rw [hO] at h1
        have h2 : n * L.length ≤ 33 * L.length := Nat.mul_le_mul_right _ hn3
        show O.length + L.length ≤ 100000
        have := HN.out; omega
      have HOW0 : Hid (OwnR wr w1.heap.size u5 O) := hown0
      have HB0 : Hid (Below w1.heap.size w1 wr) := hb0
      clear hP hO hown0 hb0
      obtain ⟨wA, hwA⟩ : ∃ wA, wA = wr := ⟨_, rfl⟩
      subst hwA
      obtain ⟨uA, huA⟩ : ∃ uA, uA = u5 := ⟨_, rfl⟩
      subst huA
      go_upto_region 6 with fail
      go_loopw [5, 7] (fun ov i wr => ∃ k : Nat, k ≤ N ∧ i = .int .i64 (k : Int) ∧ Below w1.heap.size w1 wr ∧ OwnR wr w1.heap.size ov (O ++ (L.take k).filter P)) (fun _ i _ => ((N : Int) - intOf i).toNat)
      case atStart => exact ⟨0, by omega, rfl, HB0.out, by simpa using HOW0.out⟩
      case round =>
        obtain ⟨k, hk, rfl, hb, hown⟩ := hrel
        have hcm := (H1.out.below hb).cell
        by_cases hkn : k < N
        · have i1 : (k : Int) < (N : Int) := by omega
          have i2 : (0 : Int) ≤ (k : Int) := by omega
          have hkp : k < L.length := by have := HN.out; omega
          obtain ⟨b1, o1, e1, hb1, hl1, hx1, hc1⟩ := (H1.out.below hb).row.prs.shape (by omega)
          subst e1
          obtain ⟨x0, x1, x2⟩ := hc1 k hkp
          obtain ⟨y0, y1, _, _⟩ := HP.out.below HP.out.lt hb
          have hft := filter_take (p := P) hkp
          have hPq : P L[k] = (insB a l L[k].a L[k].l && decide (L[k].l = (n : Int))) := by rw [← HPP.out]
          generalize L[k] = q at x0 x1 x2 hft hPq
          have hx1' : cv ≤ 9223372036854775807 := by unfold maxLen at hx1; omega
          have HBR : Hid (Below w1.heap.size w1 wr) := hb
          have hin := fun W => refInside_any a l q.a q.l W
          have HOW : Hid (OwnR wr w1.heap.size u5 (O ++ (L.take k).filter P)) := hown
          have HX : Hid (PrCells wr b1 (o1 + k * 3) q ∧ b1 < wr.heap.size) := ⟨⟨x0, x1, x2⟩, hb1⟩
          clear hc1 hx1 hb hown
          have z0 := Ext.cell hcm
          have z1 := Ext.cell x0
          have z2 := Ext.cell x1
          have z3 := Ext.cell y0
          have z4 := Ext.cell y1
          rcases hib : insB a l q.a q.l with _ | _
          · rw [hib] at hin hPq
            rw [Bool.false_and] at hPq
            rw [hPq] at hft
            simp only [Bool.false_eq_true, if_false, List.append_nil] at hft
            have HFT : Hid ((L.take (k + 1)).filter P = (L.take k).filter P) := hft
            have hcl := Ext.call (w := wr) hin
            clear hft hPq hib
            go_upto_region 8 with fail
            refine wp_region_ext (by kernel_rfl) (by kernel_rfl) ?_
            repeat (go_big_quiet_step ((go_at_call 30; exact hcl _)))
            refine wpQuiet_nil ?_
            rintro _ ⟨u, rfl⟩
            have HB4 : Hid (Below w1.heap.size w1 u.W) := HBR.out.trans (u.h.mono HBR.out.size)
            have HO4 : Hid (OwnR u.W w1.heap.size u5 (O ++ (L.take k).filter P)) := HOW.out.below u.h
            obtain ⟨w4, hw4⟩ : ∃ w4, u.W = w4 := ⟨_, rfl⟩
            rw [hw4] at HB4 HO4 ⊢
            clear hw4 z0 z1 z2 z3 z4 hcl hin hcm x0 x1 x2 y0 y1
            go_wp2_with fail
            go_roundw
            case rel => exact ⟨k + 1, by omega, by go_num, HB4.out, by rw [HFT.out]; exact HO4.out⟩
            case measure => simp [intOf]; omega
          · rw [hib] at hin hPq
            rw [Bool.true_and] at hPq
            have hcl := Ext.call (w := wr) hin
            have z5 := Ext.cell x2
            clear hib
            go_upto_region 8 with fail
            refine wp_region_ext (by kernel_rfl) (by kernel_rfl) ?_
            repeat (go_big_quiet_step ((go_at_call 30; exact hcl _)))
            refine wpQuiet_nil ?_
            rintro _ ⟨u, rfl⟩
            have HB4 : Hid (Below w1.heap.size w1 u.W) := HBR.out.trans (u.h.mono HBR.out.size)
            have HO4 : Hid (OwnR u.W w1.heap.size u5 (O ++ (L.take k).filter P)) := HOW.out.below u.h
            have c0 := z0 u
            have hX4 := HX.out.1.keep (u.h.block b1 HX.out.2)
            obtain ⟨w4, hw4⟩ : ∃ w4, u.W = w4 := ⟨_, rfl⟩
            rw [hw4] at HB4 HO4 c0 hX4 ⊢
            obtain ⟨c1, c2, c3⟩ := hX4
            have hl4 : (O ++ (L.take k).filter P).length ≤ 1000000 := by rw [List.length_append]; have := List.length_filter_le P (L.take k); have := List.length_take_le k L; have := HOL.out; omega
            have hs4 : w1.heap.size ≤ w4.heap.size := HB4.out.size
            clear hw4 z0 z1 z2 z3 z4 z5 hcl hin hcm x0 x1 x2 y0 y1
            by_cases hqn : q.l = (n : Int)
            · rw [decide_eq_true hqn] at hPq
              rw [hPq] at hft
              simp only [if_true] at hft
              have HFT : Hid ((L.take (k + 1)).filter P = (L.take k).filter P ++ [q]) := hft
              have HQN : Hid (q.l = (n : Int)) := hqn
              obtain ⟨ql, hql⟩ : ∃ ql, q.l = ql := ⟨_, rfl⟩
              have HB5 : Hid (Below w1.heap.size w1 (w4.alloc (.cells #[.int .i64 q.a, .int .i64 q.l, .int .i64 q.v] 34))) := HB4.out.alloc hs4 _
              clear hft hPq hqn
              have hbq : (q.l == (n : Int)) = true := by rw [HQN.out]; exact beq_self_eq_true _
              clear hql
              go_upto_region 10 with fail
              go_wp2_with (at_builtin; refine wpList_append_pr rfl (.tmp 46) (.tmp 54) rfl w1.heap.size _ _ rfl HO4.out q rfl hl4 hs4 ?_; intro g6 cap6 w6; generalize (O ++ (L.take k).filter P).length + 1 = M6; intro own6 grow6 n6; have HB6 : Hid (Below w1.heap.size w1 w6) := below_grownNo HB5.out grow6 (fun k hk => (HO4.out.block k hk).1); have HO6 : Hid (OwnR w6 w1.heap.size (.slice (some ⟨g6, 0, none⟩) M6 cap6) (O ++ (L.take k).filter P ++ [q])) := own6; clear own6 grow6 n6)
              go_roundw
              case rel => exact ⟨k + 1, by omega, by go_num, HB6.out, by rw [HFT.out, ← List.append_assoc]; exact HO6.out⟩
              case measure => simp [intOf]; omega
            · rw [decide_eq_false hqn] at hPq
              rw [hPq] at hft
              simp only [Bool.false_eq_true, if_false, List.append_nil] at hft
              have HFT : Hid ((L.take (k + 1)).filter P = (L.take k).filter P) := hft
              clear hft hPq
              go_wp2_with fail
              go_roundw
              case rel => exact ⟨k + 1, by omega, by go_num, HB4.out, by rw [HFT.out]; exact HO4.out⟩
              case measure => simp [intOf]; omega
        · have hkn' : N ≤ k := by omega
          have i1 : ¬ (k : Int) < (N : Int) := by omega
          rw [List.take_of_length_le (by have := HN.out; omega)] at hown
          have HB4 : Hid (Below w1.heap.size w1 wr) := hb
          have HO4 : Hid (OwnR wr w1.heap.size u5 (O ++ L.filter P)) := hown
          clear hb hown
          go_wp2_with fail
          go_roundw
          case rel => exact ⟨n + 1, by omega, by go_num, HB4.out, by rw [HOV.out]; exact HO4.out⟩
          case measure => simp [intOf]; omega
    · have j1 : ¬ (n : Int) ≤ 32 := by omega
      have HZ : Hid (RList (ovR L a l 33) w (.returned u5) wr) := by
        obtain rfl : n = 33 := by omega
        exact ⟨u5, rfl, hown0.base HB.out.size, HB.out.trans (hb0.mono HB.out.size)⟩
      clear hb0 hown0
      go_wp2_with fail
      go_ret
      exact HZ.out
end Go.Proofs.YtdpnmhfhjcebbaaDoor
