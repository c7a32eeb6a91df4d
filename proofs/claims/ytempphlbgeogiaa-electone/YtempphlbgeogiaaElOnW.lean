/- ElectOne: the law's walk. -/
import Derived.Test.YtempphlbgeogiaaElOnB
namespace Go.Proofs.Ytempphlbgeogiaa
open Go.RowKit
set_option linter.unusedVariables false

theorem one_ask1 : askE { now := 0, lease := 10, own := 0, unt := 0 } 0 5 = 0 := by decide
theorem one_ask1v : askI { now := 0, lease := 10, own := 0, unt := 0 } 0 5 = 15 := by decide
theorem one_ask2 : askE (askA { now := 0, lease := 10, own := 0, unt := 0 } 0 5) 1 6 = 7 := by decide
theorem one_ask2v : askI (askA { now := 0, lease := 10, own := 0, unt := 0 } 0 5) 1 6 = 0 := by decide
theorem one_ask3 : askE (askA (askA { now := 0, lease := 10, own := 0, unt := 0 } 0 5) 1 6) 1 15 = 0 := by decide
theorem one_ask3v : askI (askA (askA { now := 0, lease := 10, own := 0, unt := 0 } 0 5) 1 6) 1 15 = 25 := by decide
theorem one_ok : ArOk { now := 0, lease := 10, own := 0, unt := 0 } := ⟨by decide, by decide, by decide, by decide⟩
set_option maxRecDepth 100000 in
set_option maxHeartbeats 32000000 in
theorem one_any (lease drift off oth : Int) (v : Value) (l : List (List Int × Value)) (w : World) (hv : Rowz w v l) (hl : l.length ≤ 140737488355328) :
    Calls Try.prog 3 #[.int .i64 lease, .int .i64 drift, .int .i64 off, .int .i64 oth, v] w fun e w' => e = .returned (.bool true) ∧ Below w.heap.size w w' := by
  have n1 := newA_fit 10 w (by decide) (by decide)
  obtain ⟨av, cv, rfl⟩ := hv.len
  have HV := hidO hv
  clear hv
  go_enter Try.func3, Try.ntmps3
  go_upto_region 4 with (go_at_call 4; go_must (refine n1.mono ?_; rintro e W1 ⟨rfl, k1, b1, s1⟩))
  have q1 := ask_any w.heap.size _ 0 5 W1 k1 one_ok
  rw [one_ask1, one_ask1v, show elV 0 = .nilIface from rfl] at q1
  clear s1 n1
  go_upto_region 5 with (go_at_call 5; go_must (refine q1.mono ?_; rintro e W2 ⟨rfl, k2, t2⟩))
  have q2 := ask_any w.heap.size _ 1 6 W2 k2 (one_ok.ask _ _)
  rw [one_ask2, one_ask2v, show elV 7 = .iface 39 (.int .i64 7) from rfl] at q2
  go_upto_region 6 with (go_at_call 5; go_must (refine q2.mono ?_; rintro e W3 ⟨rfl, k3, t3⟩))
  have q3 := ask_any w.heap.size _ 1 15 W3 k3 ((one_ok.ask _ _).ask _ _)
  rw [one_ask3, one_ask3v, show elV 0 = .nilIface from rfl] at q3
  go_upto_region 7 with (go_at_call 5; go_must (refine q3.mono ?_; rintro e W4 ⟨rfl, k4, t4⟩))
  have HB4 : Hid (Below w.heap.size w W4) := by
    have c2 := t2.below b1 b1.size (fun i hi => by subst hi; exact Nat.le_refl _)
    have c3 := t3.below c2 c2.size (fun i hi => by subst hi; exact Nat.le_refl _)
    exact t4.below c3 c3.size (fun i hi => by subst hi; exact Nat.le_refl _)
  clear k1 b1 q1 k2 t2 q2 k3 t3 q3 k4 t4
  go_upto_region 9 with fail
  by_cases hL : 1 ≤ lease ∧ lease ≤ 1000000
  · have n1 := newA_fit lease W4 (by omega) (by omega)
    go_upto_region 10 with (go_at_call 4; go_must (refine n1.mono ?_; rintro e W5 ⟨rfl, k5, b5, s5⟩))
    have S5 := hidO s5
    clear n1 s5
    by_cases hD : 0 ≤ drift ∧ drift ≤ 1000
    · have d1 := hD.1
      have d2 := hD.2
      have n2 := newV_fit 0 9 drift W5 (decide_eq_true ⟨.inl rfl, ⟨by decide, by decide⟩, hD⟩)
      go_upto_region 11 with (go_at_call 6; go_must (refine n2.mono ?_; rintro e W6 ⟨rfl, k6, b6, s6⟩))
      have S6 := hidO s6
      clear s6
      have n3 := newV_fit 1 9 drift W6 (decide_eq_true ⟨.inr rfl, ⟨by decide, by decide⟩, hD⟩)
      go_upto_region 12 with (go_at_call 6; go_must (refine n3.mono ?_; rintro e W7 ⟨rfl, k7, b7, s7⟩))
      have S7 := hidO s7
      clear s7
      have HB7 : Hid (Below w.heap.size w W7) := ((HB4.out.trans (b5.mono HB4.out.size)).trans (b6.mono (Nat.le_trans HB4.out.size b5.size))).trans (b7.mono (Nat.le_trans (Nat.le_trans HB4.out.size b5.size) b6.size))
      clear n2 n3
      by_cases hO : (-drift ≤ off ∧ off ≤ drift) ∧ (-drift ≤ oth ∧ oth ≤ drift)
      · have i1 : ¬ off < -drift := by omega
        have i2 : ¬ drift < off := by omega
        have i3 : ¬ oth < -drift := by omega
        have i4 : ¬ drift < oth := by omega
        have HOF : Hid (OffI drift off oth) := ⟨hD, hO.1, hO.2⟩
        have k5' := (k5.below b6).below b7
        have k6' := k6.below b7
        obtain ⟨A, hA⟩ : ∃ A, W4.heap.size = A := ⟨_, rfl⟩
        obtain ⟨X, hX⟩ : ∃ X, W5.heap.size = X := ⟨_, rfl⟩
        obtain ⟨Y, hY⟩ : ∃ Y, W6.heap.size = Y := ⟨_, rfl⟩
        have s5 := S5.out
        have s6 := S6.out
        have s7 := S7.out
        rw [hA] at k5' s5
        rw [hX] at k6' s5 s6
        rw [hY] at k7 s6 s7
        have h4s := HB4.out.size
        have HK : Hid (ArAt W7 A { now := 0, lease := lease, own := 0, unt := 0 } ∧ VtAt W7 X { now := 0, node := 0, prio := 9, drift := drift, unt := 0, oth := 0, cnt := 0 } ∧ VtAt W7 Y { now := 0, node := 1, prio := 9, drift := drift, unt := 0, oth := 0, cnt := 0 }) := ⟨k5', k6', k7⟩
        have HOO : Hid (OnO w A X Y W7.heap.size) := ⟨by omega, by omega, by omega, by omega⟩
        rw [hA, hX, hY]
        clear k5 k6 k7 k5' k6' b5 b6 b7 s5 s6 s7 S5 S6 S7 hA hX hY h4s HB4
        go_upto_region 16 with fail
        have HS0 : Hid (OnS w lease drift off oth A X Y W7.heap.size 2000 (W7.alloc (.cells #[.int .i64 0, .int .i64 0] 33))) := by
          obtain ⟨q1, q2, q3⟩ := HK.out
          have bb : Below W7.heap.size W7 (W7.alloc (.cells #[.int .i64 0, .int .i64 0] 33)) := (Below.refl _ _).alloc (Nat.le_refl _) _
          exact ⟨⟨_, _, _, 0, 0, q1.below bb, q2.below bb, q3.below bb, heap_alloc_new _ _, OneI.new drift off oth hL.1 hL.2 HOF.out⟩, HB7.out.alloc HB7.out.size _⟩
        obtain ⟨L, hLL⟩ : ∃ L, W7.heap.size = L := ⟨_, rfl⟩
        rw [hLL] at HOO HS0
        rw [hLL]
        obtain ⟨W8, hW8⟩ : ∃ W8, W7.alloc (.cells #[.int .i64 0, .int .i64 0] 33) = W8 := ⟨_, rfl⟩
        rw [hW8] at HS0
        rw [hW8]
        clear hW8 HK hLL HB7 hO hL hD
        go_upto_block 0 with fail
        go_cut [25, 27] (fun _ _ wx => Hid (Below w.heap.size w wx))
        case first =>
          go_wp2_with fail
          go_loopw [25, 27] (fun v25 v27 wr => ∃ (i : Nat) (now : Int), v25 = .int .i64 now ∧ v27 = .int .i64 (i : Int) ∧ i ≤ 60 ∧ 2000 ≤ now ∧ now ≤ 2000 + 5000 * (i : Int) ∧ Hid (OnS w lease drift off oth A X Y L now wr)) (fun _ v27 _ => (100 - intOf v27).toNat)
          case atStart => exact ⟨0, 2000, rfl, rfl, by omega, by omega, by omega, HS0⟩
          case round =>
            clear HS0
            obtain ⟨i, now, rfl, rfl, hi60, hn1, hn2, HS⟩ := hrel
            by_cases hi : i < l.length ∧ i < 60
            · have hi1 : (i : Int) < (l.length : Int) := by omega
              have hi2 : (i : Int) < 60 := by omega
              obtain ⟨g, of, rfl, hg, hgc, hgm, hcells⟩ := HV.out.at (by omega)
              obtain ⟨c0, hN⟩ := hcells i hi.1
              obtain ⟨an, cn, ean⟩ := hN.len
              rw [ean] at c0 hN
              generalize (l[i]'hi.1).1 = zs at c0 hN
              have HN := hidO hN
              have HC0 : Hid (∀ X', Below w.heap.size w X' → X'.cell? ⟨g, of + i, none⟩ = some (.slice an zs.length cn)) := fun X' bX => (bX.cell (p := ⟨g, of + i, none⟩) hg).trans c0
              clear hcells c0 ean hN
              go_upto_block 1 with fail
              refine one_round w wr lease drift off oth now A X Y L g of l.length cv i an cn zs _ _ _ (by kernel_rfl) HOO HOF HS HN HC0 hi1 hi.2 hgc hgm hn1 hn2 _ _ _ _ _ _ _ _ _ _ _ _ _ _ _ _ _ _ _ _ _ _ _ _ _ _ _ _ _ _ _ _ _ _ _ _ _ _ _ _ _ _ _ _ _ _ _ _ _ _ _ _ _ _ _ _ _ _ _ _ _ _ _ _ _ _ _ _ _ _ _ _ _ _ _ _ _ _ _ _ _ _ _ _ _ _ _ _ _ _ _ _ _ _ _ _ _ _ _ _ _ _ _ _ _ _ _ _ _ _ _ _ _ _ _ _ _ _ _ _ _ _ _ _ _ _ _ _ _ _ _ _ _ _ _ _ _ _ _ _ _ _ _ _ _ _ _ _ _ _ _ _ _ _ _ _ _ _ _ _ _ _ _ _ _ _ _ _ _ _ _ _ _ _ _ _ _ _ _ _ _ _ _ _ _ _ _ _ _ _ _ _ _ _ _ _ _ _ _ _ _ _ _ _ _ _ _ _ _ _ _ _ _ _ _ _ _ _ _ _ _ _ _ _ _ _ _ _ _ _ _ _ _ _ _ _ _ _ _ _ _ _ _ _ _ _ _ _ _ _ _ _ _ _ _ _ _ _ _ _ _ _ _ _ _ _ _ _ _ _ _ _ _ _ _ _ _ _ _ _ _ _ ?_
              intro n9 W9 u10' u28' u29' u30' u31' u32' u33' u34' u35' u36' u37' u38' u39' u136' u137' u138' u139' u140' u141' u142' u143' u144' u145' u146' u147' u148' u149' u150' u151' u152' u153' u154' u155' u156' u157' u158' u159' u160' u161' u162' u163' u164' u165' u166' u167' u168' u169' u170' u171' u172' u173' u174' u175' u176' u177' u178' u179' u180' u181' u182' u183' u184' u185' u186' u187' u188' u189' u190' u191' u192' u193' u194' u195' u196' u197' u198' u199' u200' u201' u202' u203' u204' u205' u206' u207' u208' u209' u210' u211' u212' u213' u214' u215' u216' u217' u218' u219' u220' u221' u222' u223' u224' u225' u226' u227' u228' u229' u230' u231' u232' u233' u234' u235' u236' u237' u238' u239' u240' u241' u242' u243' u244' u245' u246' u247' u248' u249' u250' u251' u252' u253' u254' u255' u256' u257' u258' u259' u260' u261' u262' u263' u264' u265' u266' u267' u268' u269' u270' u271' u272' u273' u274' u275' u276' u277' u278' u279' u280' u281' u282' u283' u284' u285' u286' u287' u288' u289' u290' h1 h2 h9
              have H9 := hidO h9
              clear h9 HC0 HN HS
              conv =>
                arg 1
                zeta
              try go_step
              go_wp2_with fail
              go_roundw
              case rel => exact ⟨i + 1, n9, rfl, by simp, by omega, by omega, by omega, H9⟩
              case measure => simp only [intOf]; omega
            · rcases (by omega : (¬ (i : Int) < (l.length : Int)) ∨ ((i : Int) < (l.length : Int) ∧ ¬ (i : Int) < 60)) with hd | ⟨hd, hd2⟩
              all_goals
                clear hi
                go_wp2_with fail
                go_meet
                exact HS.out.bel
        case rest =>
          have HB := hcut
          clear hcut HS0 HV
          go_wp2_with fail
          go_ret
          exact ⟨rfl, HB.out⟩
      · rcases (by omega : off < -drift ∨ (¬ off < -drift ∧ drift < off) ∨ (¬ off < -drift ∧ ¬ drift < off ∧ oth < -drift) ∨ (¬ off < -drift ∧ ¬ drift < off ∧ ¬ oth < -drift ∧ drift < oth)) with h1 | ⟨h1, h2⟩ | ⟨h1, h2, h3⟩ | ⟨h1, h2, h3, h4⟩
        all_goals
          clear hL hO HV HB4 hD k5 k6 k7 b5 b6 b7 S5 S6 S7
          go_wp2_with fail
          go_ret
          exact ⟨rfl, HB7.out⟩
    · have n2 := newV_not 0 9 drift W5 (decide_eq_false (fun h => hD h.2.2))
      go_upto_region 11 with (go_at_call 6; go_must (refine n2.mono ?_; rintro e W6 ⟨rfl, b6⟩))
      have n3 := newV_not 1 9 drift W6 (decide_eq_false (fun h => hD h.2.2))
      go_upto_region 12 with (go_at_call 6; go_must (refine n3.mono ?_; rintro e W7 ⟨rfl, b7⟩))
      have HB7 : Hid (Below w.heap.size w W7) := ((HB4.out.trans (b5.mono HB4.out.size)).trans (b6.mono (Nat.le_trans HB4.out.size b5.size))).trans (b7.mono (Nat.le_trans (Nat.le_trans HB4.out.size b5.size) b6.size))
      clear n2 n3 hL HV HB4 hD k5 b5 b6 b7 S5
      go_wp2_with fail
      go_ret
      exact ⟨rfl, HB7.out⟩
  · have n1 := newA_not lease W4 (by omega)
    go_upto_region 10 with (go_at_call 4; go_must (refine n1.mono ?_; rintro e W5 ⟨rfl, b5⟩))
    obtain ⟨p, z, n2⟩ : ∃ p z, Calls Try.prog 6 #[.int .i64 0, .int .i64 9, .int .i64 drift] W5 fun e w' => e = .returned (.tuple #[p, z]) ∧ Below W5.heap.size W5 w' := by
      cases hD : nvB 0 9 drift
      · exact ⟨_, _, newV_not 0 9 drift W5 hD⟩
      · exact ⟨_, _, (newV_fit 0 9 drift W5 hD).mono fun e w' h => ⟨h.1, h.2.2.1⟩⟩
    go_upto_region 11 with (go_at_call 6; go_must (refine n2.mono ?_; rintro e W6 ⟨rfl, b6⟩))
    obtain ⟨p3, z3, n3⟩ : ∃ p z, Calls Try.prog 6 #[.int .i64 1, .int .i64 9, .int .i64 drift] W6 fun e w' => e = .returned (.tuple #[p, z]) ∧ Below W6.heap.size W6 w' := by
      cases hD : nvB 1 9 drift
      · exact ⟨_, _, newV_not 1 9 drift W6 hD⟩
      · exact ⟨_, _, (newV_fit 1 9 drift W6 hD).mono fun e w' h => ⟨h.1, h.2.2.1⟩⟩
    go_upto_region 12 with (go_at_call 6; go_must (refine n3.mono ?_; rintro e W7 ⟨rfl, b7⟩))
    have HB7 : Hid (Below w.heap.size w W7) := ((HB4.out.trans (b5.mono HB4.out.size)).trans (b6.mono (Nat.le_trans HB4.out.size b5.size))).trans (b7.mono (Nat.le_trans (Nat.le_trans HB4.out.size b5.size) b6.size))
    clear n1 n2 n3 hL HV HB4 b5 b6 b7
    go_wp2_with fail
    go_ret
    exact ⟨rfl, HB7.out⟩
end Go.Proofs.Ytempphlbgeogiaa
