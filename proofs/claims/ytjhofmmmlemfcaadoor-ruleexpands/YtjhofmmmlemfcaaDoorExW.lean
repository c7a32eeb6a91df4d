/- RuleExpands: the law's walk. Conditions: errors.errorType holds the handle of the type error; internal/bytealg.MaxLen holds a number. -/
import Derived.Test.YtjhofmmmlemfcaaDoorExR5
import Derived.Test.YtjhofmmmlemfcaaDoorTold
import Derived.Deep.DeepMust
namespace Go.Proofs.YtjhofmmmlemfcaaDoor
open Go.RowKit
set_option linter.unusedVariables false
set_option maxRecDepth 10000

theorem erO_val (n : Int) : ErrVal (erO n) n := by
  rcases erV_split n with ⟨h, e⟩ | ⟨h, e⟩
  · rw [e]; exact .inl ⟨rfl, h⟩
  · rw [e]; exact .inr rfl
theorem erO_same (n : Int) (w : World) (hg : ErrLaid w) : Calls Tryd.prog 6 #[erO n, .int .i64 n] w fun e w' => e = .returned (.bool true) ∧ Below w.heap.size w w' := by
  refine (error_val (erO_val n) n w hg).mono ?_
  rintro e w' ⟨rfl, hb⟩
  exact ⟨by rw [beq_self_eq_true], hb⟩
theorem row_of {w : World} {base : Nat} {v : Value} {ns : List (List UInt8)} (h : OwnS w base v (ns.map mkB)) : ∃ a c, v = .slice a ns.length c ∧ RowZ w a ns := by
  obtain ⟨a, c, hv, h2⟩ := h.rowT
  exact ⟨a, c, hv, h2⟩
set_option maxHeartbeats 64000000 in
theorem expands_walk (s : ByteArray) (w : World) (hs : s.size ≤ maxLen) (hL : ErrLaid w) (hM : MxL w) :
    Calls Tryd.prog 3 #[.string s] w fun e w' => e = .returned (.bool true) ∧ Below w.heap.size w w' := by
  obtain ⟨T, hT⟩ : ∃ T, s = mkB T := ⟨s.data.toList, (mkB_data s).symm⟩
  subst hT
  obtain ⟨Q, hQ⟩ : ∃ Q : Ending → World → Prop, Q = fun e w' => e = .returned (.bool true) ∧ Below w.heap.size w w' := ⟨_, rfl⟩
  have HQ : Hid (∀ w', Below w.heap.size w w' → Q (.returned (.bool true)) w') := by rw [hQ]; exact fun _ h => ⟨rfl, h⟩
  rw [← hQ]
  clear hQ hs
  have HM0 := hidR (maxl_lt hM)
  have HM := hidR hM
  have HL := hidR hL
  have hlen := (nmAll_len T).1
  obtain ⟨ns, hns⟩ : ∃ ns, (nmAll T).1 = ns := ⟨_, rfl⟩
  obtain ⟨ts, hts⟩ : ∃ ts, (nmAll T).2.1 = ts := ⟨_, rfl⟩
  obtain ⟨E, hE⟩ : ∃ E, (nmAll T).2.2 = E := ⟨_, rfl⟩
  obtain ⟨NK, hNK⟩ : ∃ m, ns.length = m := ⟨_, rfl⟩
  have hNT : ts.length = NK := by rw [← hts, ← hlen, hns]; exact hNK
  have g1 : Calls Tryd.prog 4 #[.string (mkB T)] w fun e w' => ∃ a3 c3 a4 c4 st, e = .returned (.tuple #[.slice a3 NK c3, .slice a4 NK c4, .string st, .int .i64 E]) ∧ RowZ w' a3 ns ∧ RowZ w' a4 ts ∧ Below w.heap.size w w' := by
    refine (refNames_any T w).mono ?_
    rintro e w' ⟨v, u, rfl, h⟩
    have h1 := h.o1
    have h2 := h.o2
    rw [hns] at h1
    rw [hts] at h2
    obtain ⟨a3, c3, rfl, r3⟩ := row_of h1
    obtain ⟨a4, c4, rfl, r4⟩ := row_of h2
    rw [hE, hNK, hNT]
    exact ⟨a3, c3, a4, c4, _, rfl, r3, r4, h.bel⟩
  have g2 : ∀ W, Below w.heap.size w W → Calls Tryd.prog 5 #[.string (mkB T)] W fun e w' => ∃ a7 c7 a8 c8, e = .returned (.tuple #[.slice a7 NK c7, .slice a8 NK c8, erO E]) ∧ RowZ w' a7 ns ∧ RowZ w' a8 ts ∧ Below W.heap.size W w' := fun W hW => by
    refine (names_all T W (mxl_below HM.out HM0.out hW)).mono ?_
    rintro e w' ⟨v, u, rfl, h⟩
    have h1 := h.o1
    have h2 := h.o2
    rw [hns] at h1
    rw [hts] at h2
    obtain ⟨a7, c7, rfl, r7⟩ := row_of h1
    obtain ⟨a8, c8, rfl, r8⟩ := row_of h2
    rw [hE, hNK, hNT]
    exact ⟨a7, c7, a8, c8, rfl, r7, r8, h.bel⟩
  have HG2 := hidR g2
  have HNK := hidR hNK
  have HNT := hidR hNT
  have HG3 := hidR (fun (W : World) (b : Below w.heap.size w W) => erO_same E W (HL.out.below b))
  have hNb : NK ≤ 2000 := by rw [← hNK, ← hns]; exact (nmAll_len T).2.1
  obtain ⟨X, hX⟩ : ∃ X, (expS T).1 = X := ⟨_, rfl⟩
  obtain ⟨Y, hY⟩ : ∃ Y, (expS T).2 = Y := ⟨_, rfl⟩
  have HG4 : Hid (∀ W, Calls Tryd.prog 7 #[.string (mkB T)] W fun e w' => e = .returned (.tuple #[.string (mkB X), .int .i64 Y]) ∧ Below W.heap.size W w') := fun W => by rw [← hX, ← hY]; exact refExpand_any T W
  have HG5 : Hid (∀ W, Below w.heap.size w W → Calls Tryd.prog 8 #[.string (mkB T)] W fun e w' => e = .returned (.tuple #[.string (mkB X), erO Y]) ∧ Below W.heap.size W w') := fun W hW => by rw [← hX, ← hY]; exact expand_any T W (mxl_below HM.out HM0.out hW)
  have HG6 := hidR (fun (W : World) (b : Below w.heap.size w W) => erO_same Y W (HL.out.below b))
  clear g2 hNK hNT hns hts hE hlen hX hY hM hL HM HM0 HL
  generalize erO E = ev at HG2 HG3
  generalize erO Y = ey at HG5 HG6
  generalize mkB T = sb at g1 HG2 HG4 HG5 ⊢
  generalize mkB X = xb at HG4 HG5
  go_enter Tryd.func3, Tryd.ntmps3
  go_upto_region 2 with (go_at_call 4; go_must (refine g1.mono ?_; rintro e w1 ⟨a3, c3, a4, c4, st, rfl, r3, r4, b1⟩))
  have HB1 := hidR b1
  have R3 := hidR r3
  have R4 := hidR r4
  have g2 := HG2.out w1 b1
  clear g1 b1 r3 r4 HG2
  go_upto_region 3 with (go_at_call 5; go_must (refine g2.mono ?_; rintro e w2 ⟨a7, c7, a8, c8, rfl, r7, r8, b2⟩))
  have HB2 := hidR (HB1.out.trans (b2.mono HB1.out.size))
  have R3 := hidR (R3.out.below b2)
  have R4 := hidR (R4.out.below b2)
  have R7 := hidR r7
  have R8 := hidR r8
  have g3 := HG3.out w2 HB2.out
  clear g2 b2 r7 r8 HB1 HG3
  go_upto_region 4 with (go_at_call 6; go_must (refine g3.mono ?_; rintro e w3 ⟨rfl, b3⟩))
  have HB3 := hidR (HB2.out.trans (b3.mono HB2.out.size))
  have R3 := hidR (R3.out.below b3)
  have R4 := hidR (R4.out.below b3)
  have R7 := hidR (R7.out.below b3)
  have R8 := hidR (R8.out.below b3)
  clear g3 b3 HB2
  go_upto_region 7 with fail
  go_loopw [11] (fun i wr => ∃ k : Nat, k ≤ NK ∧ i = .int .i64 (k : Int) ∧ Hid (Below w3.heap.size w3 wr)) (fun i _ => ((NK : Int) - intOf i).toNat)
  case atStart => exact ⟨0, by omega, rfl, Below.refl _ _⟩
  case round =>
    obtain ⟨k, hk, rfl, HW⟩ := hrel
    by_cases hlt : k < NK
    · have hlt' : (k : Int) < (NK : Int) := by omega
      have hk0 : (0 : Int) ≤ (k : Int) := by omega
      have hk1 : k < ns.length := by rw [HNK.out]; exact hlt
      have hk2 : k < ts.length := by rw [HNT.out]; exact hlt
      obtain ⟨g3, e3, l3, h3⟩ := (R3.out.below HW.out) (by omega)
      obtain ⟨g4, e4, l4, h4⟩ := (R4.out.below HW.out) (by omega)
      obtain ⟨g7, e7, l7, h7⟩ := (R7.out.below HW.out) (by omega)
      obtain ⟨g8, e8, l8, h8⟩ := (R8.out.below HW.out) (by omega)
      subst e3 e4 e7 e8
      have d3 := h3 k hk1
      have d4 := h4 k hk2
      have d7 := h7 k hk1
      have d8 := h8 k hk2
      generalize mkB ns[k] = x at d3 d7
      generalize mkB ts[k] = y at d4 d8
      have hx : (x.toList == x.toList) = true := beq_self_eq_true _
      have hy : (y.toList == y.toList) = true := beq_self_eq_true _
      clear h3 h4 h7 h8 l3 l4 l7 l8 R3 R4 R7 R8 hk1 hk2
      go_upto_region 9 with fail
      go_big_quiet (fail)
      go_wp2
      go_roundw
      case rel => exact ⟨k + 1, by omega, by go_num, _root_.Go.below_drewN HW.out _⟩
      case measure => simp [intOf]; omega
    · have hlf : ¬ (k : Int) < (NK : Int) := by omega
      have g4 := HG4.out wr
      clear hlt HG4 R3 R4 R7 R8
      go_upto_region 12 with (go_at_call 7; go_must (refine g4.mono ?_; rintro e w4 ⟨rfl, b4⟩))
      have HB4 := hidR ((HB3.out.trans (HW.out.mono HB3.out.size)).trans (b4.mono (HB3.out.trans (HW.out.mono HB3.out.size)).size))
      have g5 := HG5.out w4 HB4.out
      clear g4 b4 HB3 HG5
      go_upto_region 13 with (go_at_call 8; go_must (refine g5.mono ?_; rintro e w5 ⟨rfl, b5⟩))
      have HB5 := hidR (HB4.out.trans (b5.mono HB4.out.size))
      have g6 := HG6.out w5 HB5.out
      clear g5 b5 HB4 HG6
      have hx : (xb.toList == xb.toList) = true := beq_self_eq_true _
      go_wp2_with (go_at_call 6; go_must (refine g6.mono ?_; rintro e w6 ⟨rfl, b6⟩))
      exact HQ.out _ (HB5.out.trans (b6.mono HB5.out.size))
end Go.Proofs.YtjhofmmmlemfcaaDoor
