/- RuleBack: the law's walk. Conditions: a text of at most 1048576 bytes; the library's variables and the words of package rule lie as listed. -/
import Derived.Test.YthnkjfgiclolaaaGreatDoorRuleX4
import Derived.Test.YthnkjfgiclolaaaGreatDoorRulePr
import Derived.Test.YthnkjfgiclolaaaGreatDoorMgL
import Derived.Deep.DeepMust
namespace Go.Proofs.YthnkjfgiclolaaaGreatDoor
open Go.RowKit
set_option linter.unusedVariables false
set_option maxRecDepth 10000

theorem lit_short : litL.length = 56 := by decide
/-- The law's first text is read as it stands. -/
theorem parse_fact (w : World) (htx : TxE w) (hwd : Wrds w) : Calls Tryz.prog 11 #[.string (mkB litL)] w fun e w' => ∃ g c g2 c2, e = .returned (.tuple #[.slice (some ⟨g, 0, none⟩) 1 c, .int .i64 0, .nilIface]) ∧ 1 ≤ c ∧ 1 ≤ c2 ∧ w'.cell? ⟨g, 2, none⟩ = some (.bool true) ∧ w'.cell? ⟨g, 10, none⟩ = some (.slice (some ⟨g2, 0, none⟩) 1 c2) ∧ w'.cell? ⟨g2, 0, none⟩ = some (.int .i64 80) ∧ Below w.heap.size w w' := by
  have hll := lit_short
  refine (ruParse_any litL w (by omega) (fun x hx => by have := lnsL_len hx; omega) htx hwd).mono ?_
  rintro e w' ⟨rs, v, h1, rfl, h3, h4, h5⟩
  rw [fact_read] at h1 ⊢
  have hlen : rs.length = 1 := by have := congrArg List.length h1; simpa using this
  match rs, hlen with
  | [x], _ =>
    obtain ⟨r, fv, tv⟩ := x
    simp only [List.map_cons, List.map_nil, List.cons.injEq, and_true] at h1
    subst h1
    obtain ⟨g, c, rfl, _, hg2, hg3, _⟩ := h3.shape (by simp)
    obtain ⟨_, ho, _, _⟩ := h4 (factR, fv, tv) (by simp)
    have ho : OwnSp w' w.heap.size tv [(80, 80)] := ho
    obtain ⟨g2, c2, rfl, _, _, hc2, _⟩ := ho.shape (by simp)
    refine ⟨g, c, g2, c2, rfl, hg3, hc2, ?_, ?_, ?_, h5⟩
    · have := h3.cell 0 (by simp) 2 (.bool true) rfl
      simpa using this
    · have := h3.cell 0 (by simp) 10 (.slice (some ⟨g2, 0, none⟩) 1 c2) rfl
      simpa using this
    · have := (ho.cells 0 (by simp)).1
      simpa using this
/-- What was printed is read back. -/
theorem rparse_back {A : List Rl} (hA : rusE A = 0) (w : World) (htx : TxE w) (hwd : Wrds w) :
    Calls Tryz.prog 11 #[.string (mkB (linesL A))] w fun e w' => ∃ rs a n c, e = .returned (.tuple #[.slice a n c, .int .i64 0, .nilIface]) ∧ rs.map Prod.fst = A ∧ Rls w' (.slice a n c) rs ∧ Below w.heap.size w w' := by
  obtain ⟨a1, a2⟩ := rusE_zero0 hA
  have hsh := lines_short0 a2 a1
  have e : parS [] (lnsL (linesL A)) = (A, 0, 0) := by
    have h := lnsL_lines (t := []) (rs := A) (fun r hr => writ_of (a2 r hr))
    rw [List.append_nil, lnsL_nil, List.append_nil] at h
    have h2 := parS_lines (t := []) A [] a2 (by simpa using a1)
    rw [List.append_nil] at h2
    rw [h, h2, parS_end]; rfl
  refine (ruParse_any _ w (by omega) (fun x hx => Nat.le_trans (lnsL_len hx) hsh) htx hwd).mono ?_
  rintro e' w' ⟨rs, v, h1, rfl, h3, h4, h5⟩
  rw [e] at h1 ⊢
  obtain ⟨a, n, c, rfl⟩ := h3.is
  exact ⟨rs, a, n, c, rfl, h1, h3.rls h4.pts, h5⟩
/-- What any text is read as is printed as that text. -/
theorem parse_any2 {T : List UInt8} (hT : T.length ≤ 1048576) (w : World) (htx : TxE w) (hwd : Wrds w) :
    Calls Tryz.prog 11 #[.string (mkB T)] w fun e w' => ∃ rs a n c m, e = .returned (.tuple #[.slice a n c, .int .i64 m, erV (parS [] (lnsL T)).2.2]) ∧ rs.map Prod.fst = (parS [] (lnsL T)).1 ∧ Rls w' (.slice a n c) rs ∧ Below w.heap.size w w' := by
  refine (ruParse_any _ w (by omega) (fun x hx => Nat.le_trans (lnsL_len hx) hT) htx hwd).mono ?_
  rintro e' w' ⟨rs, v, h1, rfl, h3, h4, h5⟩
  obtain ⟨a, n, c, rfl⟩ := h3.is
  exact ⟨rs, a, n, c, _, rfl, h1, h3.rls h4.pts, h5⟩
theorem bne_self_str (s : ByteArray) : (s.toList != s.toList) = false := by simp
set_option maxHeartbeats 16000000 in
theorem back_tail (T : List UInt8) (w W : World) (hT : T.length ≤ 1048576) (hb : Below w.heap.size w W) (htx : TxE w) (hwd : Wrds w) :
    ∀ (W : World), Below w.heap.size w W → Calls Tryz.prog 11 #[.string (mkB T)] W fun e W' => ∃ a n c m, (e = .returned (.tuple #[.slice a n c, .int .i64 m, .nilIface]) ∧ (Calls Tryz.prog 9 #[.slice a n c] W' fun e w' => e = .returned (.tuple #[.string (mkB T), .nilIface]) ∧ Below W'.heap.size W' w') ∧ Below W.heap.size W W') ∨ (∃ z, e = .returned (.tuple #[.slice a n c, .int .i64 m, .iface 45 (.int .i64 z)]) ∧ Below W.heap.size W W') := by
  intro W hW
  refine (parse_any2 hT W (htx.below hW) (hwd.below hW)).mono ?_
  rintro e W' ⟨rs, a, n, c, m, rfl, h1, h2, h3⟩
  refine ⟨a, n, c, m, ?_⟩
  by_cases hz : (parS [] (lnsL T)).2.2 = 0
  · left
    obtain ⟨p1, p2⟩ := parse_written hz
    rw [hz, show erV 0 = .nilIface from rfl]
    have hp := ruPrint_any _ rs W' h2 ((htx.below hW).below h3) ((hwd.below hW).below h3)
    rw [h1, p1, if_pos rfl, p2, show erV 0 = .nilIface from rfl] at hp
    exact ⟨rfl, hp, h3⟩
  · right
    rw [erV_ne hz]
    exact ⟨_, rfl, h3⟩
set_option maxHeartbeats 16000000 in
theorem rback_walk (v : Value) (al : List Rx) (s : ByteArray) (w : World) (ha : Rls w v al) (hs : s.size ≤ 1048576) (htx : TxE w) (hwd : Wrds w) :
    Calls Tryz.prog 4 #[v, .string s] w fun e w' => e = .returned (.bool true) ∧ Below w.heap.size w w' := by
  obtain ⟨ao, co, hve⟩ := ha.len
  obtain ⟨N, hN⟩ : ∃ N, al.length = N := ⟨_, rfl⟩
  rw [hN] at hve
  subst hve
  obtain ⟨T, hT⟩ : ∃ T, s = mkB T := ⟨s.data.toList, (mkB_data s).symm⟩
  subst hT
  rw [mkB_size] at hs
  obtain ⟨Q, hQ⟩ : ∃ Q : Ending → World → Prop, Q = fun e w' => e = .returned (.bool true) ∧ Below w.heap.size w w' := ⟨_, rfl⟩
  have HQ : Hid (∀ w', Below w.heap.size w w' → Q (.returned (.bool true)) w') := by rw [hQ]; exact fun _ h => ⟨rfl, h⟩
  rw [← hQ]
  clear hQ
  obtain ⟨A, hA⟩ : ∃ A, al.map Prod.fst = A := ⟨_, rfl⟩
  have HTL := hidE (back_tail T w w hs (Below.refl _ _) htx hwd)
  have HAS := hidE ha
  have HTX := hidE htx
  have HWD := hidE hwd
  have HA := hidE hA
  have p0 := parse_fact w htx hwd
  rw [show mkB litL = (⟨#[112, 97, 115, 115, 32, 105, 110, 32, 107, 105, 110, 100, 32, 115, 116, 114, 101, 97, 109, 32, 102, 114, 111, 109, 32, 97, 110, 121, 32, 116, 111, 32, 49, 46, 50, 46, 51, 46, 52, 47, 51, 50, 32, 112, 111, 114, 116, 32, 56, 48, 32, 107, 101, 101, 112, 10]⟩ : ByteArray) from rfl] at p0
  have p1 := fun W (hW : Below w.heap.size w W) => ruPrint_any _ al W (ha.below hW) (htx.below hW) (hwd.below hW)
  rw [hA] at p1
  have hTs : (mkB T).size ≤ 1048576 := by rw [mkB_size]; exact hs
  clear ha hs htx hwd hA hN
  obtain ⟨S, hS⟩ : ∃ S, mkB T = S := ⟨_, rfl⟩
  rw [hS] at HTL hTs ⊢
  clear hS
  go_enter Tryz.func4, Tryz.ntmps4
  go_upto_region 4 with (go_at_call 11; go_must (refine p0.mono ?_; rintro e w1 ⟨g, c, g2, c2, rfl, hc1, hc2, d1, d2, d3, b1⟩))
  have HB1 := hidE b1
  have p2 := p1 w1 b1
  clear p0 p1 b1 hc1 hc2 d1 d2 d3
  by_cases e1 : rusE A = 0
  case neg =>
    rw [erV_ne e1, if_neg e1] at p2
    generalize rusE A = z at p2
    clear e1
    go_upto_region 11 with (go_at_call 9; go_must (refine p2.mono ?_; rintro e w2 ⟨rfl, b2⟩))
    have HB2 := hidE (HB1.out.trans (b2.mono HB1.out.size))
    have p3 := HTL.out w2 HB2.out
    clear p2 b2 HTL
    go_upto_region 12 with (go_at_call 11; go_must (refine p3.mono ?_; rintro e w3 ⟨a3, n3, c3, m3, h3⟩; rcases h3 with ⟨rfl, p4, b3⟩ | ⟨z3, rfl, b3⟩))
    all_goals
      have HB3 := hidE (HB2.out.trans (b3.mono HB2.out.size))
      clear p3 b3
    · go_wp2_with (go_at_call 9; go_must (refine p4.mono ?_; rintro e w4 ⟨rfl, b4⟩))
      exact HQ.out _ (HB3.out.trans (b4.mono HB3.out.size))
    · go_wp2
      exact HQ.out _ HB3.out
  rw [e1, if_pos rfl, show erV 0 = .nilIface from rfl] at p2
  have hz := rusE_zero0 e1
  have hpl := lines_plain (rs := A) (fun r hr => writ_of (hz.2 r hr))
  have HPB := hidE (fun W (hW : Below w.heap.size w W) => rparse_back e1 W (HTX.out.below hW) (HWD.out.below hW))
  have hzA : (mkB (linesL A)).size ≤ 1048576 := by rw [mkB_size]; exact lines_short0 hz.2 hz.1
  have HX1 := hidE (fun (hl : (mkB (linesL A)).size ≤ 2000) W (hW : Below w.heap.size w W) => expand_plain (linesL A) W (HTX.out.below hW) (by rw [mkB_size] at hl; exact hl) hpl)
  have HX2 := hidE (fun (hl : 2000 < (mkB (linesL A)).size) W => expand_full (linesL A) W (by rw [mkB_size] at hl; exact hl))
  obtain ⟨LA, hLA⟩ : ∃ LA, mkB (linesL A) = LA := ⟨_, rfl⟩
  rw [hLA] at p2 HPB hzA HX1 HX2
  clear hLA hpl hz e1
  go_upto_region 6 with (go_at_call 9; go_must (refine p2.mono ?_; rintro e w2 ⟨rfl, b2⟩))
  have HB2 := hidE (HB1.out.trans (b2.mono HB1.out.size))
  have p3 := HPB.out w2 HB2.out
  clear p2 b2 HPB
  go_upto_region 7 with (go_at_call 11; go_must (refine p3.mono ?_; rintro e w3 ⟨rs, a3, n3, c3, rfl, hrs, rl3, b3⟩))
  have HB3 := hidE (HB2.out.trans (b3.mono HB2.out.size))
  have sm := sameRls (.slice a3 n3 c3) (.slice ao N co) rs al w3 rl3 (HAS.out.below HB3.out) (by rw [HA.out]; exact hrs)
  clear p3 b3 hrs rl3
  go_upto_region 8 with (go_at_call 12; go_must (refine sm.mono ?_; rintro e w4 ⟨rfl, b4⟩))
  have HB4 := hidE (HB3.out.trans (b4.mono HB3.out.size))
  clear sm b4
  by_cases hl : LA.size ≤ 2000
  · have x1 := HX1.out hl w4 HB4.out
    have i1 : (LA.size : Int) ≤ 2000 := by omega
    clear hl HX1 HX2
    go_upto_region 11 with (go_at_call 13; go_must (refine x1.mono ?_; rintro e w5 ⟨rfl, b5⟩))
    have HB5 := hidE (HB4.out.trans (b5.mono HB4.out.size))
    have p5 := HTL.out w5 HB5.out
    clear x1 b5 HTL
    go_upto_region 12 with (go_at_call 11; go_must (refine p5.mono ?_; rintro e w6 ⟨a6, n6, c6, m6, h6⟩; rcases h6 with ⟨rfl, p7, b6⟩ | ⟨z6, rfl, b6⟩))
    all_goals
      have HB6 := hidE (HB5.out.trans (b6.mono HB5.out.size))
      clear p5 b6
    · go_wp2_with (go_at_call 9; go_must (refine p7.mono ?_; rintro e w7 ⟨rfl, b7⟩))
      exact HQ.out _ (HB6.out.trans (b7.mono HB6.out.size))
    · go_wp2
      exact HQ.out _ HB6.out
  · have x1 := HX2.out (by omega) w4
    have i1 : ¬ (LA.size : Int) ≤ 2000 := by omega
    clear hl HX1 HX2
    go_upto_region 11 with (go_at_call 13; go_must (refine x1.mono ?_; rintro e w5 ⟨rfl, b5⟩))
    have HB5 := hidE (HB4.out.trans (b5.mono HB4.out.size))
    have p5 := HTL.out w5 HB5.out
    clear x1 b5 HTL
    go_upto_region 12 with (go_at_call 11; go_must (refine p5.mono ?_; rintro e w6 ⟨a6, n6, c6, m6, h6⟩; rcases h6 with ⟨rfl, p7, b6⟩ | ⟨z6, rfl, b6⟩))
    all_goals
      have HB6 := hidE (HB5.out.trans (b6.mono HB5.out.size))
      clear p5 b6
    · go_wp2_with (go_at_call 9; go_must (refine p7.mono ?_; rintro e w7 ⟨rfl, b7⟩))
      exact HQ.out _ (HB6.out.trans (b7.mono HB6.out.size))
    · go_wp2
      exact HQ.out _ HB6.out
end Go.Proofs.YthnkjfgiclolaaaGreatDoor
