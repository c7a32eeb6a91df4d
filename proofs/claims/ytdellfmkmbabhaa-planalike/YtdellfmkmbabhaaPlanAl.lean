/- PlanAlike: the law's walk. No condition. -/
import Derived.Test.YtdellfmkmbabhaaPlanJud
namespace Go.Proofs.Ytdellfmkmbabhaa
open Go.RowKit
set_option linter.unusedVariables false
set_option maxRecDepth 10000

/-- A new plan. -/
theorem new_ok (v : Value) (rs : List Rx) (w : World) (hv : Rls w v rs) (hr : rusE (rs.map Prod.fst) = 0) :
    Calls Try.prog 5 #[v] w fun e w' => ∃ w1 P dv cv Cs, e = .returned (.tuple #[.pointer (some ⟨P, 0, none⟩), .nilIface]) ∧ LaySt w1 w' P 6 (rs.map Prod.fst) dv cv Cs ∧ Below w.heap.size w w' := by
  obtain ⟨Q, hQ⟩ : ∃ Q : Ending → World → Prop, Q = fun e w' => ∃ w1 P dv cv Cs, e = .returned (.tuple #[.pointer (some ⟨P, 0, none⟩), .nilIface]) ∧ LaySt w1 w' P 6 (rs.map Prod.fst) dv cv Cs ∧ Below w.heap.size w w' := ⟨_, rfl⟩
  have HQ : Hid (∀ w1 P dv cv Cs w', LaySt w1 w' P 6 (rs.map Prod.fst) dv cv Cs → Below w.heap.size w w' → Q (.returned (.tuple #[.pointer (some ⟨P, 0, none⟩), .nilIface])) w') := by rw [hQ]; exact fun w1 P dv cv Cs w' h1 h2 => ⟨w1, P, dv, cv, Cs, rfl, h1, h2⟩
  rw [← hQ]
  clear hQ
  obtain ⟨a, c, hve⟩ := hv.len
  have hck := rusCheck_any v rs w hv
  rw [hr, show erV 0 = .nilIface from rfl] at hck
  obtain ⟨h1, h2⟩ := rusE_zero.1 hr
  have HLY := hidE (fun W (hb : Below w.heap.size w W) => lay_any v rs W (hv.below hb) h2 (by rw [List.length_map] at h1; exact h1))
  generalize rs.length = N at hve
  subst hve
  clear hv hr h1 h2
  go_enter Try.func5, Try.ntmps5
  go_upto_region 4 with (go_at_call 7; go_must (refine hck.mono ?_; rintro e w1 ⟨rfl, b1⟩))
  have hly := HLY.out w1 b1
  have HB1 := hidE b1
  clear hck b1 HLY
  go_wp2_with (go_at_call 12; go_must (refine hly.mono ?_; rintro e w2 ⟨dv, cv, Cs, rfl, L2⟩))
  exact HQ.out _ _ _ _ _ _ L2 (HB1.out.trans (L2.bel.mono HB1.out.size))
theorem new_bad (v : Value) (rs : List Rx) (w : World) (hv : Rls w v rs) (hr : ¬ rusE (rs.map Prod.fst) = 0) :
    Calls Try.prog 5 #[v] w fun e w' => e = .returned (.tuple #[.pointer none, .iface 62 (.int .i64 (rusE (rs.map Prod.fst)))]) ∧ Below w.heap.size w w' := by
  obtain ⟨Q, hQ⟩ : ∃ Q : Ending → World → Prop, Q = fun e w' => e = .returned (.tuple #[.pointer none, .iface 62 (.int .i64 (rusE (rs.map Prod.fst)))]) ∧ Below w.heap.size w w' := ⟨_, rfl⟩
  have HQ : Hid (∀ w', Below w.heap.size w w' → Q (.returned (.tuple #[.pointer none, .iface 62 (.int .i64 (rusE (rs.map Prod.fst)))])) w') := by rw [hQ]; exact fun w' h => ⟨rfl, h⟩
  rw [← hQ]
  clear hQ
  obtain ⟨a, c, hve⟩ := hv.len
  have hck := rusCheck_any v rs w hv
  rw [erV_ne hr] at hck
  generalize rs.length = N at hve
  subst hve
  generalize rusE (rs.map Prod.fst) = z at hck HQ
  clear hv hr
  go_enter Try.func5, Try.ntmps5
  go_wp2_with (go_at_call 7; go_must (refine hck.mono ?_; rintro e w1 ⟨rfl, b1⟩))
  exact HQ.out _ b1
/-- The law's two rules. -/
def fac0 : Rl := ⟨false, false, false, 0, 0, 0, 0, 0, 0, [], []⟩
def fac1 : Rl := ⟨true, false, false, 0, 2, 0, 0, 0, 0, [], []⟩
def facK : Ky := ⟨2, 0, 0, 0, 0⟩
def facs : List Rx := [(fac0, .slice none 0 0, .slice none 0 0), (fac1, .slice none 0 0, .slice none 0 0)]
theorem facs_ok : rusE (facs.map Prod.fst) = 0 := by decide
theorem facs_jud : judP (facs.map Prod.fst) facK 1 = true ∧ judN (facs.map Prod.fst) facK 1 = 1 ∧ judE (facs.map Prod.fst) facK 1 = 0 := by decide
theorem facs_at (w : World) : Rls (w.alloc (.cells #[.bool false, .bool false, .bool false, .int .i64 0, .int .i64 0, .int .i64 0, .int .i64 0, .int .i64 0, .int .i64 0, .slice none 0 0, .slice none 0 0, .bool true, .bool false, .bool false, .int .i64 0, .int .i64 2, .int .i64 0, .int .i64 0, .int .i64 0, .int .i64 0, .slice none 0 0, .slice none 0 0] 34)) (.slice (some ⟨w.heap.size, 0, none⟩) 2 2) facs := by
  have h := heap_alloc_new w (.cells #[.bool false, .bool false, .bool false, .int .i64 0, .int .i64 0, .int .i64 0, .int .i64 0, .int .i64 0, .int .i64 0, .slice none 0 0, .slice none 0 0, .bool true, .bool false, .bool false, .int .i64 0, .int .i64 2, .int .i64 0, .int .i64 0, .int .i64 0, .int .i64 0, .slice none 0 0, .slice none 0 0] 34)
  refine .inr ⟨w.heap.size, 0, 2, 2, rfl, Nat.le_refl _, by unfold maxLen; omega, rfl, by simp, fun i hi => ?_⟩
  match i, hi with
  | 0, _ => exact ⟨⟨by rw [cell_of_row _ _ _ _ _ _ h]; rfl, by rw [cell_of_row _ _ _ _ _ _ h]; rfl, by rw [cell_of_row _ _ _ _ _ _ h]; rfl, by rw [cell_of_row _ _ _ _ _ _ h]; rfl, by rw [cell_of_row _ _ _ _ _ _ h]; rfl, by rw [cell_of_row _ _ _ _ _ _ h]; rfl, by rw [cell_of_row _ _ _ _ _ _ h]; rfl, by rw [cell_of_row _ _ _ _ _ _ h]; rfl, by rw [cell_of_row _ _ _ _ _ _ h]; rfl, by rw [cell_of_row _ _ _ _ _ _ h]; rfl, by rw [cell_of_row _ _ _ _ _ _ h]; rfl⟩, Spns.nil _ _ _, Spns.nil _ _ _, by show 0 ≤ _; omega, by show 0 ≤ _; omega⟩
  | 1, _ => exact ⟨⟨by rw [cell_of_row _ _ _ _ _ _ h]; rfl, by rw [cell_of_row _ _ _ _ _ _ h]; rfl, by rw [cell_of_row _ _ _ _ _ _ h]; rfl, by rw [cell_of_row _ _ _ _ _ _ h]; rfl, by rw [cell_of_row _ _ _ _ _ _ h]; rfl, by rw [cell_of_row _ _ _ _ _ _ h]; rfl, by rw [cell_of_row _ _ _ _ _ _ h]; rfl, by rw [cell_of_row _ _ _ _ _ _ h]; rfl, by rw [cell_of_row _ _ _ _ _ _ h]; rfl, by rw [cell_of_row _ _ _ _ _ _ h]; rfl, by rw [cell_of_row _ _ _ _ _ _ h]; rfl⟩, Spns.nil _ _ _, Spns.nil _ _ _, by show 0 ≤ _; omega, by show 0 ≤ _; omega⟩
set_option maxHeartbeats 16000000 in
theorem alike_walk (v : Value) (al : List Rx) (k : Ky) (way : Int) (w : World) (ha : Rls w v al) {q : Prop} (hq : q) :
    Calls Try.prog 3 #[v, keyV k, .int .i64 way] w fun e w' => e = .returned (.bool true) ∧ Below w.heap.size w w' := by
  obtain ⟨ao, co, hve⟩ := ha.len
  obtain ⟨N, hN⟩ : ∃ N, al.length = N := ⟨_, rfl⟩
  rw [hN] at hve
  subst hve
  obtain ⟨Q, hQ⟩ : ∃ Q : Ending → World → Prop, Q = fun e w' => e = .returned (.bool true) ∧ Below w.heap.size w w' := ⟨_, rfl⟩
  have HQ : Hid (∀ w', Below w.heap.size w w' → Q (.returned (.bool true)) w') := by rw [hQ]; exact fun _ h => ⟨rfl, h⟩
  rw [← hQ]
  clear hQ hN
  have b1 : Below w.heap.size w (w.alloc (.cells #[.int .i64 k.kind, .int .i64 k.src, .int .i64 k.frm, .int .i64 k.dst, .int .i64 k.too] 24)) := (Below.refl _ _).alloc (Nat.le_refl _) _
  have k1 := KyAt.new w k
  obtain ⟨W1, hW1⟩ : ∃ W1, w.alloc (.cells #[.int .i64 k.kind, .int .i64 k.src, .int .i64 k.frm, .int .i64 k.dst, .int .i64 k.too] 24) = W1 := ⟨_, rfl⟩
  rw [hW1] at b1 k1
  have b2 : Below W1.heap.size W1 (W1.alloc (.cells #[.bool false, .bool false, .bool false, .int .i64 0, .int .i64 0, .int .i64 0, .int .i64 0, .int .i64 0, .int .i64 0, .slice none 0 0, .slice none 0 0, .bool true, .bool false, .bool false, .int .i64 0, .int .i64 2, .int .i64 0, .int .i64 0, .int .i64 0, .int .i64 0, .slice none 0 0, .slice none 0 0] 34)) := (Below.refl _ _).alloc (Nat.le_refl _) _
  have hnf := new_ok _ facs _ (facs_at W1) facs_ok
  have HAS := hidE ha
  have HW1 := hidE hW1
  have HK2 := hidE (k1.below k1.lt b2)
  have HB2 := hidE (b1.trans (b2.mono b1.size))
  obtain ⟨S, hS⟩ : ∃ S, w.heap.size = S := ⟨_, rfl⟩
  have HS := hidE hS
  unfold keyV
  clear ha b1 k1 b2 hW1 hS
  go_enter Try.func3, Try.ntmps3
  go_upto_region 1 with fail
  rw [HW1.out]
  go_upto_region 4 with (go_at_call 5; go_must (refine hnf.mono ?_; rintro e w2 ⟨wx, P, dv, cv, Cs, rfl, L2, b3⟩))
  have HK3 := hidE (HK2.out.below (HK2.out.lt) b3)
  have HB3 := hidE (HB2.out.trans (b3.mono HB2.out.size))
  have hj := planJudge_any wx w2 P _ dv cv Cs facK 1 L2 facs_ok
  rw [facs_jud.1, facs_jud.2.1, facs_jud.2.2, show erV 0 = .nilIface from rfl] at hj
  unfold keyV facK at hj
  simp only at hj
  generalize judK (facs.map Prod.fst) ⟨2, 0, 0, 0, 0⟩ 1 = jk0 at hj
  clear hnf b3 L2 HK2 HB2
  go_upto_region 7 with (go_at_call 6; go_must (refine hj.mono ?_; rintro e w3 ⟨rfl, b4⟩))
  have HK4 := hidE (HK3.out.below HK3.out.lt b4)
  have HB4 := hidE (HB3.out.trans (b4.mono HB3.out.size))
  clear hj b4 HK3 HB3
  obtain ⟨A, hA⟩ : ∃ A, al.map Prod.fst = A := ⟨_, rfl⟩
  have HA := hidE hA
  by_cases hr : rusE A = 0
  case neg =>
    have hnw := new_bad _ al w3 (HAS.out.below HB4.out) (by rw [hA]; exact hr)
    have HCK := hidE (fun W (hb : Below w.heap.size w W) => rusCheck_any _ al W (HAS.out.below hb))
    rw [hA] at hnw HCK
    rw [erV_ne hr] at HCK
    generalize rusE A = z at hnw HCK
    clear hr hA
    go_upto_region 8 with (go_at_call 5; go_must (refine hnw.mono ?_; rintro e w4 ⟨rfl, b5⟩))
    have HB5 := hidE (HB4.out.trans (b5.mono HB4.out.size))
    have hck := HCK.out w4 HB5.out
    clear hnw b5 HCK
    go_upto_region 10 with (go_at_call 7; go_must (refine hck.mono ?_; rintro e w5 ⟨rfl, b6⟩))
    have HB6 := hidE (HB5.out.trans (b6.mono HB5.out.size))
    clear hck b6
    go_quiet (fail)
    go_wp2
    exact HQ.out _ (below_drewN HB6.out _)
  have hnw := new_ok _ al w3 (HAS.out.below HB4.out) (by rw [hA]; exact hr)
  have HCK := hidE (fun W (hb : Below w.heap.size w W) => rusCheck_any _ al W (HAS.out.below hb))
  have HJU := hidE (fun W (hb : Below w.heap.size w W) => judge_any _ al k way W (HAS.out.below hb))
  have HPJ := hidE (fun w1 W P dv cv Cs (h : LaySt w1 W P 6 A dv cv Cs) => planJudge_any w1 W P A dv cv Cs k way h hr)
  rw [hA] at hnw HCK HJU
  rw [hr, show erV 0 = .nilIface from rfl] at HCK
  unfold keyV at HJU HPJ
  clear hA hr
  go_upto_region 8 with (go_at_call 5; go_must (refine hnw.mono ?_; rintro e w4 ⟨wx4, P4, dv4, cv4, Cs4, rfl, L4, b5⟩))
  have HK5 := hidE (HK4.out.below HK4.out.lt b5)
  have HB5 := hidE (HB4.out.trans (b5.mono HB4.out.size))
  have HL5 := hidE L4
  have hck := HCK.out w4 HB5.out
  clear hnw b5 L4 HCK HK4
  go_upto_region 9 with (go_at_call 7; go_must (refine hck.mono ?_; rintro e w5 ⟨rfl, b6⟩))
  have hk6 := HK5.out.below HK5.out.lt b6
  have HB6 := hidE (HB5.out.trans (b6.mono HB5.out.size))
  have hpj := HPJ.out _ _ _ _ _ _ (HL5.out.below b6)
  obtain ⟨c0, c1, c2, c3, c4⟩ := hk6.cells
  have HK6 := hidE hk6
  clear hck b6 HL5 HK5 hk6 HPJ
  generalize judP A k way = jp at hpj HJU
  generalize judK A k way = jk at hpj HJU
  generalize judN A k way = jn at hpj HJU
  generalize hje : erV (judE A k way) = je at hpj HJU
  have HJE := hidE hje
  clear hje
  go_upto_region 12 with (go_at_call 6; go_must (refine hpj.mono ?_; rintro e w6 ⟨rfl, b7⟩))
  have hk7 := HK6.out.below HK6.out.lt b7
  have HB7 := hidE (HB6.out.trans (b7.mono HB6.out.size))
  have hju := HJU.out w6 HB7.out
  clear c0 c1 c2 c3 c4 hpj b7 HJU HK6
  obtain ⟨c0, c1, c2, c3, c4⟩ := hk7.cells
  clear hk7
  go_upto_region 13 with (go_at_call 8; go_must (refine hju.mono ?_; rintro e w7 ⟨rfl, b8⟩))
  have HB8 := hidE (HB7.out.trans (b8.mono HB7.out.size))
  clear c0 c1 c2 c3 c4 hju b8
  by_cases h0 : judE A k way = 0
  · have e := HJE.out
    rw [h0, show erV 0 = .nilIface from rfl] at e
    subst e
    clear HJE h0
    cases jp <;> cases jk <;> (go_quiet (fail); go_wp2; exact HQ.out _ (below_drewN HB8.out _))
  · have e := HJE.out
    rw [erV_ne h0] at e
    subst e
    generalize judE A k way = z
    clear HJE h0
    cases jp <;> cases jk <;> (go_quiet (fail); go_wp2; exact HQ.out _ (below_drewN HB8.out _))
end Go.Proofs.Ytdellfmkmbabhaa
