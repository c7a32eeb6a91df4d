/- The law AuditRow of package portlaw4 returns true, for every slice of events and every number; the walk of its text. -/
import Derived.Test.YtfbmefcgogoklaaDoorAuSm
import Derived.Test.YtfbmefcgogoklaaDoorTold
namespace Go.Proofs.YtfbmefcgogoklaaDoor
open Go.RowKit
set_option linter.unusedVariables false

theorem auV_val (z : Int) : ErrVal (auV z) z := by
  unfold auV ErrVal
  split
  · rename_i e; exact .inl ⟨rfl, e⟩
  · exact .inr rfl
theorem au_same {a b : Int} (h : a = b) (w : World) (hg : ErrLaid w) : Calls Tryd.prog 7 #[auV a, .int .i64 b] w fun e w' => e = .returned (.bool true) ∧ Below w.heap.size w w' := by
  subst h
  refine (error_val (auV_val a) a w hg).mono ?_
  rintro e w' ⟨h1, h2⟩
  exact ⟨by rw [h1]; simp, h2⟩
def evA : Ev := { time := 0, node := 0, what := 3, key := { kind := 0, src := 0, frm := 0, dst := 0, too := 0 } }
def evC : Ev := { time := 0, node := 1, what := 3, key := { kind := 0, src := 0, frm := 0, dst := 0, too := 0 } }
theorem aud2 : audR [evA, evC] = (1, 7) := by
  unfold audR
  rw [if_neg (by simp)]
  simp [auR, wrN, evB, suB, keyZ, nxE, evA, evC]
theorem evs2 (w : World) : Evs (w.alloc (.cells #[.int .i64 0, .int .i64 0, .int .i64 3, .int .i64 0, .int .i64 0, .int .i64 0, .int .i64 0, .int .i64 0, .int .i64 0, .int .i64 1, .int .i64 3, .int .i64 0, .int .i64 0, .int .i64 0, .int .i64 0, .int .i64 0] 34)) (.slice (some ⟨w.heap.size, 0, none⟩) 2 2) [evA, evC] := by
  have hr := heap_alloc_new w (.cells #[.int .i64 0, .int .i64 0, .int .i64 3, .int .i64 0, .int .i64 0, .int .i64 0, .int .i64 0, .int .i64 0, .int .i64 0, .int .i64 1, .int .i64 3, .int .i64 0, .int .i64 0, .int .i64 0, .int .i64 0, .int .i64 0] 34)
  refine .inr ⟨_, _, _, _, rfl, Nat.le_refl _, by decide, rfl, fun i hi => ?_⟩
  have hc := fun j => cell_of_row _ w.heap.size j _ _ _ hr
  match i, hi with
  | 0, _ => exact ⟨hc _, hc _, hc _, hc _, hc _, hc _, hc _, hc _⟩
  | 1, _ => exact ⟨hc _, hc _, hc _, hc _, hc _, hc _, hc _, hc _⟩
set_option maxRecDepth 100000 in
set_option maxHeartbeats 64000000 in
theorem auditrow_walk (v : Value) (es : List Ev) (many : Int) (w : World) {p : Prop} (hv : Evs w v es) (_ : p) (hE : ErrLaid w) :
    Calls Tryd.prog 4 #[v, .int .i64 many] w fun e w' => e = .returned (.bool true) ∧ Below w.heap.size w w' := by
  have hv0 := evs2 w
  have b0 : Below w.heap.size w (w.alloc (.cells #[.int .i64 0, .int .i64 0, .int .i64 3, .int .i64 0, .int .i64 0, .int .i64 0, .int .i64 0, .int .i64 0, .int .i64 0, .int .i64 1, .int .i64 3, .int .i64 0, .int .i64 0, .int .i64 0, .int .i64 0, .int .i64 0] 34)) := (Below.refl _ _).alloc (Nat.le_refl _) _
  obtain ⟨w1, hw1⟩ : ∃ w1, w.alloc (.cells #[.int .i64 0, .int .i64 0, .int .i64 3, .int .i64 0, .int .i64 0, .int .i64 0, .int .i64 0, .int .i64 0, .int .i64 0, .int .i64 1, .int .i64 3, .int .i64 0, .int .i64 0, .int .i64 0, .int .i64 0, .int .i64 0] 34) = w1 := ⟨_, rfl⟩
  rw [hw1] at hv0 b0
  have hc0 := check_any _ _ _ hv0
  rw [aud2] at hc0
  simp only at hc0
  rw [show auV 7 = .iface 49 (.int .i64 7) from rfl] at hc0
  have hsm := fun W hg => au_same (a := 7) (b := 7) rfl W hg
  rw [show auV 7 = .iface 49 (.int .i64 7) from rfl] at hsm
  obtain ⟨ao, co, rfl⟩ := hv.len
  obtain ⟨N, hN⟩ : ∃ N, es.length = N := ⟨_, rfl⟩
  have HN := hidA hN
  rw [hN] at hv ⊢
  have HV := hidA hv
  have HE := hidA hE
  have HB0 := hidA b0
  clear hv hE b0 hv0 hN
  go_enter Tryd.func4, Tryd.ntmps4
  go_upto_region 2 with (go_at_call 6; go_must ((with_reducible refine hc0.mono ?_); rintro e W1 ⟨rfl, b1⟩; have HB1 := hidA (HB0.out.trans (b1.mono HB0.out.size)); clear b1 hc0))
  go_upto_region 5 with (go_at_call 7; go_must ((with_reducible refine (hsm _ (HE.out.below HB1.out)).mono ?_); rintro e W2 ⟨rfl, b2⟩; have HB2 := hidA (HB1.out.trans (b2.mono HB1.out.size)); clear b2 hsm))
  clear hw1
  rcases (by omega : many < 0 ∨ (¬ many < 0 ∧ (N : Int) < many) ∨ (¬ many < 0 ∧ ¬ (N : Int) < many ∧ 1000 < (N : Int)) ∨ (0 ≤ many ∧ many ≤ N ∧ ¬ 1000 < (N : Int))) with h1 | ⟨h1, h2⟩ | ⟨h1, h2, h3⟩ | ⟨h1, h2, h3⟩
  · go_wp2_with fail
    go_ret
    exact ⟨rfl, HB2.out⟩
  · go_wp2_with fail
    go_ret
    exact ⟨rfl, HB2.out⟩
  · go_wp2_with fail
    go_ret
    exact ⟨rfl, HB2.out⟩
  · obtain ⟨m, rfl⟩ : ∃ m : Nat, many = m := ⟨many.toNat, by omega⟩
    have hm : m ≤ N := by omega
    have hmc : m ≤ co := by
      rcases Nat.eq_zero_or_pos m with h | h
      · omega
      · exact Nat.le_trans hm (HV.out.capOk (by omega)).1
    go_upto_region 7 with fail
    have hck := check_any es _ W2 (HV.out.below HB2.out)
    obtain ⟨n, c, hau⟩ : ∃ n c, audR es = (n, c) := ⟨_, _, rfl⟩
    have HAU := hidA hau
    have HH3 := hidA h3
    rw [hau] at hck
    simp only at hck
    have htg := fun h => aud_take_good (es := es) (m := m) (by have := HH3.out; have := HN.out; omega) h
    have htb := fun h1 h2 => aud_take_bad (es := es) (m := m) (by have := HH3.out; have := HN.out; omega) h1 h2
    rw [hau] at htg htb
    simp only at htg htb
    clear h1 h2 h3
    by_cases hc : c = 0
    · have HT := hidA (htg (.inl hc))
      rw [hc, show auV 0 = .nilIface from rfl] at hck
      have HC0 := hidA hc
      clear hc htg htb hau
      go_upto_region 8 with (go_at_call 6; go_must ((with_reducible refine hck.mono ?_); rintro e W3 ⟨rfl, b3⟩; have HB3 := hidA (HB2.out.trans (b3.mono HB2.out.size)); clear b3 hck))
      have hck2 := check_any (es.take m) _ W3 ((HV.out.below HB3.out).take m (by rw [HN.out]; exact hm))
      rw [HT.out, show auV (0, 0).2 = .nilIface from rfl] at hck2
      go_upto_region 9 with (go_at_call 6; go_must ((with_reducible refine hck2.mono ?_); rintro e W4 ⟨rfl, b4⟩; have HB4 := hidA (HB3.out.trans (b4.mono HB3.out.size)); clear b4 hck2))
      have hs1 := sums_any (es.take m) _ W4 ((HV.out.below HB4.out).take m (by rw [HN.out]; exact hm))
      rw [HT.out, if_pos rfl] at hs1
      obtain ⟨x1, hx1⟩ : ∃ x, cntE 1 (es.take m) = x := ⟨_, rfl⟩
      obtain ⟨x2, hx2⟩ : ∃ x, cntE 2 (es.take m) = x := ⟨_, rfl⟩
      obtain ⟨x3, hx3⟩ : ∃ x, cntE 3 (es.take m) = x := ⟨_, rfl⟩
      have l1 := cnt_take 1 es m
      have l2 := cnt_take 2 es m
      have l3 := cnt_take 3 es m
      rw [hx1, hx2, hx3] at hs1
      rw [hx1] at l1
      rw [hx2] at l2
      rw [hx3] at l3
      clear hx1 hx2 hx3
      have HL1 := hidA l1
      have HL2 := hidA l2
      have HL3 := hidA l3
      clear l1 l2 l3
      go_upto_region 11 with (go_at_call 8; go_must ((with_reducible refine hs1.mono ?_); rintro e W5 ⟨rfl, b5⟩; have HB5 := hidA (HB4.out.trans (b5.mono HB4.out.size)); clear b5 hs1))
      have hs2 := sums_any es _ W5 (HV.out.below HB5.out)
      rw [HAU.out] at hs2
      simp only at hs2
      rw [if_pos HC0.out] at hs2
      obtain ⟨y1, hy1⟩ : ∃ x, cntE 1 es = x := ⟨_, rfl⟩
      obtain ⟨y2, hy2⟩ : ∃ x, cntE 2 es = x := ⟨_, rfl⟩
      obtain ⟨y3, hy3⟩ : ∃ x, cntE 3 es = x := ⟨_, rfl⟩
      rw [hy1, hy2, hy3] at hs2
      rw [hy1] at HL1
      rw [hy2] at HL2
      rw [hy3] at HL3
      clear hy1 hy2 hy3
      go_upto_region 12 with (go_at_call 8; go_must ((with_reducible refine hs2.mono ?_); rintro e W6 ⟨rfl, b6⟩; have HB6 := hidA (HB5.out.trans (b6.mono HB5.out.size)); clear b6 hs2))
      have g1 : (x1 : Int) ≤ (y1 : Int) := by have := HL1.out; omega
      have g2 : (x2 : Int) ≤ (y2 : Int) := by have := HL2.out; omega
      have g3 : (x3 : Int) ≤ (y3 : Int) := by have := HL3.out; omega
      go_wp2_with fail
      go_ret
      exact ⟨by simp, HB6.out⟩
    · have HC0 := hidA hc
      rw [auV_ne hc] at hck
      by_cases hmn : m ≤ n
      · have HT := hidA (htg (.inr hmn))
        have hmn' : (m : Int) ≤ (n : Int) := by omega
        clear hc htg htb hau hmn
        go_upto_region 8 with (go_at_call 6; go_must ((with_reducible refine hck.mono ?_); rintro e W3 ⟨rfl, b3⟩; have HB3 := hidA (HB2.out.trans (b3.mono HB2.out.size)); clear b3 hck))
        have hck2 := check_any (es.take m) _ W3 ((HV.out.below HB3.out).take m (by rw [HN.out]; exact hm))
        rw [HT.out, show auV (0, 0).2 = .nilIface from rfl] at hck2
        go_upto_region 9 with (go_at_call 6; go_must ((with_reducible refine hck2.mono ?_); rintro e W4 ⟨rfl, b4⟩; have HB4 := hidA (HB3.out.trans (b4.mono HB3.out.size)); clear b4 hck2))
        have hs1 := sums_any (es.take m) _ W4 ((HV.out.below HB4.out).take m (by rw [HN.out]; exact hm))
        rw [HT.out, if_pos rfl] at hs1
        obtain ⟨x1, hx1⟩ : ∃ x, cntE 1 (es.take m) = x := ⟨_, rfl⟩
        obtain ⟨x2, hx2⟩ : ∃ x, cntE 2 (es.take m) = x := ⟨_, rfl⟩
        obtain ⟨x3, hx3⟩ : ∃ x, cntE 3 (es.take m) = x := ⟨_, rfl⟩
        have l1 := cnt_take 1 es m
        have l2 := cnt_take 2 es m
        have l3 := cnt_take 3 es m
        rw [hx1, hx2, hx3] at hs1
        rw [hx1] at l1
        rw [hx2] at l2
        rw [hx3] at l3
        clear hx1 hx2 hx3
        have HL1 := hidA l1
        have HL2 := hidA l2
        have HL3 := hidA l3
        clear l1 l2 l3
        go_upto_region 11 with (go_at_call 8; go_must ((with_reducible refine hs1.mono ?_); rintro e W5 ⟨rfl, b5⟩; have HB5 := hidA (HB4.out.trans (b5.mono HB4.out.size)); clear b5 hs1))
        have hs2 := sums_any es _ W5 (HV.out.below HB5.out)
        rw [HAU.out] at hs2
        simp only at hs2
        rw [if_neg HC0.out, auV_ne HC0.out] at hs2
        go_upto_region 12 with (go_at_call 8; go_must ((with_reducible refine hs2.mono ?_); rintro e W6 ⟨rfl, b6⟩; have HB6 := hidA (HB5.out.trans (b6.mono HB5.out.size)); clear b6 hs2))
        go_wp2_with fail
        go_ret
        exact ⟨by simp, HB6.out⟩
      · have HT := hidA (htb hc hmn)
        have hmn' : ¬ (m : Int) ≤ (n : Int) := by omega
        clear hc htg htb hau hmn
        go_upto_region 8 with (go_at_call 6; go_must ((with_reducible refine hck.mono ?_); rintro e W3 ⟨rfl, b3⟩; have HB3 := hidA (HB2.out.trans (b3.mono HB2.out.size)); clear b3 hck))
        have hck2 := check_any (es.take m) _ W3 ((HV.out.below HB3.out).take m (by rw [HN.out]; exact hm))
        rw [HT.out] at hck2
        simp only at hck2
        rw [auV_ne HC0.out] at hck2
        go_upto_region 9 with (go_at_call 6; go_must ((with_reducible refine hck2.mono ?_); rintro e W4 ⟨rfl, b4⟩; have HB4 := hidA (HB3.out.trans (b4.mono HB3.out.size)); clear b4 hck2))
        go_wp2_with fail
        go_ret
        exact ⟨by simp, HB4.out⟩
end Go.Proofs.YtfbmefcgogoklaaDoor
