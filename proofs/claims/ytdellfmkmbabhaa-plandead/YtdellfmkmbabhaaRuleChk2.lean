/- What 'check' and Check answer (package rule): 'ruE', 'rusE'. -/
import Derived.Test.YtdellfmkmbabhaaRuleChk
namespace Go.Proofs.Ytdellfmkmbabhaa
open Go.RowKit
set_option linter.unusedVariables false

def e1R (r : Rl) : Int := twoE (prefE r.sa r.sl) (prefE r.da r.dl)
def e2R (r : Rl) : Int := twoE (if 10 < r.fr.length then 4 else 0) (if 10 < r.tl.length then 4 else 0)
def e3R (r : Rl) : Int := twoE (spE r.fr) (spE r.tl)
def e4R (r : Rl) : Int := twoE (if badP r.kind r.fr then 3 else 0) (if badP r.kind r.tl then 3 else 0)
theorem twoE_zero {a b : Int} : twoE a b = 0 ↔ a = 0 ∧ b = 0 := by
  unfold twoE
  by_cases h : a = 0
  · rw [if_pos h]; exact ⟨fun k => ⟨h, k⟩, fun k => k.2⟩
  · rw [if_neg h]; exact ⟨fun k => absurd k h, fun k => absurd k.1 h⟩
theorem e2_full (r : Rl) : e2R r = fullE r := by
  unfold e2R fullE twoE
  by_cases h1 : 10 < r.fr.length <;> by_cases h2 : 10 < r.tl.length <;> simp [h1, h2]
theorem full_or (r : Rl) : fullE r = 0 ∨ fullE r = 4 := by unfold fullE; split <;> simp
theorem e4_or (r : Rl) : (e4R r = 0 ∧ ¬ (badP r.kind r.fr = true ∨ badP r.kind r.tl = true)) ∨ (e4R r = 3 ∧ (badP r.kind r.fr = true ∨ badP r.kind r.tl = true)) := by
  unfold e4R twoE
  cases badP r.kind r.fr <;> cases badP r.kind r.tl <;> simp
theorem ruE_way {r : Rl} (h : wayE r = true) : ruE r = 1 := by unfold ruE; rw [if_pos h]
theorem ruE_1 {r : Rl} (h : wayE r = false) (h1 : ¬ e1R r = 0) : ruE r = e1R r := by
  have h1' : ¬ twoE (prefE r.sa r.sl) (prefE r.da r.dl) = 0 := h1
  unfold ruE
  rw [if_neg (by rw [h]; simp), if_pos h1']; rfl
theorem ruE_2 {r : Rl} (h : wayE r = false) (h1 : e1R r = 0) (h2 : ¬ e2R r = 0) : ruE r = e2R r := by
  have h1' : twoE (prefE r.sa r.sl) (prefE r.da r.dl) = 0 := h1
  unfold ruE
  rw [if_neg (by rw [h]; simp), if_neg (by rw [h1']; simp), e2_full]
  rw [e2_full] at h2
  rw [if_pos h2]
  rcases full_or r with e | e
  · exact absurd e h2
  · rw [e]
theorem ruE_3 {r : Rl} (h : wayE r = false) (h1 : e1R r = 0) (h2 : e2R r = 0) (h3 : ¬ e3R r = 0) : ruE r = e3R r := by
  have h1' : twoE (prefE r.sa r.sl) (prefE r.da r.dl) = 0 := h1
  have h3' : ¬ twoE (spE r.fr) (spE r.tl) = 0 := h3
  rw [e2_full] at h2
  unfold ruE
  rw [if_neg (by rw [h]; simp), if_neg (by rw [h1']; simp), if_neg (by rw [h2]; simp), if_pos h3']; rfl
theorem ruE_4 {r : Rl} (h : wayE r = false) (h1 : e1R r = 0) (h2 : e2R r = 0) (h3 : e3R r = 0) : ruE r = if badP r.kind r.fr = true ∨ badP r.kind r.tl = true ∨ (r.keep = true ∧ r.pass = false) then 3 else 0 := by
  have h1' : twoE (prefE r.sa r.sl) (prefE r.da r.dl) = 0 := h1
  have h3' : twoE (spE r.fr) (spE r.tl) = 0 := h3
  rw [e2_full] at h2
  unfold ruE
  rw [if_neg (by rw [h]; simp), if_neg (by rw [h1']; simp), if_neg (by rw [h2]; simp), if_neg (by rw [h3']; simp)]
theorem ruE_5 {r : Rl} (h : wayE r = false) (h1 : e1R r = 0) (h2 : e2R r = 0) (h3 : e3R r = 0) (h4 : ¬ e4R r = 0) : ruE r = e4R r := by
  rw [ruE_4 h h1 h2 h3]
  rcases e4_or r with ⟨e, _⟩ | ⟨e, k⟩
  · exact absurd e h4
  · rw [e, if_pos]
    rcases k with k | k
    · exact .inl k
    · exact .inr (.inl k)
theorem ruE_6 {r : Rl} (h : wayE r = false) (h1 : e1R r = 0) (h2 : e2R r = 0) (h3 : e3R r = 0) (h4 : e4R r = 0) : ruE r = if (r.keep && !r.pass) = true then 3 else 0 := by
  rw [ruE_4 h h1 h2 h3]
  rcases e4_or r with ⟨_, k⟩ | ⟨e, _⟩
  · have k1 : badP r.kind r.fr = false := by cases hb : badP r.kind r.fr; rfl; exact absurd (.inl hb) k
    have k2 : badP r.kind r.tl = false := by cases hb : badP r.kind r.tl; rfl; exact absurd (.inr hb) k
    rw [k1, k2]
    cases r.keep <;> cases r.pass <;> simp
  · rw [h4] at e; cases e
set_option maxRecDepth 10000 in
set_option maxHeartbeats 8000000 in
theorem ruCheck_any (r : Rl) (fv tv : Value) (w : World) (hf : Spns w fv r.fr) (ht : Spns w tv r.tl) (hfl : r.fr.length ≤ 140737488355328) (htl : r.tl.length ≤ 140737488355328) :
    Calls Try.prog 16 #[rlV r fv tv] w fun e w' => e = .returned (erV (ruE r)) ∧ Below w.heap.size w w' := by
  have hR1 := RlAt.new w r fv tv
  have b1 : Below w.heap.size w (w.alloc (.cells #[.bool r.pass, .bool r.quick, .bool r.keep, .int .i64 r.way, .int .i64 r.kind, .int .i64 r.sa, .int .i64 r.sl, .int .i64 r.da, .int .i64 r.dl, fv, tv] 34)) := (Below.refl _ _).alloc (Nat.le_refl _) _
  obtain ⟨af, cf, hfe⟩ := hf.len
  obtain ⟨at', ct, hte⟩ := ht.len
  obtain ⟨nf, hnf⟩ : ∃ nf, r.fr.length = nf := ⟨_, rfl⟩
  obtain ⟨nt, hnt⟩ : ∃ nt, r.tl.length = nt := ⟨_, rfl⟩
  rw [hnf] at hfe
  rw [hnt] at hte
  subst hfe hte
  unfold rlV
  -- what the four rounds come to
  have H1 := hidE (fun (W : World) (b : Nat) (h : RlAt W b r (.slice af nf cf) (.slice at' nt ct)) => sides1 b (prefE r.sa r.sl) (prefE r.da r.dl) W (fun s W' hb => chk1_any s b 5 9 r.sa r.sl W' (h.below h.lt hb).cells.2.2.2.2.2.1 (h.below h.lt hb).cells.2.2.2.2.2.2.1) (fun _ s W' hb => chk1_any s b 7 10 r.da r.dl W' (h.below h.lt hb).cells.2.2.2.2.2.2.2.1 (h.below h.lt hb).cells.2.2.2.2.2.2.2.2.1))
  have H2 := hidE (fun (W : World) (b : Nat) (h : RlAt W b r (.slice af nf cf) (.slice at' nt ct)) => sides2 b (if 10 < nf then 4 else 0) (if 10 < nt then 4 else 0) W (fun s W' hb => chk2_any s b 5 9 af nf cf W' (h.below h.lt hb).cells.2.2.2.2.2.2.2.2.2.1) (fun _ s W' hb => chk2_any s b 7 10 at' nt ct W' (h.below h.lt hb).cells.2.2.2.2.2.2.2.2.2.2))
  have H3 := hidE (fun (W : World) (b : Nat) (h : RlAt W b r (.slice af nf cf) (.slice at' nt ct)) (hW : Below w.heap.size w W) => sides3 b (spE r.fr) (spE r.tl) W (fun s W' hb => chk3_any s b 5 9 _ r.fr W' (h.below h.lt hb).cells.2.2.2.2.2.2.2.2.2.1 (hf.below (hW.trans (hb.mono hW.size))) hfl) (fun _ s W' hb => chk3_any s b 7 10 _ r.tl W' (h.below h.lt hb).cells.2.2.2.2.2.2.2.2.2.2 (ht.below (hW.trans (hb.mono hW.size))) htl))
  have H4 := hidE (fun (W : World) (b hp : Nat) (h : RlAt W b r (.slice af nf cf) (.slice at' nt ct)) (hW : Below w.heap.size w W) (hq : W.cell? ⟨hp, 0, none⟩ = some (.bool (decide (r.kind = 1) || decide (r.kind = 2)))) (h3 : e3R r = 0) => sides4 b hp (if badP r.kind r.fr then 3 else 0) (if badP r.kind r.tl then 3 else 0) W
    (fun s W' hb => chk4_any s b 5 9 hp r.kind _ r.fr W' (h.below h.lt hb).cells.2.2.2.2.2.2.2.2.2.1 ((hb.cell (p := ⟨hp, 0, none⟩) (World.block_lt_of_cell? W ⟨hp, 0, none⟩ hq)).trans hq) (hf.below (hW.trans (hb.mono hW.size))) (twoE_zero.1 h3).1)
    (fun _ s W' hb => chk4_any s b 7 10 hp r.kind _ r.tl W' (h.below h.lt hb).cells.2.2.2.2.2.2.2.2.2.2 ((hb.cell (p := ⟨hp, 0, none⟩) (World.block_lt_of_cell? W ⟨hp, 0, none⟩ hq)).trans hq) (ht.below (hW.trans (hb.mono hW.size))) (twoE_zero.1 h3).2))
  rw [show twoE (prefE r.sa r.sl) (prefE r.da r.dl) = e1R r from rfl] at H1
  rw [show twoE (if 10 < nf then (4 : Int) else 0) (if 10 < nt then 4 else 0) = e2R r by unfold e2R; rw [hnf, hnt]] at H2
  rw [show twoE (spE r.fr) (spE r.tl) = e3R r from rfl] at H3
  rw [show twoE (if badP r.kind r.fr = true then (3 : Int) else 0) (if badP r.kind r.tl = true then 3 else 0) = e4R r from rfl] at H4
  have K0 := hidE (@ruE_way r)
  have K1 := hidE (@ruE_1 r)
  have K2 := hidE (@ruE_2 r)
  have K3 := hidE (@ruE_3 r)
  have K5 := hidE (@ruE_5 r)
  have K6 := hidE (@ruE_6 r)
  have HWD := hidE (show wayE r = (decide (r.way < 0) || decide (2 < r.way) || decide (r.kind < 0) || decide (3 < r.kind)) from rfl)
  obtain ⟨n, hn⟩ : ∃ n, ruE r = n := ⟨_, rfl⟩
  rw [hn] at K0 K1 K2 K3 K5 K6 ⊢
  obtain ⟨Q, hQ⟩ : ∃ Q : Ending → World → Prop, Q = fun e w' => e = .returned (erV n) ∧ Below w.heap.size w w' := ⟨_, rfl⟩
  have HQ : Hid (∀ e w', (e = .returned (erV n) ∧ Below w.heap.size w w') → Q e w') := by rw [hQ]; exact fun _ _ h => h
  rw [← hQ]
  clear hf ht hfl htl hnf hnt hn hQ
  go_enter Try.func16, Try.ntmps16
  go_upto_region 1 with fail
  obtain ⟨W1, hW1⟩ : ∃ W1, w.alloc (.cells #[.bool r.pass, .bool r.quick, .bool r.keep, .int .i64 r.way, .int .i64 r.kind, .int .i64 r.sa, .int .i64 r.sl, .int .i64 r.da, .int .i64 r.dl, .slice af nf cf, .slice at' nt ct] 34) = W1 := ⟨_, rfl⟩
  obtain ⟨B, hB⟩ : ∃ B, w.heap.size = B := ⟨_, rfl⟩
  rw [hW1] at hR1 b1 ⊢
  rw [hB] at hR1 ⊢
  have HR1 := hidE hR1
  have HB1 := hidE b1
  obtain ⟨c0, c1, c2, c3, c4, _, _, _, _, _, _⟩ := hR1.cells
  clear hW1 hB hR1 b1
  obtain ⟨wb, hwb⟩ : ∃ wb, wayE r = wb := ⟨_, rfl⟩
  rw [hwb] at K0 K1 K2 K3 K5 K6 HWD
  generalize r.way = wy at c3 HWD ⊢
  generalize r.kind = kd at c4 HWD H4 ⊢
  clear hwb
  go_cut [24] (fun x ww => x = .bool wb ∧ ww = W1)
  case first =>
    by_cases a1 : wy < 0
    · have e := HWD.out
      rw [decide_eq_true a1] at e
      simp only [Bool.true_or] at e
      subst e
      go_wp2_with fail
      go_meet
      case rel => exact ⟨rfl, rfl⟩
    · by_cases a2 : wy > 2
      · have e := HWD.out
        rw [decide_eq_false a1, decide_eq_true (p := 2 < wy) a2] at e
        simp only [Bool.or_true, Bool.true_or] at e
        subst e
        go_wp2_with fail
        go_meet
        case rel => exact ⟨rfl, rfl⟩
      · by_cases a3 : kd < 0
        · have e := HWD.out
          rw [decide_eq_false a1, decide_eq_false (p := 2 < wy) a2, decide_eq_true a3] at e
          simp only [Bool.or_true, Bool.true_or] at e
          subst e
          go_wp2_with fail
          go_meet
          case rel => exact ⟨rfl, rfl⟩
        · by_cases a4 : kd > 3
          · have e := HWD.out
            rw [decide_eq_false a1, decide_eq_false (p := 2 < wy) a2, decide_eq_false a3, decide_eq_true (p := 3 < kd) a4] at e
            simp only [Bool.or_true] at e
            subst e
            go_wp2_with fail
            go_meet
            case rel => exact ⟨rfl, rfl⟩
          · have e := HWD.out
            rw [decide_eq_false a1, decide_eq_false (p := 2 < wy) a2, decide_eq_false a3, decide_eq_false (p := 3 < kd) a4] at e
            simp only [Bool.or_self] at e
            subst e
            go_wp2_with fail
            go_meet
            case rel => exact ⟨rfl, rfl⟩
  case rest =>
    obtain ⟨hx, hy⟩ := hcut
    subst hx hy
    rcases wb with _ | _
    · have k1 := K1.out rfl
      have k2 := K2.out rfl
      have k3 := K3.out rfl
      have k5 := K5.out rfl
      have k6 := K6.out rfl
      have HK1 := hidE k1
      have HK2 := hidE k2
      have HK3 := hidE k3
      have HK5 := hidE k5
      have HK6 := hidE k6
      clear K0 K1 K2 K3 K5 K6 HWD k1 k2 k3 k5 k6 c3
      go_upto_region 3 with fail
      obtain ⟨W0, hW0⟩ : ∃ W0, W0 = wc := ⟨_, rfl⟩
      subst hW0
      obtain ⟨H, hH⟩ : ∃ H, (decide (kd = 1) || decide (kd = 2)) = H := ⟨_, rfl⟩
      have HH := hidE hH
      rw [hH] at H4
      clear hH
      go_cut [3, 33] (fun p x ww => p = .pointer (some ⟨W0.heap.size, 0, none⟩) ∧ ww = W0.alloc (.cells #[.bool H] 4))
      case first =>
        by_cases a1 : kd = 1
        · have e := HH.out
          rw [decide_eq_true a1] at e
          simp only [Bool.true_or] at e
          subst e a1
          go_wp2_with fail
          go_meet
          case rel => exact ⟨rfl, rfl⟩
        · have b1 : (kd == 1) = false := by rw [beq_eq_false_iff_ne]; exact a1
          by_cases a2 : kd = 2
          · have e := HH.out
            rw [decide_eq_false a1, decide_eq_true a2] at e
            simp only [Bool.or_true] at e
            subst e a2
            go_wp2_with fail
            go_meet
            case rel => exact ⟨rfl, rfl⟩
          · have b2 : (kd == 2) = false := by rw [beq_eq_false_iff_ne]; exact a2
            have e := HH.out
            rw [decide_eq_false a1, decide_eq_false a2] at e
            simp only [Bool.or_self] at e
            subst e
            go_wp2_with fail
            go_meet
            case rel => exact ⟨rfl, rfl⟩
      case rest =>
        obtain ⟨hp0, hy⟩ := hcut
        subst hp0 hy
        have b2 : Below W0.heap.size W0 (W0.alloc (.cells #[.bool H] 4)) := (Below.refl _ _).alloc (Nat.le_refl _) _
        have hq : (W0.alloc (.cells #[.bool H] 4)).cell? ⟨W0.heap.size, 0, none⟩ = some (.bool H) := by rw [cell_of_row _ _ 0 _ _ _ (heap_alloc_new W0 _)]; rfl
        obtain ⟨hp, hhp⟩ : ∃ hp, W0.heap.size = hp := ⟨_, rfl⟩
        have HR2 := hidE (HR1.out.below HR1.out.lt b2)
        have HB2 := hidE (HB1.out.trans (b2.mono HB1.out.size))
        rw [hhp] at hq ⊢
        obtain ⟨W2, hW2⟩ : ∃ W2, W0.alloc (.cells #[.bool H] 4) = W2 := ⟨_, rfl⟩
        rw [hW2] at hq HR2 HB2 ⊢
        have HQ2 := hidE hq
        clear b2 hq hhp hW2 HR1 HB1 c0 c1 c2 c4 HH
        go_upto_region 5 with fail
        obtain ⟨W3, hW3⟩ : ∃ W3, W2.alloc (.cells #[.func (.func 29) #[] #[], .func (.func 31) #[] #[], .func (.func 33) #[] #[], .func (.func 35) #[] #[.pointer (some ⟨hp, 0, none⟩)]] 95) = W3 := ⟨_, rfl⟩
        have hrow := heap_alloc_new W2 (.cells #[.func (.func 29) #[] #[], .func (.func 31) #[] #[], .func (.func 33) #[] #[], .func (.func 35) #[] #[.pointer (some ⟨hp, 0, none⟩)]] 95)
        have b3 : Below W2.heap.size W2 (W2.alloc (.cells #[.func (.func 29) #[] #[], .func (.func 31) #[] #[], .func (.func 33) #[] #[], .func (.func 35) #[] #[.pointer (some ⟨hp, 0, none⟩)]] 95)) := (Below.refl _ _).alloc (Nat.le_refl _) _
        rw [hW3] at hrow b3 ⊢
        obtain ⟨fb, hfb⟩ : ∃ fb, W2.heap.size = fb := ⟨_, rfl⟩
        have HR3 := hidE (HR2.out.below HR2.out.lt b3)
        have HB3 := hidE (HB2.out.trans (b3.mono HB2.out.size))
        have HQ3 := hidE ((b3.cell (p := ⟨hp, 0, none⟩) (World.block_lt_of_cell? W2 ⟨hp, 0, none⟩ HQ2.out)).trans HQ2.out)
        rw [hfb] at hrow ⊢
        have HROW := hidE hrow
        have hfl : fb < W3.heap.size := (Array.getElem?_eq_some_iff.1 hrow).1
        clear hrow b3 hW3 hfb HR2 HB2 HQ2
        go_loopw [5, 6, 37] (fun _ _ i wr => ∃ k : Nat, k ≤ 4 ∧ i = .int .i64 (k : Int) ∧ Below W3.heap.size W3 wr ∧ Hid ((1 ≤ k → e1R r = 0) ∧ (2 ≤ k → e2R r = 0) ∧ (3 ≤ k → e3R r = 0) ∧ (4 ≤ k → e4R r = 0))) (fun _ _ i _ => ((4 : Int) - intOf i).toNat)
        case atStart => exact ⟨0, by omega, rfl, Below.refl _ _, by refine ⟨fun h => ?_, fun h => ?_, fun h => ?_, fun h => ?_⟩ <;> omega⟩
        case round =>
          obtain ⟨k, hk, rfl, hb, HE⟩ := hrel
          have HRr := hidE (HR3.out.below HR3.out.lt hb)
          have HBr := hidE (HB3.out.trans (hb.mono HB3.out.size))
          have HQr := hidE ((hb.cell (p := ⟨hp, 0, none⟩) (World.block_lt_of_cell? W3 ⟨hp, 0, none⟩ HQ3.out)).trans HQ3.out)
          have hrw : wr.heap[fb]? = some (.cells #[.func (.func 29) #[] #[], .func (.func 31) #[] #[], .func (.func 33) #[] #[], .func (.func 35) #[] #[.pointer (some ⟨hp, 0, none⟩)]] 95 (0, 0)) := (hb.block fb hfl).trans HROW.out
          have HBW := hidE hb
          clear hb
          rcases (by omega : k = 0 ∨ k = 1 ∨ k = 2 ∨ k = 3 ∨ k = 4) with hk0 | hk0 | hk0 | hk0 | hk0
          · subst hk0
            have q0 : wr.cell? ⟨fb, 0, none⟩ = some (.func (.func 29) #[] #[]) := by rw [cell_of_row wr fb 0 _ _ _ hrw]; rfl
            have hsd := H1.out wr B HRr.out
            by_cases hz : e1R r = 0
            · have HX := hidE (show (1 ≤ 1 → e1R r = 0) ∧ (2 ≤ 1 → e2R r = 0) ∧ (3 ≤ 1 → e3R r = 0) ∧ (4 ≤ 1 → e4R r = 0) from ⟨fun _ => hz, fun h => by omega, fun h => by omega, fun h => by omega⟩)
              rw [hz, show erV 0 = .nilIface from rfl] at hsd
              clear HK1 HK2 HK3 HK5 HK6 HE hz hk hrw H1 H2 H3 H4
              go_wp2_with (go_at_call 37; go_must (refine hsd.mono ?_; rintro e w2 ⟨rfl, b2⟩))
              go_roundw
              case rel => exact ⟨1, by omega, by go_num, HBW.out.trans (b2.mono HBW.out.size), HX.out⟩
              case measure => simp [intOf]
            · have hn2 := HK1.out  hz
              have HN2 := hidE (show erV n = .iface 62 (.int .i64 (e1R r)) by rw [hn2]; exact erV_ne hz)
              rw [erV_ne hz] at hsd
              generalize e1R r = z at hsd HN2
              clear HK1 HK2 HK3 HK5 HK6 HE hz hk hrw H1 H2 H3 H4 hn2
              go_wp2_with (go_at_call 37; go_must (refine hsd.mono ?_; rintro e w2 ⟨rfl, b2⟩))
              exact HQ.out _ _ ⟨by rw [HN2.out]; rfl, HBr.out.trans (b2.mono HBr.out.size)⟩
          · subst hk0
            have q0 : wr.cell? ⟨fb, 1, none⟩ = some (.func (.func 31) #[] #[]) := by rw [cell_of_row wr fb 1 _ _ _ hrw]; rfl
            have hsd := H2.out wr B HRr.out
            by_cases hz : e2R r = 0
            · have HX := hidE (show (1 ≤ 2 → e1R r = 0) ∧ (2 ≤ 2 → e2R r = 0) ∧ (3 ≤ 2 → e3R r = 0) ∧ (4 ≤ 2 → e4R r = 0) from ⟨fun _ => HE.out.1 (by omega), fun _ => hz, fun h => by omega, fun h => by omega⟩)
              rw [hz, show erV 0 = .nilIface from rfl] at hsd
              clear HK1 HK2 HK3 HK5 HK6 HE hz hk hrw H1 H2 H3 H4
              go_wp2_with (go_at_call 37; go_must (refine hsd.mono ?_; rintro e w2 ⟨rfl, b2⟩))
              go_roundw
              case rel => exact ⟨2, by omega, by go_num, HBW.out.trans (b2.mono HBW.out.size), HX.out⟩
              case measure => simp [intOf]
            · have hn2 := HK2.out (HE.out.1 (by omega)) hz
              have HN2 := hidE (show erV n = .iface 62 (.int .i64 (e2R r)) by rw [hn2]; exact erV_ne hz)
              rw [erV_ne hz] at hsd
              generalize e2R r = z at hsd HN2
              clear HK1 HK2 HK3 HK5 HK6 HE hz hk hrw H1 H2 H3 H4 hn2
              go_wp2_with (go_at_call 37; go_must (refine hsd.mono ?_; rintro e w2 ⟨rfl, b2⟩))
              exact HQ.out _ _ ⟨by rw [HN2.out]; rfl, HBr.out.trans (b2.mono HBr.out.size)⟩
          · subst hk0
            have q0 : wr.cell? ⟨fb, 2, none⟩ = some (.func (.func 33) #[] #[]) := by rw [cell_of_row wr fb 2 _ _ _ hrw]; rfl
            have hsd := H3.out wr B HRr.out HBr.out
            by_cases hz : e3R r = 0
            · have HX := hidE (show (1 ≤ 3 → e1R r = 0) ∧ (2 ≤ 3 → e2R r = 0) ∧ (3 ≤ 3 → e3R r = 0) ∧ (4 ≤ 3 → e4R r = 0) from ⟨fun _ => HE.out.1 (by omega), fun _ => HE.out.2.1 (by omega), fun _ => hz, fun h => by omega⟩)
              rw [hz, show erV 0 = .nilIface from rfl] at hsd
              clear HK1 HK2 HK3 HK5 HK6 HE hz hk hrw H1 H2 H3 H4
              go_wp2_with (go_at_call 37; go_must (refine hsd.mono ?_; rintro e w2 ⟨rfl, b2⟩))
              go_roundw
              case rel => exact ⟨3, by omega, by go_num, HBW.out.trans (b2.mono HBW.out.size), HX.out⟩
              case measure => simp [intOf]
            · have hn2 := HK3.out (HE.out.1 (by omega)) (HE.out.2.1 (by omega)) hz
              have HN2 := hidE (show erV n = .iface 62 (.int .i64 (e3R r)) by rw [hn2]; exact erV_ne hz)
              rw [erV_ne hz] at hsd
              generalize e3R r = z at hsd HN2
              clear HK1 HK2 HK3 HK5 HK6 HE hz hk hrw H1 H2 H3 H4 hn2
              go_wp2_with (go_at_call 37; go_must (refine hsd.mono ?_; rintro e w2 ⟨rfl, b2⟩))
              exact HQ.out _ _ ⟨by rw [HN2.out]; rfl, HBr.out.trans (b2.mono HBr.out.size)⟩
          · subst hk0
            have q0 : wr.cell? ⟨fb, 3, none⟩ = some (.func (.func 35) #[] #[.pointer (some ⟨hp, 0, none⟩)]) := by rw [cell_of_row wr fb 3 _ _ _ hrw]; rfl
            have hsd := H4.out wr B hp HRr.out HBr.out HQr.out (HE.out.2.2.1 (by omega))
            by_cases hz : e4R r = 0
            · have HX := hidE (show (1 ≤ 4 → e1R r = 0) ∧ (2 ≤ 4 → e2R r = 0) ∧ (3 ≤ 4 → e3R r = 0) ∧ (4 ≤ 4 → e4R r = 0) from ⟨fun _ => HE.out.1 (by omega), fun _ => HE.out.2.1 (by omega), fun _ => HE.out.2.2.1 (by omega), fun _ => hz⟩)
              rw [hz, show erV 0 = .nilIface from rfl] at hsd
              clear HK1 HK2 HK3 HK5 HK6 HE hz hk hrw H1 H2 H3 H4
              go_wp2_with (go_at_call 37; go_must (refine hsd.mono ?_; rintro e w2 ⟨rfl, b2⟩))
              go_roundw
              case rel => exact ⟨4, by omega, by go_num, HBW.out.trans (b2.mono HBW.out.size), HX.out⟩
              case measure => simp [intOf]
            · have hn2 := HK5.out (HE.out.1 (by omega)) (HE.out.2.1 (by omega)) (HE.out.2.2.1 (by omega)) hz
              have HN2 := hidE (show erV n = .iface 62 (.int .i64 (e4R r)) by rw [hn2]; exact erV_ne hz)
              rw [erV_ne hz] at hsd
              generalize e4R r = z at hsd HN2
              clear HK1 HK2 HK3 HK5 HK6 HE hz hk hrw H1 H2 H3 H4 hn2
              go_wp2_with (go_at_call 37; go_must (refine hsd.mono ?_; rintro e w2 ⟨rfl, b2⟩))
              exact HQ.out _ _ ⟨by rw [HN2.out]; rfl, HBr.out.trans (b2.mono HBr.out.size)⟩
          · subst hk0
            have h6 := HK6.out (HE.out.1 (by omega)) (HE.out.2.1 (by omega)) (HE.out.2.2.1 (by omega)) (HE.out.2.2.2 (by omega))
            obtain ⟨c0, _, c2, _, _, _, _, _, _, _, _⟩ := HRr.out.cells
            have hw := when_any
            generalize r.keep = kp at c2 h6
            generalize r.pass = ps at c0 h6
            clear HK1 HK2 HK3 HK5 HK6 HE hk hrw H1 H2 H3 H4
            cases kp
            · simp only [Bool.false_and, Bool.false_eq_true, if_false] at h6
              have HN2 := hidE (show erV n = .nilIface by rw [h6]; rfl)
              clear h6
              go_wp2_with (go_at_call 32; go_must (refine (hw false 3 _).mono ?_; rintro e w2 ⟨rfl, hw2⟩; rw [hw2]; clear hw2))
              exact HQ.out _ _ ⟨by rw [HN2.out]; rfl, HBr.out⟩
            · cases ps
              · simp only [Bool.not_false, Bool.and_self, if_true] at h6
                have HN2 := hidE (show erV n = .iface 62 (.int .i64 3) by rw [h6]; rfl)
                clear h6
                go_wp2_with (go_at_call 32; go_must (refine (hw true 3 _).mono ?_; rintro e w2 ⟨rfl, hw2⟩; rw [hw2]; clear hw2))
                exact HQ.out _ _ ⟨by rw [HN2.out]; rfl, HBr.out⟩
              · simp only [Bool.not_true, Bool.and_false, Bool.false_eq_true, if_false] at h6
                have HN2 := hidE (show erV n = .nilIface by rw [h6]; rfl)
                clear h6
                go_wp2_with (go_at_call 32; go_must (refine (hw false 3 _).mono ?_; rintro e w2 ⟨rfl, hw2⟩; rw [hw2]; clear hw2))
                exact HQ.out _ _ ⟨by rw [HN2.out]; rfl, HBr.out⟩
    · have hn1 := K0.out rfl
      have HN2 := hidE (show erV n = .iface 62 (.int .i64 1) by rw [hn1]; rfl)
      clear K0 K1 K2 K3 K5 K6 HWD hn1
      go_wp2_with fail
      exact HQ.out _ _ ⟨by rw [HN2.out]; rfl, HB1.out⟩
end Go.Proofs.Ytdellfmkmbabhaa
