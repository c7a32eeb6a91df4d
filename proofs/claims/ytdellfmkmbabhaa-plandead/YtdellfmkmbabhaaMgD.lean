/- PlanDead: the law's walk. No condition. -/
import Derived.Test.YtdellfmkmbabhaaMgC
import Derived.Test.YtdellfmkmbabhaaJudgeJud
import Derived.Deep.DeepCutAuto
import Derived.Deep.DeepMust
namespace Go.Proofs.Ytdellfmkmbabhaa
open Go.RowKit Go.Maps
set_option linter.unusedVariables false
set_option maxRecDepth 10000

/-- The law's two rules: the second is quick, so the first never counts. -/
def ded0 : Rl := ⟨false, false, false, 0, 0, 0, 0, 0, 0, [], []⟩
def ded1 : Rl := ⟨false, true, false, 0, 0, 0, 0, 0, 0, [], []⟩
def dedS : List Rx := [(ded0, .slice none 0 0, .slice none 0 0), (ded1, .slice none 0 0, .slice none 0 0)]
theorem dedS_ok : upE (dedS.map Prod.fst) = 0 := by decide
theorem ded_fits (k : Ky) (way : Int) (hk : keyB k way = true) : judN (dedS.map Prod.fst) k way = 1 := by
  have hr : rusE (dedS.map Prod.fst) = 0 := by decide
  rw [judN_lst hr hk]
  have f : ∀ r : Rl, r = ded0 ∨ r = ded1 → fitsB r k way = true := fun r h => by
    have h0 : ruE r = 0 := by rcases h with rfl | rfl <;> decide
    rw [fits_ask h0 hk]
    have ok := keyB_ok.1 hk
    have g : ∀ x : Int, 0 ≤ x ∧ x ≤ 4294967295 → inS [(0, 0 + pw (32 - 0) - 1)] x = true := fun x hx => by
      rw [show (0 + pw (32 - 0) - 1 : Int) = 4294967295 by decide]
      unfold inS inB
      simp only [List.any_cons, List.any_nil, Bool.or_false]
      rw [insB_iff.2 (show (0 : Int) ≤ x ∧ x ≤ 4294967295 from hx), Bool.or_true]
    have g2 : inS (askS r 2) (ptS k way 2) = true := by rcases h with rfl | rfl <;> exact g _ (ok 2 (by omega))
    have g4 : inS (askS r 4) (ptS k way 4) = true := by rcases h with rfl | rfl <;> exact g _ (ok 4 (by omega))
    have t0 : inS (askS r 0) (ptS k way 0) = true := by rcases h with rfl | rfl <;> rfl
    have t1 : inS (askS r 1) (ptS k way 1) = true := by rcases h with rfl | rfl <;> rfl
    have t3 : inS (askS r 3) (ptS k way 3) = true := by rcases h with rfl | rfl <;> rfl
    have t5 : inS (askS r 5) (ptS k way 5) = true := by rcases h with rfl | rfl <;> rfl
    simp only [g2, g4, t0, t1, t3, t5, Bool.and_self]
  have l : lstI k way (dedS.map Prod.fst) = some 1 := by
    show lstI k way [ded0, ded1] = some 1
    rw [lstI, if_pos (f _ (.inl rfl)), if_neg (by decide), lstI, if_pos (f _ (.inr rfl)), if_pos (show ded1.quick = true from rfl)]
  rw [l]
  rfl
theorem ded_ds {ds : List Int} (h : DeadIs (dedS.map Prod.fst) ds) : ds = [0] := by
  obtain ⟨js, rfl, hj⟩ := h
  have h0 : 0 ∉ js := fun h => by
    obtain ⟨k, way, hk, e⟩ := (hj 0 (by decide)).1 h
    rw [ded_fits k way hk] at e
    cases e
  have h1 : 1 ∈ js := (hj 1 (by decide)).2 ⟨⟨0, 0, 0, 0, 0⟩, 1, by decide, ded_fits _ _ (by decide)⟩
  show deadL 2 js = [0]
  unfold deadL
  rw [show List.range 2 = [0, 1] from rfl]
  simp [h0, h1]
theorem dedS_at (w : World) : Rls (w.alloc (.cells #[.bool false, .bool false, .bool false, .int .i64 0, .int .i64 0, .int .i64 0, .int .i64 0, .int .i64 0, .int .i64 0, .slice none 0 0, .slice none 0 0, .bool false, .bool true, .bool false, .int .i64 0, .int .i64 0, .int .i64 0, .int .i64 0, .int .i64 0, .int .i64 0, .slice none 0 0, .slice none 0 0] 34)) (.slice (some ⟨w.heap.size, 0, none⟩) 2 2) dedS := by
  have h := heap_alloc_new w (.cells #[.bool false, .bool false, .bool false, .int .i64 0, .int .i64 0, .int .i64 0, .int .i64 0, .int .i64 0, .int .i64 0, .slice none 0 0, .slice none 0 0, .bool false, .bool true, .bool false, .int .i64 0, .int .i64 0, .int .i64 0, .int .i64 0, .int .i64 0, .int .i64 0, .slice none 0 0, .slice none 0 0] 34)
  refine .inr ⟨w.heap.size, 0, 2, 2, rfl, Nat.le_refl _, by unfold maxLen; omega, rfl, by simp, fun i hi => ?_⟩
  match i, hi with
  | 0, _ => exact ⟨⟨by rw [cell_of_row _ _ _ _ _ _ h]; rfl, by rw [cell_of_row _ _ _ _ _ _ h]; rfl, by rw [cell_of_row _ _ _ _ _ _ h]; rfl, by rw [cell_of_row _ _ _ _ _ _ h]; rfl, by rw [cell_of_row _ _ _ _ _ _ h]; rfl, by rw [cell_of_row _ _ _ _ _ _ h]; rfl, by rw [cell_of_row _ _ _ _ _ _ h]; rfl, by rw [cell_of_row _ _ _ _ _ _ h]; rfl, by rw [cell_of_row _ _ _ _ _ _ h]; rfl, by rw [cell_of_row _ _ _ _ _ _ h]; rfl, by rw [cell_of_row _ _ _ _ _ _ h]; rfl⟩, Spns.nil _ _ _, Spns.nil _ _ _, by show 0 ≤ _; omega, by show 0 ≤ _; omega⟩
  | 1, _ => exact ⟨⟨by rw [cell_of_row _ _ _ _ _ _ h]; rfl, by rw [cell_of_row _ _ _ _ _ _ h]; rfl, by rw [cell_of_row _ _ _ _ _ _ h]; rfl, by rw [cell_of_row _ _ _ _ _ _ h]; rfl, by rw [cell_of_row _ _ _ _ _ _ h]; rfl, by rw [cell_of_row _ _ _ _ _ _ h]; rfl, by rw [cell_of_row _ _ _ _ _ _ h]; rfl, by rw [cell_of_row _ _ _ _ _ _ h]; rfl, by rw [cell_of_row _ _ _ _ _ _ h]; rfl, by rw [cell_of_row _ _ _ _ _ _ h]; rfl, by rw [cell_of_row _ _ _ _ _ _ h]; rfl⟩, Spns.nil _ _ _, Spns.nil _ _ _, by show 0 ≤ _; omega, by show 0 ≤ _; omega⟩
/-- The law's first call. -/
theorem ded_call (w : World) : Calls Try.prog 9 #[.slice (some ⟨w.heap.size, 0, none⟩) 2 2] (w.alloc (.cells #[.bool false, .bool false, .bool false, .int .i64 0, .int .i64 0, .int .i64 0, .int .i64 0, .int .i64 0, .int .i64 0, .slice none 0 0, .slice none 0 0, .bool false, .bool true, .bool false, .int .i64 0, .int .i64 0, .int .i64 0, .int .i64 0, .int .i64 0, .int .i64 0, .slice none 0 0, .slice none 0 0] 34)) fun e w' => ∃ g c : Nat, e = .returned (.tuple #[.slice (some ⟨g, 0, none⟩) 1 c, .nilIface]) ∧ c ≤ 9223372036854775807 ∧ w'.cell? ⟨g, 0, none⟩ = some (.int .i64 0) ∧ Below w.heap.size w w' := by
  refine (dead_ok _ dedS _ (dedS_at w) _ rfl dedS_ok).mono ?_
  rintro e w' ⟨da, m, dc, ds, rfl, H, hb⟩
  obtain ⟨h1, h2, h3⟩ := H.out
  have e := ded_ds h3
  subst e
  subst h2
  obtain ⟨g, cap, hv, _, _, _, hm⟩ := h1.shape (by decide)
  simp only [Value.slice.injEq] at hv
  obtain ⟨rfl, _, rfl⟩ := hv
  have bb : Below w.heap.size w (w.alloc (.cells #[.bool false, .bool false, .bool false, .int .i64 0, .int .i64 0, .int .i64 0, .int .i64 0, .int .i64 0, .int .i64 0, .slice none 0 0, .slice none 0 0, .bool false, .bool true, .bool false, .int .i64 0, .int .i64 0, .int .i64 0, .int .i64 0, .int .i64 0, .int .i64 0, .slice none 0 0, .slice none 0 0] 34)) := (Below.refl _ _).alloc (Nat.le_refl _) _
  exact ⟨g, _, rfl, by unfold maxLen at hm; omega, h1.cell rfl 0 (by decide), bb.trans (hb.mono bb.size)⟩
end Go.Proofs.Ytdellfmkmbabhaa

namespace Go.Proofs.Ytdellfmkmbabhaa
open Go.RowKit Go.Maps
set_option linter.unusedVariables false
set_option maxRecDepth 10000

theorem mem_take_succ {ds : List Int} {z : Int} {j : Nat} (h : j < ds.length) : decide (z ∈ ds.take (j + 1)) = (decide (z ∈ ds.take j) || (ds[j] == z)) := by
  have e : (z ∈ ds.take (j + 1)) ↔ (z ∈ ds.take j ∨ ds[j] = z) := by
    rw [List.take_succ_eq_append_getElem h, List.mem_append, List.mem_singleton]
    exact or_congr Iff.rfl eq_comm
  generalize ds[j] = y at e ⊢
  by_cases h1 : z ∈ ds.take j
  · rw [decide_eq_true (e.2 (.inl h1)), decide_eq_true h1]; rfl
  · by_cases h2 : y = z
    · rw [decide_eq_true (e.2 (.inr h2)), decide_eq_false h1, h2]; simp
    · rw [decide_eq_false (fun h => (e.1 h).elim h1 h2), decide_eq_false h1]; simp [h2]
set_option maxHeartbeats 32000000 in
theorem dead_walk (v : Value) (al : List Rx) (k : Ky) (way : Int) (w : World) (ha : Rls w v al) {q : Prop} (hq : q) :
    Calls Try.prog 4 #[v, keyV k, .int .i64 way] w fun e w' => e = .returned (.bool true) ∧ Below w.heap.size w w' := by
  obtain ⟨ao, co, hve⟩ := ha.len
  obtain ⟨A, hA⟩ : ∃ A, al.map Prod.fst = A := ⟨_, rfl⟩
  have hla : al.length = A.length := by rw [← hA, List.length_map]
  obtain ⟨N, hN⟩ : ∃ N, A.length = N := ⟨_, rfl⟩
  rw [hla, hN] at hve
  subst hve
  obtain ⟨Q, hQ⟩ : ∃ Q : Ending → World → Prop, Q = fun e w' => e = .returned (.bool true) ∧ Below w.heap.size w w' := ⟨_, rfl⟩
  have HQ : Hid (∀ w', Below w.heap.size w w' → Q (.returned (.bool true)) w') := by rw [hQ]; exact fun _ h => ⟨rfl, h⟩
  rw [← hQ]
  have HV := hidE (fun W (hb : Below w.heap.size w W) => ha.below hb)
  have HA := hidE hA
  have HN := hidE hN
  have HCK := hidE (fun W (hb : Below w.heap.size w W) => rusCheck_any _ al W (ha.below hb))
  have HJU := hidE (fun W k way (hb : Below w.heap.size w W) => judge_any _ al k way W (ha.below hb))
  rw [hA] at HCK HJU
  have b1 : Below w.heap.size w (w.alloc (.cells #[.int .i64 k.kind, .int .i64 k.src, .int .i64 k.frm, .int .i64 k.dst, .int .i64 k.too] 24)) := (Below.refl _ _).alloc (Nat.le_refl _) _
  have k1 := KyAt.new w k
  obtain ⟨W1, hW1⟩ : ∃ W1, w.alloc (.cells #[.int .i64 k.kind, .int .i64 k.src, .int .i64 k.frm, .int .i64 k.dst, .int .i64 k.too] 24) = W1 := ⟨_, rfl⟩
  rw [hW1] at b1 k1
  have hd0 := ded_call W1
  have HW1 := hidE hW1
  have HB1 := hidE b1
  have HK1 := hidE k1
  unfold keyV
  clear hQ ha hA hla hN b1 k1 hW1
  go_enter Try.func4, Try.ntmps4
  go_upto_region 1 with fail
  rw [HW1.out]
  go_upto_region 2 with (go_at_call 9; go_must (refine hd0.mono ?_; rintro e w2 ⟨g, c, rfl, hc, c0, b2⟩))
  have HK2 := hidE (HK1.out.below HK1.out.lt b2)
  have HB2 := hidE (HB1.out.trans (b2.mono HB1.out.size))
  clear hd0 b2 HK1 HB1 HW1
  go_upto_region 4 with fail
  clear c0 hc
  by_cases hu : upE A = 0
  case neg =>
    have hde := dead_bad _ al w2 (HV.out w2 HB2.out) A HA.out hu
    have HUN := hidE (show ¬ rusE A = 0 ∨ (rusE A = 0 ∧ 6 < N) by
      rcases Decidable.em (rusE A = 0) with h | h
      · refine .inr ⟨h, ?_⟩
        have : ¬ (rusE A = 0 ∧ A.length ≤ 6) := fun h2 => hu (upE_zero.2 h2)
        have := HN.out
        omega
      · exact .inl h)
    generalize upE A = z at hde
    clear hu
    go_upto_region 6 with (go_at_call 9; go_must (refine hde.mono ?_; rintro e w3 ⟨rfl, b3⟩))
    have HB3 := hidE (HB2.out.trans (b3.mono HB2.out.size))
    have hck := HCK.out w3 HB3.out
    clear hde b3
    rcases HUN.out with h | ⟨h, h6⟩
    · rw [erV_ne h] at hck
      generalize rusE A = z2 at hck
      clear h
      go_wp2_with (go_at_call 7; go_must (refine hck.mono ?_; rintro e w4 ⟨rfl, b4⟩))
      exact HQ.out _ (HB3.out.trans (b4.mono HB3.out.size))
    · rw [h, show erV 0 = .nilIface from rfl] at hck
      have j6 : (6 : Int) < (N : Int) := by omega
      clear h h6
      go_wp2_with (go_at_call 7; go_must (refine hck.mono ?_; rintro e w4 ⟨rfl, b4⟩))
      exact HQ.out _ (HB3.out.trans (b4.mono HB3.out.size))
  have hde := dead_ok _ al w2 (HV.out w2 HB2.out) A HA.out hu
  obtain ⟨hr, h6⟩ := upE_zero.1 hu
  have HU := hidE hu
  have HR := hidE hr
  clear hu hr h6
  go_upto_region 8 with (go_at_call 9; go_must (refine hde.mono ?_; rintro e w3 ⟨da, m, dc, ds, rfl, HD, b3⟩))
  have HK3 := hidE (HK2.out.below HK2.out.lt b3)
  have HB3 := hidE (HB2.out.trans (b3.mono HB2.out.size))
  obtain ⟨kc0, kc1, kc2, kc3, kc4⟩ := HK3.out.cells
  have hju := HJU.out w3 k way HB3.out
  unfold keyV at hju
  obtain ⟨jn, hjn⟩ : ∃ jn, judN A k way = jn := ⟨_, rfl⟩
  obtain ⟨je, hje⟩ : ∃ je, erV (judE A k way) = je := ⟨_, rfl⟩
  rw [hjn, hje] at hju
  have HJN := hidE (show je = .nilIface → liveP A jn ∨ jn = -1 by
    intro h
    rcases hkb : keyB k way with _ | _
    · rw [(jud_no HR.out hkb).1] at hje
      rw [← hje] at h
      cases h
    · exact .inl ⟨k, way, hkb, hjn⟩)
  have HJE := hidE (show je = .nilIface ∨ ∃ z, je = .iface 62 (.int .i64 z) by
    rw [← hje]
    rcases Decidable.em (judE A k way = 0) with h | h
    · rw [h]; exact .inl rfl
    · rw [erV_ne h]; exact .inr ⟨_, rfl⟩)
  generalize judP A k way = jp at hju
  generalize judK A k way = jk at hju
  clear hde b3 hjn hje HK2 HB2
  go_upto_region 9 with (go_at_call 8; go_must (refine hju.mono ?_; rintro e w4 ⟨rfl, b4⟩))
  have HK4 := hidE (HK3.out.below HK3.out.lt b4)
  have HB4 := hidE (HB3.out.trans (b4.mono HB3.out.size))
  have HO4 := hidE (HD.out.1.below b4)
  have HM := hidE HD.out.2.1
  have HDI := hidE HD.out.2.2
  have hmN : m ≤ 6 := by
    obtain ⟨js, e, _⟩ := HD.out.2.2
    have h1 := HD.out.2.1
    have h2 := deadL_len A.length js
    rw [← e] at h2
    have h3 := (upE_zero.1 HU.out).2
    omega
  have hN6 : N ≤ 6 := by have := (upE_zero.1 HU.out).2; have := HN.out; omega
  clear hju b4 HK3 HB3 HD kc0 kc1 kc2 kc3 kc4
  go_upto_region 10 with fail
  go_loopw [16, 17, 18, 19, 20, 21, 22, 23, 24, 25] (fun i _ _ _ _ _ _ _ _ _ wr => ∃ t : Nat, t ≤ N ∧ i = .int .i64 (t : Int) ∧ Hid (Below w4.heap.size w4 wr)) (fun i _ _ _ _ _ _ _ _ _ _ => ((N : Int) - intOf i).toNat)
  case atStart => exact ⟨0, by omega, rfl, Below.refl _ _⟩
  case round =>
    obtain ⟨t, ht, rfl, HB⟩ := hrel
    have HBW := hidE (HB4.out.trans (HB.out.mono HB4.out.size))
    have HKW := hidE (HK4.out.below HK4.out.lt HB.out)
    have HOW := hidE (HO4.out.below HB.out)
    by_cases htN : t < N
    · have j1 : (t : Int) < (N : Int) := by omega
      have htA : t < A.length := by have := HN.out; omega
      have hlv := live_any _ al t wr (HV.out wr HBW.out) A HA.out HU.out htA
      have HDL := hidE (show (t : Int) ∈ ds ↔ ¬ liveP A (t : Int) by
        obtain ⟨js, e, hj⟩ := HDI.out
        rw [e, deadL_mem htA, hj t htA])
      obtain ⟨w5, rfl⟩ : ∃ w5, w5 = wr := ⟨_, rfl⟩
      go_upto_region 14 with fail
      go_loopw [17, 18] (fun d i wq => ∃ j : Nat, j ≤ m ∧ i = .int .i64 (j : Int) ∧ d = .bool (decide ((t : Int) ∈ ds.take j)) ∧ wq = w5) (fun _ i _ => ((m : Int) - intOf i).toNat)
      case atStart => exact ⟨0, by omega, rfl, rfl, rfl⟩
      case round =>
        obtain ⟨j, hj, rfl, rfl, hw⟩ := hrel
        have hw' := hw.symm
        subst hw'
        by_cases hjm : j < m
        · have i1 : (j : Int) < (m : Int) := by omega
          have i2 : (0 : Int) ≤ (j : Int) := by omega
          have hjl : j < ds.length := by rw [HM.out]; exact hjm
          obtain ⟨g, cap, hvv, hg1, hg2, hg3, hg4⟩ := HOW.out.shape (by omega)
          rw [HM.out] at hvv
          simp only [Value.slice.injEq] at hvv
          obtain ⟨rfl, _, rfl⟩ := hvv
          have hco : dc ≤ 9223372036854775807 := by unfold maxLen at hg4; omega
          have c0 := HOW.out.cell HM.out.symm j hjl
          have HS := hidE (mem_take_succ (z := (t : Int)) hjl)
          generalize ds[j] = y at c0 HS
          clear hg1 hg2 hg3 hg4 hjl hlv
          rcases hb : decide ((t : Int) ∈ ds.take j) with _ | _
          · rw [hb] at HS
            by_cases hy : y = (t : Int)
            · have HS2 := hidE (show decide ((t : Int) ∈ ds.take (j + 1)) = true by rw [HS.out, hy]; simp)
              subst hy
              go_wp2_with fail
              go_roundw
              case rel => exact ⟨j + 1, by omega, by go_num, (by first | (rw [HS2.out]; done) | (rw [HS2.out]; simp [hy])), (by first | rfl | trivial)⟩
              case measure => simp [intOf]; omega
            · have HS2 := hidE (show decide ((t : Int) ∈ ds.take (j + 1)) = false by rw [HS.out]; simp [hy])
              go_wp2_with fail
              go_roundw
              case rel => exact ⟨j + 1, by omega, by go_num, (by first | (rw [HS2.out]; done) | (rw [HS2.out]; simp [hy])), (by first | rfl | trivial)⟩
              case measure => simp [intOf]; omega
          · rw [hb] at HS
            have HS2 := hidE (show decide ((t : Int) ∈ ds.take (j + 1)) = true by rw [HS.out]; rfl)
            go_wp2_with fail
            go_roundw
            case rel => exact ⟨j + 1, by omega, by go_num, (by first | (rw [HS2.out]; done) | (rw [HS2.out]; simp [hy])), (by first | rfl | trivial)⟩
            case measure => simp [intOf]; omega
        · have i1 : ¬ (j : Int) < (m : Int) := by omega
          have etk : ds.take j = ds := List.take_of_length_le (by have := HM.out; omega)
          rw [etk]
          by_cases hdd : (t : Int) ∈ ds
          · rw [decide_eq_true hdd]
            have HNL := hidE (HDL.out.1 hdd)
            clear etk hdd
            go_upto_region 18 with (go_at_call 10; go_must (refine hlv.mono ?_; rintro e w6 ⟨x, way2, z, rfl, HLV, b6⟩))
            have hz : ¬ z = 0 := fun h => HNL.out ⟨x, way2, (HLV.out.1 h).1, (HLV.out.1 h).2⟩
            rw [erV_ne hz]
            have HB6 := hidE (HB.out.trans ((b6.trans (((Below.refl w6.heap.size w6).alloc (Nat.le_refl _) (.cells #[.int .i64 x.kind, .int .i64 x.src, .int .i64 x.frm, .int .i64 x.dst, .int .i64 x.too] 24)).mono b6.size)).mono HB.out.size))
            clear hz hlv b6 HLV
            rcases HJE.out with hje | ⟨z9, hje⟩
            · have hjt : ¬ jn = (t : Int) := fun h => by
                rcases HJN.out hje with h2 | h2
                · rw [h] at h2; exact HNL.out h2
                · omega
              subst hje
              go_wp2_with fail
              go_roundw
              case rel => exact ⟨t + 1, by omega, by go_num, HB6.out⟩
              case measure => simp [intOf]; omega
            · subst hje
              go_wp2_with fail
              go_roundw
              case rel => exact ⟨t + 1, by omega, by go_num, HB6.out⟩
              case measure => simp [intOf]; omega
          · rw [decide_eq_false hdd]
            have HLI := hidE (show liveP A (t : Int) from Classical.byContradiction fun h => hdd (HDL.out.2 h))
            clear etk hdd
            go_upto_region 18 with (go_at_call 10; go_must (refine hlv.mono ?_; rintro e w6 ⟨x, way2, z, rfl, HLV, b6⟩))
            have hz : z = 0 := Classical.byContradiction fun h => HLV.out.2 h HLI.out
            subst hz
            rw [show erV 0 = .nilIface from rfl]
            obtain ⟨hkx, hjx⟩ := HLV.out.1 rfl
            have n7 := KyAt.new w6 x
            have b7 := b6.trans (((Below.refl w6.heap.size w6).alloc (Nat.le_refl _) (.cells #[.int .i64 x.kind, .int .i64 x.src, .int .i64 x.frm, .int .i64 x.dst, .int .i64 x.too] 24)).mono b6.size)
            obtain ⟨Y, hY⟩ : ∃ Y, w6.heap.size = Y := ⟨_, rfl⟩
            obtain ⟨W7, hW7⟩ : ∃ W7, w6.alloc (.cells #[.int .i64 x.kind, .int .i64 x.src, .int .i64 x.frm, .int .i64 x.dst, .int .i64 x.too] 24) = W7 := ⟨_, rfl⟩
            rw [hW7] at n7 b7 ⊢
            rw [hY] at n7 ⊢
            have B7 := HB.out.trans (b7.mono HB.out.size)
            have hju := HJU.out W7 x way2 (HB4.out.trans (B7.mono HB4.out.size))
            rw [(jud_ok HR.out hkx).1, hjx, show erV 0 = .nilIface from rfl] at hju
            obtain ⟨c0, c1, c2, c3, c4⟩ := n7.cells
            have HB7 := hidE B7
            unfold keyV at hju
            generalize judP A x way2 = pa at hju
            generalize judK A x way2 = ka at hju
            clear hlv b6 HLV hkx hjx n7 b7 hY hW7 B7
            go_wp2_with (go_at_call 8; go_must (refine hju.mono ?_; rintro e w8 ⟨rfl, b8⟩))
            have HB8 := hidE (HB7.out.trans (b8.mono HB7.out.size))
            go_roundw
            case rel => exact ⟨t + 1, by omega, by go_num, HB8.out⟩
            case measure => simp [intOf]; omega
    · have j1 : ¬ (t : Int) < (N : Int) := by omega
      have htr := trim_any _ al wr (HV.out wr HBW.out) A HA.out HU.out
      clear HO4 HOW HK4 HB HDI HM
      go_upto_region 25 with (go_at_call 11; go_must (refine htr.mono ?_; rintro e w6 ⟨ta, m2, tc, xs, ds2, rfl, HT, b6⟩))
      have HB6 := hidE (HBW.out.trans (b6.mono HBW.out.size))
      have HK6 := hidE (HKW.out.below HKW.out.lt b6)
      have HTE := hidE (trim_alike (k := k) (way := way) HR.out HT.out.2.2.1)
      have hsub := trimL_sub ds2 A 0
      have hrt := rusE_sub hsub HR.out
      have hm2 : ¬ (N : Int) < (m2 : Int) := by
        have h1 := hsub.length_le
        have h2 : xs.length = (trimL ds2 0 A).length := by rw [← HT.out.2.2.2, List.length_map]
        have h3 := HT.out.2.1
        have h4 := HN.out
        omega
      have hut : upE (trimL ds2 0 A) = 0 := upE_zero.2 ⟨hrt, by have := hsub.length_le; have := (upE_zero.1 HU.out).2; omega⟩
      have hde2 := dead_ok _ xs w6 HT.out.1 _ HT.out.2.2.2 hut
      have hde3 := hde2.mono (R' := fun e w' => ∃ db dd, e = .returned (.tuple #[.slice db 0 dd, .nilIface]) ∧ Below w6.heap.size w6 w') (fun e w' h => by
        obtain ⟨db, m3, dd, ds3, rfl, H3, b7⟩ := h
        have e3 := trim_none HR.out HT.out.2.2.1 H3.out.2.2
        have e4 := H3.out.2.1
        rw [e3] at e4
        have e5 : m3 = 0 := e4.symm
        subst e5
        exact ⟨db, dd, rfl, b7⟩)
      have HJT := hidE (fun W (hb : Below w6.heap.size w6 W) => judge_any _ xs k way W (HT.out.1.below hb))
      rw [HT.out.2.2.2, HTE.out.1, HTE.out.2.1, HTE.out.2.2] at HJT
      clear htr b6 hsub hrt hut hde2 HTE HKW HBW
      go_upto_region 28 with (go_at_call 9; go_must (refine hde3.mono ?_; rintro e w7 ⟨db, dd, rfl, b7⟩))
      have HB7 := hidE (HB6.out.trans (b7.mono HB6.out.size))
      have HK7 := hidE (HK6.out.below HK6.out.lt b7)
      have H67 := hidE b7
      clear hde3 b7 HK6
      go_upto_region 30 with fail
      have hj1 := HJU.out w7 k way HB7.out
      generalize judP A k way = pa at hj1 HJT
      generalize judK A k way = ka at hj1 HJT
      generalize judE A k way = jz at hj1 HJT
      generalize judN A k way = na at hj1
      obtain ⟨c0, c1, c2, c3, c4⟩ := HK7.out.cells
      unfold keyV at hj1 HJT
      by_cases hj0 : jz = 0
      · subst hj0
        rw [show erV 0 = .nilIface from rfl] at hj1 HJT
        go_upto_region 31 with (go_at_call 8; go_must (refine hj1.mono ?_; rintro e w8 ⟨rfl, b8⟩))
        have hj2 := HJT.out w8 (H67.out.trans (b8.mono H67.out.size))
        have HB8 := hidE (HB7.out.trans (b8.mono HB7.out.size))
        have k8 := HK7.out.below HK7.out.lt b8
        clear hj1 c0 c1 c2 c3 c4 b8
        obtain ⟨c0, c1, c2, c3, c4⟩ := k8.cells
        generalize judN (trimL ds2 0 A) k way = nb at hj2
        clear k8
        go_upto_region 32 with (go_at_call 8; go_must (refine hj2.mono ?_; rintro e w9 ⟨rfl, b9⟩))
        have HB9 := hidE (HB8.out.trans (b9.mono HB8.out.size))
        clear hj2 b9 c0 c1 c2 c3 c4
        cases pa <;> cases ka <;> (go_quiet (fail); go_wp2; exact HQ.out _ (below_drewN HB9.out _))
      · rw [erV_ne hj0] at hj1 HJT
        clear hj0
        go_upto_region 31 with (go_at_call 8; go_must (refine hj1.mono ?_; rintro e w8 ⟨rfl, b8⟩))
        have hj2 := HJT.out w8 (H67.out.trans (b8.mono H67.out.size))
        have HB8 := hidE (HB7.out.trans (b8.mono HB7.out.size))
        have k8 := HK7.out.below HK7.out.lt b8
        clear hj1 c0 c1 c2 c3 c4 b8
        obtain ⟨c0, c1, c2, c3, c4⟩ := k8.cells
        generalize judN (trimL ds2 0 A) k way = nb at hj2
        clear k8
        go_upto_region 32 with (go_at_call 8; go_must (refine hj2.mono ?_; rintro e w9 ⟨rfl, b9⟩))
        have HB9 := hidE (HB8.out.trans (b9.mono HB8.out.size))
        clear hj2 b9 c0 c1 c2 c3 c4
        cases pa <;> cases ka <;> (go_quiet (fail); go_wp2; exact HQ.out _ (below_drewN HB9.out _))
end Go.Proofs.Ytdellfmkmbabhaa
