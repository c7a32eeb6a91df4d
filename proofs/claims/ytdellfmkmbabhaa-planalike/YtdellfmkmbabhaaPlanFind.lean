/- What 'find' returns (package plan): the stretch that has a number. -/
import Derived.Test.YtdellfmkmbabhaaPlanDec
namespace Go.Proofs.Ytdellfmkmbabhaa
open Go.RowKit
set_option linter.unusedVariables false
set_option maxRecDepth 10000

def cmpS (s : St) (x : Int) : Int := if s.1.2 < x then -1 else if s.1.1 > x then 1 else 0
theorem cmp_any (s : St) (x : Int) (w : World) : Calls Try.prog 28 #[.agg #[.int .i64 s.1.1, .int .i64 s.1.2, .int .u64 (s.2 : Int)], .int .i64 x] w fun e w' => e = .returned (.int .i64 (cmpS s x)) ∧ Below w.heap.size w w' := by
  have hb : Below w.heap.size w (w.alloc (.cells #[.int .i64 s.1.1, .int .i64 s.1.2, .int .u64 (s.2 : Int)] 54)) := (Below.refl _ _).alloc (Nat.le_refl _) _
  obtain ⟨⟨p, q⟩, f⟩ := s
  simp only at hb ⊢
  obtain ⟨c, hc⟩ : ∃ c, cmpS ((p, q), f) x = c := ⟨_, rfl⟩
  rw [hc]
  unfold cmpS at hc
  simp only at hc
  by_cases h1 : q < x
  · rw [if_pos h1] at hc
    subst hc
    go_enter Try.func28, Try.ntmps28
    go_wp2
    go_ret
    exact ⟨rfl, hb⟩
  · rw [if_neg h1] at hc
    by_cases h2 : p > x
    · rw [if_pos h2] at hc
      subst hc
      go_enter Try.func28, Try.ntmps28
      go_wp2
      go_ret
      exact ⟨rfl, hb⟩
    · rw [if_neg h2] at hc
      subst hc
      go_enter Try.func28, Try.ntmps28
      go_wp2
      go_ret
      exact ⟨rfl, hb⟩
/-- What is found. -/
def Found (C : List St) (x : Int) (i : Nat) (b : Bool) : Prop := (b = true → ∃ h : i < C.length, C[i].1.1 ≤ x ∧ x ≤ C[i].1.2) ∧ (b = false → ∀ m (h : m < C.length), ¬ (C[m].1.1 ≤ x ∧ x ≤ C[m].1.2))
theorem below_all {lo hi : Int} {L : List (List Sp)} {C : List St} (ok : CutOk lo hi L C) {x : Int} {h : Nat} (hh : h < C.length) (hx : C[h].1.2 < x) : ∀ m (hm : m < C.length), m < h + 1 → C[m].1.2 < x := by
  intro m hm hmh
  rcases Nat.lt_or_ge m h with h1 | h1
  · have a := ok.rise m h hm hh h1
    have b := ok.some' h hh
    omega
  · have : m = h := by omega
    subst this; exact hx
theorem above_all {lo hi : Int} {L : List (List Sp)} {C : List St} (ok : CutOk lo hi L C) {x : Int} {h : Nat} (hh : h < C.length) (hx : ¬ C[h].1.2 < x) : ∀ m (hm : m < C.length), h ≤ m → ¬ C[m].1.2 < x := by
  intro m hm hmh
  rcases Nat.lt_or_ge h m with h1 | h1
  · have a := ok.rise h m hh hm h1
    have b := ok.some' m hm
    omega
  · have : m = h := by omega
    subst this; exact hx
theorem found_of {lo hi : Int} {L : List (List Sp)} {C : List St} (ok : CutOk lo hi L C) {x : Int} {i : Nat} (h1 : ∀ m (hm : m < C.length), m < i → C[m].1.2 < x) (h2 : ∀ m (hm : m < C.length), i ≤ m → ¬ C[m].1.2 < x) (b : Bool) (hb : ∀ h : i < C.length, b = (cmpS C[i] x == 0)) (hn : ¬ i < C.length → b = false) : Found C x i b := by
  unfold Found
  by_cases hi : i < C.length
  · have e := hb hi
    have h3 := h2 i hi (Nat.le_refl _)
    unfold cmpS at e
    rw [if_neg h3] at e
    by_cases h4 : C[i].1.1 > x
    · rw [if_pos h4] at e
      have e' : b = false := e
      refine ⟨(fun h => by rw [e'] at h; cases h), fun _ m hm hc => ?_⟩
      rcases Nat.lt_trichotomy m i with h5 | h5 | h5
      · have := h1 m hm h5; omega
      · subst h5; omega
      · have := ok.rise i m hi hm h5
        have := ok.some' i hi
        omega
    · rw [if_neg h4] at e
      have e' : b = true := e
      exact ⟨fun _ => ⟨hi, by omega, by omega⟩, (fun h => by rw [e'] at h; cases h)⟩
  · have e := hn hi
    exact ⟨(fun h => by rw [e] at h; cases h), fun _ m hm hc => by have := h1 m hm (by omega); omega⟩
set_option maxHeartbeats 16000000 in
theorem bsf_any (v : Value) (C : List St) (x : Int) (base : Nat) (w : World) {lo hi : Int} {L : List (List Sp)} (ok : CutOk lo hi L C) (hv : OwnSt w base v C) (hn : C.length ≤ 1000) :
    Calls Try.prog 27 #[v, .int .i64 x, .func (.func 28) #[] #[]] w fun e w' => ∃ (i : Nat) (b : Bool), e = .returned (.tuple #[.int .i64 (i : Int), .bool b]) ∧ Found C x i b ∧ Below w.heap.size w w' := by
  obtain ⟨ao, co, hve⟩ := OwnN.len hv
  obtain ⟨N, hN⟩ : ∃ N, C.length = N := ⟨_, rfl⟩
  rw [hN] at hve hn
  subst hve
  obtain ⟨Q, hQ⟩ : ∃ Q : Ending → World → Prop, Q = fun e w' => ∃ (i : Nat) (b : Bool), e = .returned (.tuple #[.int .i64 (i : Int), .bool b]) ∧ Found C x i b ∧ Below w.heap.size w w' := ⟨_, rfl⟩
  have HQ : Hid (∀ (i : Nat) (b : Bool) w', Found C x i b → Below w.heap.size w w' → Q (.returned (.tuple #[.int .i64 (i : Int), .bool b])) w') := by rw [hQ]; exact fun i b w' h1 h2 => ⟨i, b, rfl, h1, h2⟩
  rw [← hQ]
  clear hQ
  have HV := hidE hv
  have HN := hidE hN
  have HOK := hidE ok
  clear hv hN ok
  go_enter Try.func27, Try.ntmps27
  go_upto_region 3 with fail
  go_loopw [9, 10, 11] (fun a b _ wr => ∃ i j : Nat, a = .int .i64 (i : Int) ∧ b = .int .i64 (j : Int) ∧ i ≤ j ∧ j ≤ N ∧ Hid (∀ m (hm : m < C.length), m < i → C[m].1.2 < x) ∧ Hid (∀ m (hm : m < C.length), j ≤ m → ¬ C[m].1.2 < x) ∧ Hid (Below w.heap.size w wr)) (fun a b _ _ => (intOf b - intOf a).toNat)
  case atStart => exact ⟨0, N, rfl, rfl, by omega, by omega, fun m hm h => absurd h (Nat.not_lt_zero _), fun m hm h => by have := HN.out; omega, Below.refl _ _⟩
  case round =>
    obtain ⟨i, j, rfl, rfl, hij, hjN, H1, H2, HB⟩ := hrel
    by_cases hlt : i < j
    · have j1 : (i : Int) < (j : Int) := by omega
      obtain ⟨m, hm⟩ : ∃ m : Nat, ((i : Int) + (j : Int)) / 2 = (m : Int) := ⟨(i + j) / 2, by omega⟩
      have him : i ≤ m := by omega
      have hmj : m < j := by omega
      have j2 : (m : Int) < (N : Int) := by omega
      have j3 : (0 : Int) ≤ (m : Int) := by omega
      have hml : m < C.length := by rw [HN.out]; omega
      have hv2 : OwnSt wr base (.slice ao N co) C := OwnN.below HV.out HB.out
      obtain ⟨g, cap, hvv, hg1, hg2, hg3, hg4⟩ := OwnN.shape hv2 (by omega)
      rw [HN.out] at hvv
      simp only [Value.slice.injEq] at hvv
      obtain ⟨rfl, _, rfl⟩ := hvv
      have hco : co ≤ 9223372036854775807 := by unfold maxLen at hg4; omega
      have c0 := OwnN.cell hv2 encSt_len m hml 0 _ rfl
      have c1 := OwnN.cell hv2 encSt_len m hml 1 _ rfl
      have c2 := OwnN.cell hv2 encSt_len m hml 2 _ rfl
      rw [Nat.add_zero] at c0
      have hcm := cmp_any C[m] x wr
      have HLO := hidE (fun h => below_all HOK.out hml (x := x) h)
      have HHI := hidE (fun h => above_all HOK.out hml (x := x) h)
      have hcs : cmpS C[m] x = if C[m].1.2 < x then -1 else if C[m].1.1 > x then 1 else 0 := rfl
      generalize C[m] = s at c0 c1 c2 hcm HLO HHI hcs
      clear hv2 hg1 hg2 hg3 hg4
      go_upto_region 5 with fail
      by_cases hs : s.1.2 < x
      · rw [if_pos hs] at hcs
        rw [hcs] at hcm
        have HL2 := hidE (HLO.out hs)
        clear hs hcs HLO HHI hm
        go_wp2_with (go_at_call 28; go_must (refine hcm.mono ?_; rintro e w2 ⟨rfl, b2⟩))
        go_roundw
        case rel => exact ⟨m + 1, j, by go_num, rfl, by omega, hjN, HL2.out, (fun m' hm' h' => by have := H2.out m' hm' h'; omega), HB.out.trans (b2.mono HB.out.size)⟩
        case measure => simp [intOf]; omega
      · rw [if_neg hs] at hcs
        have hz : ¬ cmpS s x < 0 := by rw [hcs]; split <;> omega
        have HH2 := hidE (HHI.out hs)
        generalize cmpS s x = z at hcm hz
        clear hs hcs HLO HHI hm
        go_wp2_with (go_at_call 28; go_must (refine hcm.mono ?_; rintro e w2 ⟨rfl, b2⟩))
        go_roundw
        case rel => exact ⟨i, m, rfl, rfl, him, by omega, H1.out, (fun m' hm' h' => by have := HH2.out m' hm' h'; omega), HB.out.trans (b2.mono HB.out.size)⟩
        case measure => simp [intOf]; omega
    · have j1 : ¬ (i : Int) < (j : Int) := by omega
      have hij' : i = j := by omega
      subst hij'
      have HFO := hidE (fun b => found_of HOK.out H1.out H2.out b)
      by_cases hin : i < N
      · have j2 : (i : Int) < (N : Int) := by omega
        have j3 : (0 : Int) ≤ (i : Int) := by omega
        have hml : i < C.length := by rw [HN.out]; exact hin
        have hv2 : OwnSt wr base (.slice ao N co) C := OwnN.below HV.out HB.out
        obtain ⟨g, cap, hvv, hg1, hg2, hg3, hg4⟩ := OwnN.shape hv2 (by omega)
        rw [HN.out] at hvv
        simp only [Value.slice.injEq] at hvv
        obtain ⟨rfl, _, rfl⟩ := hvv
        have hco : co ≤ 9223372036854775807 := by unfold maxLen at hg4; omega
        have c0 := OwnN.cell hv2 encSt_len i hml 0 _ rfl
        have c1 := OwnN.cell hv2 encSt_len i hml 1 _ rfl
        have c2 := OwnN.cell hv2 encSt_len i hml 2 _ rfl
        rw [Nat.add_zero] at c0
        have hcm := cmp_any C[i] x wr
        have HF2 := hidE (HFO.out (cmpS C[i] x == 0) (fun _ => rfl) (fun h => absurd hml h))
        generalize C[i] = s at c0 c1 c2 hcm HF2
        generalize cmpS s x = z at hcm HF2
        clear hv2 hg1 hg2 hg3 hg4 HFO H1 H2
        go_wp2_with (go_at_call 28; go_must (refine hcm.mono ?_; rintro e w2 ⟨rfl, b2⟩))
        exact HQ.out _ _ _ HF2.out (HB.out.trans (b2.mono HB.out.size))
      · have j2 : ¬ (i : Int) < (N : Int) := by omega
        have HF2 := hidE (HFO.out false (fun h => by have := HN.out; omega) (fun _ => rfl))
        clear HFO H1 H2
        go_wp2
        exact HQ.out _ _ _ HF2.out HB.out
/-- 'find' of a number: the stretch that has it. -/
def FindR (C : List St) (x : Int) (p q : Int) (f : Nat) (b : Bool) : Prop := (b = true → ∃ i, ∃ h : i < C.length, C[i] = ((p, q), f) ∧ p ≤ x ∧ x ≤ q) ∧ (b = false → ∀ m (h : m < C.length), ¬ (C[m].1.1 ≤ x ∧ x ≤ C[m].1.2))
set_option maxHeartbeats 16000000 in
theorem find_any (v : Value) (C : List St) (x : Int) (base : Nat) (w : World) {lo hi : Int} {L : List (List Sp)} (ok : CutOk lo hi L C) (hv : OwnSt w base v C) (hn : C.length ≤ 1000) :
    Calls Try.prog 14 #[v, .int .i64 x] w fun e w' => ∃ (p q : Int) (f : Nat) (b : Bool), e = .returned (.tuple #[.agg #[.int .i64 p, .int .i64 q, .int .u64 (f : Int)], .bool b]) ∧ FindR C x p q f b ∧ Below w.heap.size w w' := by
  obtain ⟨ao, co, hve⟩ := OwnN.len hv
  obtain ⟨N, hN⟩ : ∃ N, C.length = N := ⟨_, rfl⟩
  rw [hN] at hve
  subst hve
  have b0 : Below w.heap.size w (w.alloc (.cells #[.int .i64 0, .int .i64 0, .int .u64 0] 54)) := (Below.refl _ _).alloc (Nat.le_refl _) _
  have n0 := heap_alloc_new w (.cells #[.int .i64 0, .int .i64 0, .int .u64 0] 54)
  have z0 : (w.alloc (.cells #[.int .i64 0, .int .i64 0, .int .u64 0] 54)).heap.size = w.heap.size + 1 := by simp
  have hbs := bsf_any (.slice ao N co) C x base (w.alloc (.cells #[.int .i64 0, .int .i64 0, .int .u64 0] 54)) ok (OwnN.below hv b0) hn
  obtain ⟨W0, hW0⟩ : ∃ W0, w.alloc (.cells #[.int .i64 0, .int .i64 0, .int .u64 0] 54) = W0 := ⟨_, rfl⟩
  obtain ⟨S, hS⟩ : ∃ S, w.heap.size = S := ⟨_, rfl⟩
  rw [hW0, hS] at b0 n0 z0
  rw [hW0] at hbs
  have HV := hidE (fun W (h : Below S w W) => show OwnSt W base (.slice ao N co) C from OwnN.below hv (by rw [hS]; exact h))
  have HN := hidE hN
  have HW0 := hidE hW0
  have HS := hidE hS
  have HB0 := hidE b0
  have HN0 := hidE n0
  have HZ0 := hidE z0
  clear hv hN hW0 hS b0 n0 z0 ok
  go_enter Try.func14, Try.ntmps14
  go_upto_region 1 with fail
  rw [HW0.out, HS.out]
  go_upto_region 2 with (go_at_call 27; go_must (refine hbs.mono ?_; rintro e w1 ⟨i, b, rfl, hfo, b1⟩))
  have hn1 : w1.heap[S]? = some (.cells #[.int .i64 0, .int .i64 0, .int .u64 0] 54 (0, 0)) := (b1.block S (by have := HZ0.out; omega)).trans HN0.out
  have HB1 := hidE (HB0.out.trans (b1.mono (by have := HZ0.out; omega)))
  have HFO := hidE hfo
  clear hbs b1 hfo HN0 HB0 HW0
  cases b with
  | false =>
    obtain ⟨W9, hW9, q9, o9, b9, z9⟩ := set3 hn1 (.int .i64 0) (.int .i64 0) (.int .u64 0)
    have HW9 := hidE hW9
    have HB9 := hidE (HB1.out.trans b9)
    obtain ⟨⟨w0, w1', w2⟩, _⟩ := row3 q9
    have HQ9 := hidE (And.intro w0 (And.intro w1' w2))
    obtain ⟨⟨g0, g1, g2⟩, v0, v1, v2⟩ := row3 hn1
    clear hW9 q9 o9 b9 z9 w0 w1' w2 hn1
    go_wp2_with fail
    rw [HW9.out]
    obtain ⟨w0, w1', w2⟩ := HQ9.out
    exact bodyPost_ret (v := .tuple #[.agg #[.int .i64 0, .int .i64 0, .int .u64 0], .bool false]) (by simp [results, Try.results14, go_sem, w0, w1', w2]) rfl ⟨0, 0, 0, false, rfl, ⟨(fun h => by cases h), HFO.out.2⟩, by rw [HS.out]; exact HB9.out⟩
  | true =>
    obtain ⟨hil, hx1, hx2⟩ := HFO.out.1 rfl
    have j2 : (i : Int) < (N : Int) := by have := HN.out; omega
    have j3 : (0 : Int) ≤ (i : Int) := by omega
    have hv2 := HV.out w1 HB1.out
    obtain ⟨g, cap, hvv, hg1, hg2, hg3, hg4⟩ := OwnN.shape hv2 (by omega)
    rw [HN.out] at hvv
    simp only [Value.slice.injEq] at hvv
    obtain ⟨rfl, _, rfl⟩ := hvv
    have hco : co ≤ 9223372036854775807 := by unfold maxLen at hg4; omega
    have c0 := OwnN.cell hv2 encSt_len i hil 0 _ rfl
    have c1 := OwnN.cell hv2 encSt_len i hil 1 _ rfl
    have c2 := OwnN.cell hv2 encSt_len i hil 2 _ rfl
    rw [Nat.add_zero] at c0
    have HX := hidE (show ∃ i, ∃ h : i < C.length, C[i] = ((C[i].1.1, C[i].1.2), C[i].2) ∧ C[i].1.1 ≤ x ∧ x ≤ C[i].1.2 from ⟨i, hil, rfl, hx1, hx2⟩)
    have HX2 : Hid (∃ i', ∃ h : i' < C.length, C[i'] = ((C[i].1.1, C[i].1.2), C[i].2) ∧ C[i].1.1 ≤ x ∧ x ≤ C[i].1.2) := ⟨i, hil, rfl, hx1, hx2⟩
    clear HX
    generalize C[i] = s at c0 c1 c2 HX2
    obtain ⟨⟨p, q⟩, f⟩ := s
    simp only at c0 c1 c2 HX2
    obtain ⟨W9, hW9, q9, o9, b9, z9⟩ := set3 hn1 (.int .i64 p) (.int .i64 q) (.int .u64 (f : Int))
    have HW9 := hidE hW9
    have HB9 := hidE (HB1.out.trans b9)
    obtain ⟨⟨w0, w1', w2⟩, _⟩ := row3 q9
    have HQ9 := hidE (And.intro w0 (And.intro w1' w2))
    obtain ⟨⟨g0, g1, g2⟩, v0, v1, v2⟩ := row3 hn1
    clear hW9 q9 o9 b9 z9 w0 w1' w2 hn1 hv2 hg1 hg2 hg3 hg4 hil hx1 hx2
    go_wp2_with fail
    rw [HW9.out]
    obtain ⟨w0, w1', w2⟩ := HQ9.out
    exact bodyPost_ret (v := .tuple #[.agg #[.int .i64 p, .int .i64 q, .int .u64 (f : Int)], .bool true]) (by simp [results, Try.results14, go_sem, w0, w1', w2]) rfl ⟨p, q, f, true, rfl, ⟨fun _ => HX2.out, (fun h => by cases h)⟩, by rw [HS.out]; exact HB9.out⟩
end Go.Proofs.Ytdellfmkmbabhaa
