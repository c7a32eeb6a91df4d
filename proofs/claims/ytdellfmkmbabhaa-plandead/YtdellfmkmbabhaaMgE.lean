/- What 'find' returns (package plan): the stretch that has a number. -/
import Derived.Test.YtdellfmkmbabhaaPlanDec
import Derived.Test.YtdellfmkmbabhaaPlanLay3
import Derived.Test.YtdellfmkmbabhaaJudgeJud
namespace Go.Proofs.Ytdellfmkmbabhaa
open Go.RowKit
set_option linter.unusedVariables false
set_option maxRecDepth 10000

def cmpS (s : St) (x : Int) : Int := if s.1.2 < x then -1 else if s.1.1 > x then 1 else 0
theorem cmp_any (s : St) (x : Int) (w : World) : Calls Try.prog 28 #[.agg #[.int .i64 s.1.1, .int .i64 s.1.2, .int .u64 (s.2 : Int)], .int .i64 x] w fun e w' => e = .returned (.int .i64 (cmpS s x)) ∧ Below w.heap.size w w' := by
  have hb : Below w.heap.size w (w.alloc (.cells #[.int .i64 s.1.1, .int .i64 s.1.2, .int .u64 (s.2 : Int)] 54)) := (Below.refl _ _).alloc (Nat.le_refl _) _
  obtain ⟨⟨p, q⟩, f⟩ := s
  simp only at hb ⊢
  obtain ⟨c, hc⟩ : ∃ c, cmpS ((p, q), f) x = c := ⟨_, rfl⟩
  rw [hc]
  unfold cmpS at hc
  simp only at hc
  by_cases h1 : q < x
  · rw [if_pos h1] at hc
    subst hc
    go_enter Try.func28, Try.ntmps28
    go_wp2
    go_ret
    exact ⟨rfl, hb⟩
  · rw [if_neg h1] at hc
    by_cases h2 : p > x
    · rw [if_pos h2] at hc
      subst hc
      go_enter Try.func28, Try.ntmps28
      go_wp2
      go_ret
      exact ⟨rfl, hb⟩
    · rw [if_neg h2] at hc
      subst hc
      go_enter Try.func28, Try.ntmps28
      go_wp2
      go_ret
      exact ⟨rfl, hb⟩
/-- What is found. -/
def Found (C : List St) (x : Int) (i : Nat) (b : Bool) : Prop := (b = true → ∃ h : i < C.length, C[i].1.1 ≤ x ∧ x ≤ C[i].1.2) ∧ (b = false → ∀ m (h : m < C.length), ¬ (C[m].1.1 ≤ x ∧ x ≤ C[m].1.2))
theorem below_all {lo hi : Int} {L : List (List Sp)} {C : List St} (ok : CutOk lo hi L C) {x : Int} {h : Nat} (hh : h < C.length) (hx : C[h].1.2 < x) : ∀ m (hm : m < C.length), m < h + 1 → C[m].1.2 < x := by
  intro m hm hmh
  rcases Nat.lt_or_ge m h with h1 | h1
  · have a := ok.rise m h hm hh h1
    have b := ok.some' h hh
    omega
  · have : m = h := by omega
    subst this; exact hx
theorem above_all {lo hi : Int} {L : List (List Sp)} {C : List St} (ok : CutOk lo hi L C) {x : Int} {h : Nat} (hh : h < C.length) (hx : ¬ C[h].1.2 < x) : ∀ m (hm : m < C.length), h ≤ m → ¬ C[m].1.2 < x := by
  intro m hm hmh
  rcases Nat.lt_or_ge h m with h1 | h1
  · have a := ok.rise h m hh hm h1
    have b := ok.some' m hm
    omega
  · have : m = h := by omega
    subst this; exact hx
theorem found_of {lo hi : Int} {L : List (List Sp)} {C : List St} (ok : CutOk lo hi L C) {x : Int} {i : Nat} (h1 : ∀ m (hm : m < C.length), m < i → C[m].1.2 < x) (h2 : ∀ m (hm : m < C.length), i ≤ m → ¬ C[m].1.2 < x) (b : Bool) (hb : ∀ h : i < C.length, b = (cmpS C[i] x == 0)) (hn : ¬ i < C.length → b = false) : Found C x i b := by
  unfold Found
  by_cases hi : i < C.length
  · have e := hb hi
    have h3 := h2 i hi (Nat.le_refl _)
    unfold cmpS at e
    rw [if_neg h3] at e
    by_cases h4 : C[i].1.1 > x
    · rw [if_pos h4] at e
      have e' : b = false := e
      refine ⟨(fun h => by rw [e'] at h; cases h), fun _ m hm hc => ?_⟩
      rcases Nat.lt_trichotomy m i with h5 | h5 | h5
      · have := h1 m hm h5; omega
      · subst h5; omega
      · have := ok.rise i m hi hm h5
        have := ok.some' i hi
        omega
    · rw [if_neg h4] at e
      have e' : b = true := e
      exact ⟨fun _ => ⟨hi, by omega, by omega⟩, (fun h => by rw [e'] at h; cases h)⟩
  · have e := hn hi
    exact ⟨(fun h => by rw [e] at h; cases h), fun _ m hm hc => by have := h1 m hm (by omega); omega⟩
set_option maxHeartbeats 16000000 in
theorem bsf_any (v : Value) (C : List St) (x : Int) (base : Nat) (w : World) {lo hi : Int} {L : List (List Sp)} (ok : CutOk lo hi L C) (hv : OwnSt w base v C) (hn : C.length ≤ 1000) :
    Calls Try.prog 27 #[v, .int .i64 x, .func (.func 28) #[] #[]] w fun e w' => ∃ (i : Nat) (b : Bool), e = .returned (.tuple #[.int .i64 (i : Int), .bool b]) ∧ Found C x i b ∧ Below w.heap.size w w' := by
  obtain ⟨ao, co, hve⟩ := OwnN.len hv
  obtain ⟨N, hN⟩ : ∃ N, C.length = N := ⟨_, rfl⟩
  rw [hN] at hve hn
  subst hve
  obtain ⟨Q, hQ⟩ : ∃ Q : Ending → World → Prop, Q = fun e w' => ∃ (i : Nat) (b : Bool), e = .returned (.tuple #[.int .i64 (i : Int), .bool b]) ∧ Found C x i b ∧ Below w.heap.size w w' := ⟨_, rfl⟩
  have HQ : Hid (∀ (i : Nat) (b : Bool) w', Found C x i b → Below w.heap.size w w' → Q (.returned (.tuple #[.int .i64 (i : Int), .bool b])) w') := by rw [hQ]; exact fun i b w' h1 h2 => ⟨i, b, rfl, h1, h2⟩
  rw [← hQ]
  clear hQ
  have HV := hidE hv
  have HN := hidE hN
  have HOK := hidE ok
  clear hv hN ok
  go_enter Try.func27, Try.ntmps27
  go_upto_region 3 with fail
  go_loopw [9, 10, 11] (fun a b _ wr => ∃ i j : Nat, a = .int .i64 (i : Int) ∧ b = .int .i64 (j : Int) ∧ i ≤ j ∧ j ≤ N ∧ Hid (∀ m (hm : m < C.length), m < i → C[m].1.2 < x) ∧ Hid (∀ m (hm : m < C.length), j ≤ m → ¬ C[m].1.2 < x) ∧ Hid (Below w.heap.size w wr)) (fun a b _ _ => (intOf b - intOf a).toNat)
  case atStart => exact ⟨0, N, rfl, rfl, by omega, by omega, fun m hm h => absurd h (Nat.not_lt_zero _), fun m hm h => by have := HN.out; omega, Below.refl _ _⟩
  case round =>
    obtain ⟨i, j, rfl, rfl, hij, hjN, H1, H2, HB⟩ := hrel
    by_cases hlt : i < j
    · have j1 : (i : Int) < (j : Int) := by omega
      obtain ⟨m, hm⟩ : ∃ m : Nat, ((i : Int) + (j : Int)) / 2 = (m : Int) := ⟨(i + j) / 2, by omega⟩
      have him : i ≤ m := by omega
      have hmj : m < j := by omega
      have j2 : (m : Int) < (N : Int) := by omega
      have j3 : (0 : Int) ≤ (m : Int) := by omega
      have hml : m < C.length := by rw [HN.out]; omega
      have hv2 : OwnSt wr base (.slice ao N co) C := OwnN.below HV.out HB.out
      obtain ⟨g, cap, hvv, hg1, hg2, hg3, hg4⟩ := OwnN.shape hv2 (by omega)
      rw [HN.out] at hvv
      simp only [Value.slice.injEq] at hvv
      obtain ⟨rfl, _, rfl⟩ := hvv
      have hco : co ≤ 9223372036854775807 := by unfold maxLen at hg4; omega
      have c0 := OwnN.cell hv2 encSt_len m hml 0 _ rfl
      have c1 := OwnN.cell hv2 encSt_len m hml 1 _ rfl
      have c2 := OwnN.cell hv2 encSt_len m hml 2 _ rfl
      rw [Nat.add_zero] at c0
      have hcm := cmp_any C[m] x wr
      have HLO := hidE (fun h => below_all HOK.out hml (x := x) h)
      have HHI := hidE (fun h => above_all HOK.out hml (x := x) h)
      have hcs : cmpS C[m] x = if C[m].1.2 < x then -1 else if C[m].1.1 > x then 1 else 0 := rfl
      generalize C[m] = s at c0 c1 c2 hcm HLO HHI hcs
      clear hv2 hg1 hg2 hg3 hg4
      go_upto_region 5 with fail
      by_cases hs : s.1.2 < x
      · rw [if_pos hs] at hcs
        rw [hcs] at hcm
        have HL2 := hidE (HLO.out hs)
        clear hs hcs HLO HHI hm
        go_wp2_with (go_at_call 28; go_must (refine hcm.mono ?_; rintro e w2 ⟨rfl, b2⟩))
        go_roundw
        case rel => exact ⟨m + 1, j, by go_num, rfl, by omega, hjN, HL2.out, (fun m' hm' h' => by have := H2.out m' hm' h'; omega), HB.out.trans (b2.mono HB.out.size)⟩
        case measure => simp [intOf]; omega
      · rw [if_neg hs] at hcs
        have hz : ¬ cmpS s x < 0 := by rw [hcs]; split <;> omega
        have HH2 := hidE (HHI.out hs)
        generalize cmpS s x = z at hcm hz
        clear hs hcs HLO HHI hm
        go_wp2_with (go_at_call 28; go_must (refine hcm.mono ?_; rintro e w2 ⟨rfl, b2⟩))
        go_roundw
        case rel => exact ⟨i, m, rfl, rfl, him, by omega, H1.out, (fun m' hm' h' => by have := HH2.out m' hm' h'; omega), HB.out.trans (b2.mono HB.out.size)⟩
        case measure => simp [intOf]; omega
    · have j1 : ¬ (i : Int) < (j : Int) := by omega
      have hij' : i = j := by omega
      subst hij'
      have HFO := hidE (fun b => found_of HOK.out H1.out H2.out b)
      by_cases hin : i < N
      · have j2 : (i : Int) < (N : Int) := by omega
        have j3 : (0 : Int) ≤ (i : Int) := by omega
        have hml : i < C.length := by rw [HN.out]; exact hin
        have hv2 : OwnSt wr base (.slice ao N co) C := OwnN.below HV.out HB.out
        obtain ⟨g, cap, hvv, hg1, hg2, hg3, hg4⟩ := OwnN.shape hv2 (by omega)
        rw [HN.out] at hvv
        simp only [Value.slice.injEq] at hvv
        obtain ⟨rfl, _, rfl⟩ := hvv
        have hco : co ≤ 9223372036854775807 := by unfold maxLen at hg4; omega
        have c0 := OwnN.cell hv2 encSt_len i hml 0 _ rfl
        have c1 := OwnN.cell hv2 encSt_len i hml 1 _ rfl
        have c2 := OwnN.cell hv2 encSt_len i hml 2 _ rfl
        rw [Nat.add_zero] at c0
        have hcm := cmp_any C[i] x wr
        have HF2 := hidE (HFO.out (cmpS C[i] x == 0) (fun _ => rfl) (fun h => absurd hml h))
        generalize C[i] = s at c0 c1 c2 hcm HF2
        generalize cmpS s x = z at hcm HF2
        clear hv2 hg1 hg2 hg3 hg4 HFO H1 H2
        go_wp2_with (go_at_call 28; go_must (refine hcm.mono ?_; rintro e w2 ⟨rfl, b2⟩))
        exact HQ.out _ _ _ HF2.out (HB.out.trans (b2.mono HB.out.size))
      · have j2 : ¬ (i : Int) < (N : Int) := by omega
        have HF2 := hidE (HFO.out false (fun h => by have := HN.out; omega) (fun _ => rfl))
        clear HFO H1 H2
        go_wp2
        exact HQ.out _ _ _ HF2.out HB.out
/-- 'find' of a number: the stretch that has it. -/
def FindR (C : List St) (x : Int) (p q : Int) (f : Nat) (b : Bool) : Prop := (b = true → ∃ i, ∃ h : i < C.length, C[i] = ((p, q), f) ∧ p ≤ x ∧ x ≤ q) ∧ (b = false → ∀ m (h : m < C.length), ¬ (C[m].1.1 ≤ x ∧ x ≤ C[m].1.2))
set_option maxHeartbeats 16000000 in
theorem find_any (v : Value) (C : List St) (x : Int) (base : Nat) (w : World) {lo hi : Int} {L : List (List Sp)} (ok : CutOk lo hi L C) (hv : OwnSt w base v C) (hn : C.length ≤ 1000) :
    Calls Try.prog 14 #[v, .int .i64 x] w fun e w' => ∃ (p q : Int) (f : Nat) (b : Bool), e = .returned (.tuple #[.agg #[.int .i64 p, .int .i64 q, .int .u64 (f : Int)], .bool b]) ∧ FindR C x p q f b ∧ Below w.heap.size w w' := by
  obtain ⟨ao, co, hve⟩ := OwnN.len hv
  obtain ⟨N, hN⟩ : ∃ N, C.length = N := ⟨_, rfl⟩
  rw [hN] at hve
  subst hve
  have b0 : Below w.heap.size w (w.alloc (.cells #[.int .i64 0, .int .i64 0, .int .u64 0] 54)) := (Below.refl _ _).alloc (Nat.le_refl _) _
  have n0 := heap_alloc_new w (.cells #[.int .i64 0, .int .i64 0, .int .u64 0] 54)
  have z0 : (w.alloc (.cells #[.int .i64 0, .int .i64 0, .int .u64 0] 54)).heap.size = w.heap.size + 1 := by simp
  have hbs := bsf_any (.slice ao N co) C x base (w.alloc (.cells #[.int .i64 0, .int .i64 0, .int .u64 0] 54)) ok (OwnN.below hv b0) hn
  obtain ⟨W0, hW0⟩ : ∃ W0, w.alloc (.cells #[.int .i64 0, .int .i64 0, .int .u64 0] 54) = W0 := ⟨_, rfl⟩
  obtain ⟨S, hS⟩ : ∃ S, w.heap.size = S := ⟨_, rfl⟩
  rw [hW0, hS] at b0 n0 z0
  rw [hW0] at hbs
  have HV := hidE (fun W (h : Below S w W) => show OwnSt W base (.slice ao N co) C from OwnN.below hv (by rw [hS]; exact h))
  have HN := hidE hN
  have HW0 := hidE hW0
  have HS := hidE hS
  have HB0 := hidE b0
  have HN0 := hidE n0
  have HZ0 := hidE z0
  clear hv hN hW0 hS b0 n0 z0 ok
  go_enter Try.func14, Try.ntmps14
  go_upto_region 1 with fail
  rw [HW0.out, HS.out]
  go_upto_region 2 with (go_at_call 27; go_must (refine hbs.mono ?_; rintro e w1 ⟨i, b, rfl, hfo, b1⟩))
  have hn1 : w1.heap[S]? = some (.cells #[.int .i64 0, .int .i64 0, .int .u64 0] 54 (0, 0)) := (b1.block S (by have := HZ0.out; omega)).trans HN0.out
  have HB1 := hidE (HB0.out.trans (b1.mono (by have := HZ0.out; omega)))
  have HFO := hidE hfo
  clear hbs b1 hfo HN0 HB0 HW0
  cases b with
  | false =>
    obtain ⟨W9, hW9, q9, o9, b9, z9⟩ := set3 hn1 (.int .i64 0) (.int .i64 0) (.int .u64 0)
    have HW9 := hidE hW9
    have HB9 := hidE (HB1.out.trans b9)
    obtain ⟨⟨w0, w1', w2⟩, _⟩ := row3 q9
    have HQ9 := hidE (And.intro w0 (And.intro w1' w2))
    obtain ⟨⟨g0, g1, g2⟩, v0, v1, v2⟩ := row3 hn1
    clear hW9 q9 o9 b9 z9 w0 w1' w2 hn1
    go_wp2_with fail
    rw [HW9.out]
    obtain ⟨w0, w1', w2⟩ := HQ9.out
    exact bodyPost_ret (v := .tuple #[.agg #[.int .i64 0, .int .i64 0, .int .u64 0], .bool false]) (by simp [results, Try.results14, go_sem, w0, w1', w2]) rfl ⟨0, 0, 0, false, rfl, ⟨(fun h => by cases h), HFO.out.2⟩, by rw [HS.out]; exact HB9.out⟩
  | true =>
    obtain ⟨hil, hx1, hx2⟩ := HFO.out.1 rfl
    have j2 : (i : Int) < (N : Int) := by have := HN.out; omega
    have j3 : (0 : Int) ≤ (i : Int) := by omega
    have hv2 := HV.out w1 HB1.out
    obtain ⟨g, cap, hvv, hg1, hg2, hg3, hg4⟩ := OwnN.shape hv2 (by omega)
    rw [HN.out] at hvv
    simp only [Value.slice.injEq] at hvv
    obtain ⟨rfl, _, rfl⟩ := hvv
    have hco : co ≤ 9223372036854775807 := by unfold maxLen at hg4; omega
    have c0 := OwnN.cell hv2 encSt_len i hil 0 _ rfl
    have c1 := OwnN.cell hv2 encSt_len i hil 1 _ rfl
    have c2 := OwnN.cell hv2 encSt_len i hil 2 _ rfl
    rw [Nat.add_zero] at c0
    have HX := hidE (show ∃ i, ∃ h : i < C.length, C[i] = ((C[i].1.1, C[i].1.2), C[i].2) ∧ C[i].1.1 ≤ x ∧ x ≤ C[i].1.2 from ⟨i, hil, rfl, hx1, hx2⟩)
    have HX2 : Hid (∃ i', ∃ h : i' < C.length, C[i'] = ((C[i].1.1, C[i].1.2), C[i].2) ∧ C[i].1.1 ≤ x ∧ x ≤ C[i].1.2) := ⟨i, hil, rfl, hx1, hx2⟩
    clear HX
    generalize C[i] = s at c0 c1 c2 HX2
    obtain ⟨⟨p, q⟩, f⟩ := s
    simp only at c0 c1 c2 HX2
    obtain ⟨W9, hW9, q9, o9, b9, z9⟩ := set3 hn1 (.int .i64 p) (.int .i64 q) (.int .u64 (f : Int))
    have HW9 := hidE hW9
    have HB9 := hidE (HB1.out.trans b9)
    obtain ⟨⟨w0, w1', w2⟩, _⟩ := row3 q9
    have HQ9 := hidE (And.intro w0 (And.intro w1' w2))
    obtain ⟨⟨g0, g1, g2⟩, v0, v1, v2⟩ := row3 hn1
    clear hW9 q9 o9 b9 z9 w0 w1' w2 hn1 hv2 hg1 hg2 hg3 hg4 hil hx1 hx2
    go_wp2_with fail
    rw [HW9.out]
    obtain ⟨w0, w1', w2⟩ := HQ9.out
    exact bodyPost_ret (v := .tuple #[.agg #[.int .i64 p, .int .i64 q, .int .u64 (f : Int)], .bool true]) (by simp [results, Try.results14, go_sem, w0, w1', w2]) rfl ⟨p, q, f, true, rfl, ⟨fun _ => HX2.out, (fun h => by cases h)⟩, by rw [HS.out]; exact HB9.out⟩
end Go.Proofs.Ytdellfmkmbabhaa

namespace Go.Proofs.Ytdellfmkmbabhaa
open Go.RowKit
set_option linter.unusedVariables false
set_option maxRecDepth 10000

def ptA (k : Ky) (way : Int) : Array Value := #[.int .i64 (ptS k way 0), .int .i64 (ptS k way 1), .int .i64 (ptS k way 2), .int .i64 (ptS k way 3), .int .i64 (ptS k way 4), .int .i64 (ptS k way 5)]
set_option maxHeartbeats 4000000 in
theorem pointOf_any (k : Ky) (way : Int) (w : World) : Calls Try.prog 13 #[keyV k, .int .i64 way] w fun e w' => e = .returned (.agg (ptA k way)) ∧ Below w.heap.size w w' := by
  have hb : Below w.heap.size w ((w.alloc (.cells #[.int .i64 k.kind, .int .i64 k.src, .int .i64 k.frm, .int .i64 k.dst, .int .i64 k.too] 24)).alloc (.cells #[.int .i64 way, .int .i64 k.kind, .int .i64 k.src, .int .i64 k.frm, .int .i64 k.dst, .int .i64 k.too] 50)) := ((Below.refl _ _).alloc (Nat.le_refl _) _).alloc (by simp) _
  unfold keyV ptA
  simp only [ptS]
  go_enter Try.func13, Try.ntmps13
  go_wp2
  exact bodyPost_ret (v := .agg #[.int .i64 way, .int .i64 k.kind, .int .i64 k.src, .int .i64 k.frm, .int .i64 k.dst, .int .i64 k.too]) (by simp [results, Try.results13, go_sem]) rfl ⟨rfl, hb⟩
theorem Try.infoI6 : (Try.prog.info? 3).map (fun i => (i.zero, i.size, i.bytes)) = some (some (.int .i64 0), 1, 8) := by kernel_rfl
theorem pt_idx {k : Ky} {way : Int} {i : Nat} (hi : i < 6) (W : World) : (Instr.index 50 (.agg (ptA k way)) (.int .i64 (i : Int))).run Try.prog W = .ok (.int .i64 (ptS k way i)) W := by
  obtain ⟨i0, hi0, hz0, hz1, hz2⟩ := info_parts Try.infoI6
  unfold ptA
  match i, hi with
  | 0, _ => simp [Instr.index, asIntOf, run_underlying Try.underlying50, run_underlying Try.underlying3, sizeOf, typeInfo, hi0, hz1, part, isAgg]
  | 1, _ => simp [Instr.index, asIntOf, run_underlying Try.underlying50, run_underlying Try.underlying3, sizeOf, typeInfo, hi0, hz1, part, isAgg]
  | 2, _ => simp [Instr.index, asIntOf, run_underlying Try.underlying50, run_underlying Try.underlying3, sizeOf, typeInfo, hi0, hz1, part, isAgg]
  | 3, _ => simp [Instr.index, asIntOf, run_underlying Try.underlying50, run_underlying Try.underlying3, sizeOf, typeInfo, hi0, hz1, part, isAgg]
  | 4, _ => simp [Instr.index, asIntOf, run_underlying Try.underlying50, run_underlying Try.underlying3, sizeOf, typeInfo, hi0, hz1, part, isAgg]
  | 5, _ => simp [Instr.index, asIntOf, run_underlying Try.underlying50, run_underlying Try.underlying3, sizeOf, typeInfo, hi0, hz1, part, isAgg]
/-- The bits of the first sides. -/
def accV (RS : List Rl) (k : Ky) (way : Int) : Nat → Nat
  | 0 => 18446744073709551615
  | i + 1 => accV RS k way i &&& fitV (askL RS i) (ptS k way i)
theorem accV_lt (RS : List Rl) (k : Ky) (way : Int) : ∀ i, accV RS k way i < 2 ^ 64
  | 0 => by show 18446744073709551615 < 2 ^ 64; decide
  | i + 1 => Nat.lt_of_le_of_lt Nat.and_le_left (accV_lt RS k way i)
theorem accV_all (RS : List Rl) (k : Ky) (way : Int) : accV RS k way 6 = allV RS k way 18446744073709551615 := rfl
theorem ones64 {j : Nat} (h : j < 64) : (18446744073709551615 : Nat).testBit j = true := by
  rw [show (18446744073709551615 : Nat) = 2 ^ 64 - 1 from rfl, Nat.testBit_two_pow_sub_one]
  simpa using h
theorem jud_ok {RS : List Rl} {k : Ky} {way : Int} (hr : rusE RS = 0) (hk : keyB k way = true) : judE RS k way = 0 ∧ (decF (accV RS k way 6) 0 RS (zeroR, -1)).1.pass = judP RS k way ∧ (decF (accV RS k way 6) 0 RS (zeroR, -1)).1.keep = judK RS k way ∧ (decF (accV RS k way 6) 0 RS (zeroR, -1)).2 = judN RS k way := by
  have hE : judE RS k way = 0 := by unfold judE keyE; rw [if_pos hr, if_pos hk]
  obtain ⟨h1, h2⟩ := rusE_zero.1 hr
  have hd := decF_judR (v := accV RS k way 6) (by rw [accV_all]; exact allV_bit h2 hk (fun j hj => ones64 (by omega)))
  refine ⟨hE, ?_, ?_, ?_⟩
  · unfold judP; rw [if_pos hE, hd]
  · unfold judK; rw [if_pos hE, hd]
  · unfold judN; rw [if_pos hE, hd]
theorem jud_no {RS : List Rl} {k : Ky} {way : Int} (hr : rusE RS = 0) (hk : keyB k way = false) : judE RS k way = 1 ∧ judP RS k way = false ∧ judK RS k way = false ∧ judN RS k way = 0 := by
  have hE : judE RS k way = 1 := by unfold judE keyE; rw [if_pos hr, hk]; rfl
  have hn : ¬ judE RS k way = 0 := by rw [hE]; decide
  refine ⟨hE, ?_, ?_, ?_⟩
  · unfold judP; rw [if_neg hn]
  · unfold judK; rw [if_neg hn]
  · unfold judN; rw [if_neg hn]
/-- What a find tells of a side that is cut. -/
theorem find_side {i : Nat} {RS : List Rl} {C : List St} {x p q : Int} {f : Nat} {b : Bool} (ok : CutOk (sideLo i) (sideHi i) (askL RS i) C) (h : FindR C x p q f b) : (b = true → f = fitV (askL RS i) x ∧ sideLo i ≤ x ∧ x ≤ sideHi i) ∧ (b = false → ¬ (sideLo i ≤ x ∧ x ≤ sideHi i)) := by
  refine ⟨fun hb => ?_, fun hb hx => ?_⟩
  · obtain ⟨m, hm, e, h1, h2⟩ := h.1 hb
    have e1 := ok.fit m hm x (by rw [e]; exact h1) (by rw [e]; exact h2)
    have e2 := ok.lower m hm
    have e3 := ok.upper m hm
    rw [e] at e1 e2 e3
    simp only at e1 e2 e3
    exact ⟨e1.symm, by omega, by omega⟩
  · obtain ⟨m, hm, h1, h2⟩ := ok.full x hx.1 hx.2
    exact h.2 hb m hm ⟨h1, h2⟩
set_option maxHeartbeats 16000000 in
theorem planJudge_any (w0 W : World) (P : Nat) (RS : List Rl) (dv : Value) (cv : Nat → Value) (Cs : Nat → List St) (k : Ky) (way : Int) (hL : LaySt w0 W P 6 RS dv cv Cs) (hr : rusE RS = 0) :
    Calls Try.prog 6 #[.pointer (some ⟨P, 0, none⟩), keyV k, .int .i64 way] W fun e W' => e = .returned (.tuple #[.bool (judP RS k way), .bool (judK RS k way), .int .i64 (judN RS k way), erV (judE RS k way)]) ∧ Below W.heap.size W W' := by
  obtain ⟨Q, hQ⟩ : ∃ Q : Ending → World → Prop, Q = fun e W' => e = .returned (.tuple #[.bool (judP RS k way), .bool (judK RS k way), .int .i64 (judN RS k way), erV (judE RS k way)]) ∧ Below W.heap.size W W' := ⟨_, rfl⟩
  have HQ : Hid (∀ W', Below W.heap.size W W' → Q (.returned (.tuple #[.bool (judP RS k way), .bool (judK RS k way), .int .i64 (judN RS k way), erV (judE RS k way)])) W') := by rw [hQ]; exact fun W' h => ⟨rfl, h⟩
  rw [← hQ]
  clear hQ
  have b1 : Below W.heap.size W (W.alloc (.cells #[.int .i64 k.kind, .int .i64 k.src, .int .i64 k.frm, .int .i64 k.dst, .int .i64 k.too] 24)) := (Below.refl _ _).alloc (Nat.le_refl _) _
  have k1 := KyAt.new W k
  have hpt := pointOf_any k way (W.alloc (.cells #[.int .i64 k.kind, .int .i64 k.src, .int .i64 k.frm, .int .i64 k.dst, .int .i64 k.too] 24))
  obtain ⟨W1, hW1⟩ : ∃ W1, W.alloc (.cells #[.int .i64 k.kind, .int .i64 k.src, .int .i64 k.frm, .int .i64 k.dst, .int .i64 k.too] 24) = W1 := ⟨_, rfl⟩
  rw [hW1] at b1 k1 hpt
  obtain ⟨c0, c1, c2, c3, c4⟩ := k1.cells
  have HL := hidE (hL.below b1)
  have HB1 := hidE b1
  have HW1 := hidE hW1
  have HR := hidE hr
  have HIX := hidE (fun i (hi : i < 6) W => pt_idx (k := k) (way := way) hi W)
  unfold keyV at hpt ⊢
  generalize hAA : Value.agg (ptA k way) = AA at hpt HIX
  clear hL b1 k1 hW1 hr hAA
  go_enter Try.func6, Try.ntmps6
  go_upto_region 2 with fail
  rw [HW1.out]
  go_upto_region 3 with (go_at_call 13; go_must (refine hpt.mono ?_; rintro e w2 ⟨rfl, b2⟩))
  have HL2 := hidE (HL.out.below b2)
  have HB2 := hidE (HB1.out.trans (b2.mono HB1.out.size))
  clear hpt b2 HL HB1 c0 c1 c2 c3 c4 HW1
  go_loopw [10, 11, 12, 13, 14, 19] (fun f _ _ _ _ i wr => ∃ n : Nat, n ≤ 6 ∧ i = .int .i64 (n : Int) ∧ f = .int .u64 (accV RS k way n : Int) ∧ Hid (LaySt w0 wr P 6 RS dv cv Cs) ∧ Hid (Below W.heap.size W wr) ∧ Hid (∀ s, s < n → sideLo s ≤ ptS k way s ∧ ptS k way s ≤ sideHi s)) (fun _ _ _ _ _ i _ => ((6 : Int) - intOf i).toNat)
  case atStart => exact ⟨0, by omega, rfl, rfl, HL2.out, HB2.out, fun s h => absurd h (Nat.not_lt_zero _)⟩
  case round =>
    clear HL2 HB2
    obtain ⟨n, hn6, rfl, rfl, HL, HB, HK⟩ := hrel
    by_cases hlt : n < 6
    · have j1 : (n : Int) < 6 := by omega
      have j2 : (0 : Int) ≤ (n : Int) := by omega
      have hix := HIX.out n hlt
      obtain ⟨c0, _⟩ := HL.out.at hlt
      obtain ⟨o1, o2, o3⟩ := HL.out.cut n hlt
      have hfi := find_any (cv n) (Cs n) (ptS k way n) (P + 1) wr o2 o1 o3
      obtain ⟨a1, k1, hc1⟩ := OwnN.len o1
      have HSD := hidE (fun p q f b (h : FindR (Cs n) (ptS k way n) p q f b) => find_side o2 h)
      have HKB := hidE (fun (h : ¬ (sideLo n ≤ ptS k way n ∧ ptS k way n ≤ sideHi n)) => show keyB k way = false by
        rcases hb : keyB k way with _ | _
        · rfl
        · exact absurd (keyB_ok.1 hb n hlt) h)
      have HAC := hidE (show accV RS k way (n + 1) = accV RS k way n &&& fitV (askL RS n) (ptS k way n) from rfl)
      have hA64 := accV_lt RS k way n
      have HFL := hidE (show fitV (askL RS n) (ptS k way n) < 2 ^ 64 from Nat.lt_of_lt_of_le (fitV_lt _ _) (Nat.pow_le_pow_right (by omega) (by
        unfold askL; rw [List.length_map]; have := (rusE_zero.1 HR.out).1; omega)))
      rw [hc1] at c0 hfi
      generalize (Cs n).length = m1 at c0 hfi
      obtain ⟨x, hxp⟩ : ∃ x, ptS k way n = x := ⟨_, rfl⟩
      have HXP := hidE hxp
      rw [hxp] at hix hfi HSD HKB HAC HFL
      clear hxp
      generalize accV RS k way n = A at HAC hA64 ⊢
      clear o1 o2 o3 hc1 HIX
      go_upto_region 6 with (go_at_call 14; go_must (refine hfi.mono ?_; rintro e w3 ⟨p, q, f, b, rfl, hfr, b3⟩))
      have HL3 := hidE (HL.out.below b3)
      have HB3 := hidE (HB.out.trans (b3.mono HB.out.size))
      have HFR := hidE (HSD.out p q f b hfr)
      have b4 : Below w3.heap.size w3 (w3.alloc (.cells #[.int .i64 p, .int .i64 q, .int .u64 (f : Int)] 54)) := (Below.refl _ _).alloc (Nat.le_refl _) _
      have n4 := heap_alloc_new w3 (.cells #[.int .i64 p, .int .i64 q, .int .u64 (f : Int)] 54)
      have HL4 := hidE (HL3.out.below b4)
      have HB4 := hidE (HB3.out.trans (b4.mono HB3.out.size))
      obtain ⟨X, hX⟩ : ∃ X, w3.heap.size = X := ⟨_, rfl⟩
      obtain ⟨W4, hW4⟩ : ∃ W4, w3.alloc (.cells #[.int .i64 p, .int .i64 q, .int .u64 (f : Int)] 54) = W4 := ⟨_, rfl⟩
      rw [hW4] at n4 HL4 HB4 ⊢
      rw [hX] at n4 ⊢
      obtain ⟨⟨d0, d1, d2⟩, _⟩ := row3 n4
      clear hfi hfr b3 b4 n4 hX hW4 HL3 HB3 HSD HL HB c0
      cases b with
      | false =>
        obtain ⟨e1, e2, e3, e4⟩ := jud_no HR.out (HKB.out (HFR.out.2 rfl))
        have HQ2 := hidE (HQ.out W4 HB4.out)
        rw [e1, e2, e3, e4, show erV 1 = .iface 62 (.int .i64 1) from rfl] at HQ2
        clear e1 e2 e3 e4 HQ HL4 HB4 HFR HKB HAC HFL HK
        go_wp2_with fail
        refine bodyPost_ret (results_tmp4 Try.results6 _ _ _) rfl ?_
        exact HQ2.out
      | true =>
        obtain ⟨e1, e2, e3⟩ := HFR.out.1 rfl
        have hf64 : f < 2 ^ 64 := by rw [e1]; exact HFL.out
        rw [← e1] at HAC
        have HAN := hidE (and64 hA64 hf64)
        have HK2 := hidE (show ∀ s, s < n + 1 → sideLo s ≤ ptS k way s ∧ ptS k way s ≤ sideHi s from fun s hs => by
          rcases Nat.lt_or_ge s n with h | h
          · exact HK.out s h
          · have : s = n := by omega
            subst this; rw [HXP.out]; exact ⟨e2, e3⟩)
        clear e1 e2 e3 HFR HKB HFL HK hA64 hf64
        go_wp2_with fail
        go_roundw
        case rel => exact ⟨n + 1, by omega, by go_num, by rw [HAN.out, HAC.out], HL4.out, HB4.out, HK2.out⟩
        case measure => simp [intOf]; omega
    · have j1 : ¬ (n : Int) < 6 := by omega
      have e6 : n = 6 := by omega
      subst e6
      have hkb : keyB k way = true := keyB_ok.2 (fun s hs => HK.out s hs)
      obtain ⟨e1, e2, e3, e4⟩ := jud_ok HR.out hkb
      have hz := rusE_zero.1 HR.out
      have hde := decide_any dv RS (accV RS k way 6) (P + 1) wr HL.out.own hz.1 (accV_lt RS k way 6)
      rw [e2, e3, e4] at hde
      have c0 : wr.cell? ⟨P, 0, none⟩ = some dv := by rw [cell_of_row _ _ _ _ _ _ HL.out.box]; rfl
      obtain ⟨ad, cd, hdv⟩ := OwnN.len HL.out.own
      have HB' := HB
      rw [e1, show erV 0 = .nilIface from rfl] at HQ
      generalize RS.length = nd at hdv
      subst hdv
      generalize (decF (accV RS k way 6) 0 RS (zeroR, -1)).1.quick = qk at hde
      generalize judP RS k way = jp at hde HQ
      generalize judK RS k way = jk at hde HQ
      generalize judN RS k way = jn at hde HQ
      generalize accV RS k way 6 = A at hde ⊢
      clear hkb e1 e2 e3 e4 hz HL HK HIX HB' HR
      go_upto_region 11 with (go_at_call 15; go_must (refine hde.mono ?_; rintro e w5 ⟨rfl, b5⟩))
      have b6 : Below w5.heap.size w5 (w5.alloc (.cells #[.bool jp, .bool qk, .bool jk] 64)) := (Below.refl _ _).alloc (Nat.le_refl _) _
      have n6 := heap_alloc_new w5 (.cells #[.bool jp, .bool qk, .bool jk] 64)
      have B5 := HB.out.trans (b5.mono HB.out.size)
      have HB6 := hidE (B5.trans (b6.mono B5.size))
      obtain ⟨X, hX⟩ : ∃ X, w5.heap.size = X := ⟨_, rfl⟩
      obtain ⟨W6, hW6⟩ : ∃ W6, w5.alloc (.cells #[.bool jp, .bool qk, .bool jk] 64) = W6 := ⟨_, rfl⟩
      rw [hW6] at n6 HB6 ⊢
      rw [hX] at n6 ⊢
      obtain ⟨⟨d0, d1, d2⟩, _⟩ := row3 n6
      have HQ2 := hidE (fun W' h => HQ.out W' h)
      clear hde b5 b6 n6 B5 hX hW6 HB c0 HQ
      go_quiet (fail)
      go_wp2
      refine bodyPost_ret (results_tmp4 Try.results6 _ _ _) rfl ?_
      exact HQ2.out _ (below_drewN HB6.out _)
end Go.Proofs.Ytdellfmkmbabhaa
