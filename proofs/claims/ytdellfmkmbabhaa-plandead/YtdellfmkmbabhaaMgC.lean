/- Lists without their dead rules (package plan), the plain facts. -/
import Derived.Test.YtdellfmkmbabhaaMgB
import Derived.Test.YtdellfmkmbabhaaPlanLay3
import Derived.Test.YtdellfmkmbabhaaOwnI
import Derived.Test.YtdellfmkmbabhaaSpnAt
import Derived.Deep.DeepMust
import Derived.Test.YtdellfmkmbabhaaRlOwn
import Derived.Deep.RegionHeld3
import Derived.Deep.DeepCutAuto
namespace Go.Proofs.Ytdellfmkmbabhaa
set_option linter.unusedVariables false

/-- The index of the rule that counts. -/
def lstI (k : Ky) (way : Int) : List Rl → Option Nat
  | [] => none
  | r :: l => if fitsB r k way = true then (if r.quick = true then some 0 else some (match lstI k way l with | none => 0 | some i => i + 1)) else (lstI k way l).map (· + 1)
theorem lstI_trace (k : Ky) (way : Int) : ∀ (l : List Rl) (n : Nat), (traceL k way n l).getLast? = (lstI k way l).map fun i => ((n + i : Nat) : Int)
  | [], n => rfl
  | r :: l, n => by
      have ih := lstI_trace k way l (n + 1)
      rw [lstI, traceL]
      by_cases hf : fitsB r k way = true
      · rw [if_pos hf, if_pos hf]
        by_cases hq : r.quick = true
        · rw [if_pos hq, if_pos hq]; rfl
        · rw [if_neg hq, if_neg hq, List.getLast?_cons, ih]
          rcases lstI k way l with _ | i
          · rfl
          · simp; omega
      · rw [if_neg hf, if_neg hf, ih]
        rcases lstI k way l with _ | i
        · rfl
        · simp; omega
theorem lstI_lt (k : Ky) (way : Int) : ∀ (l : List Rl) (i : Nat), lstI k way l = some i → i < l.length
  | [], i, h => by cases h
  | r :: l, i, h => by
      rw [lstI] at h
      have ih := lstI_lt k way l
      by_cases hf : fitsB r k way = true
      · rw [if_pos hf] at h
        by_cases hq : r.quick = true
        · rw [if_pos hq] at h; simp at h; subst h; simp
        · rw [if_neg hq] at h
          rcases hl : lstI k way l with _ | j
          · rw [hl] at h; simp at h; subst h; simp
          · rw [hl] at h; simp at h; subst h; have := ih j hl; simp; omega
      · rw [if_neg hf] at h
        rcases hl : lstI k way l with _ | j
        · rw [hl] at h; cases h
        · rw [hl] at h; simp at h; subst h; have := ih j hl; simp; omega
/-- The rules whose numbers are not told. -/
def trimL (ds : List Int) : Nat → List Rl → List Rl
  | _, [] => []
  | n, r :: l => if (n : Int) ∈ ds then trimL ds (n + 1) l else r :: trimL ds (n + 1) l
def posL (ds : List Int) : Nat → Nat → Nat
  | _, 0 => 0
  | n, i + 1 => (if (n : Int) ∈ ds then 0 else 1) + posL ds (n + 1) i
theorem trimL_append (ds : List Int) : ∀ (a b : List Rl) (n : Nat), trimL ds n (a ++ b) = trimL ds n a ++ trimL ds (n + a.length) b
  | [], b, n => rfl
  | r :: a, b, n => by
      have ih := trimL_append ds a b (n + 1)
      rw [List.cons_append, trimL, trimL, ih, show n + 1 + a.length = n + (r :: a).length by simp; omega]
      by_cases h : (n : Int) ∈ ds
      · rw [if_pos h, if_pos h]
      · rw [if_neg h, if_neg h]; rfl
theorem trimL_sub (ds : List Int) : ∀ (l : List Rl) (n : Nat), (trimL ds n l).Sublist l
  | [], n => List.Sublist.refl _
  | r :: l, n => by
      rw [trimL]
      by_cases h : (n : Int) ∈ ds
      · rw [if_pos h]; exact (trimL_sub ds l (n + 1)).cons _
      · rw [if_neg h]; exact (trimL_sub ds l (n + 1)).cons_cons _
theorem trimL_none (ds : List Int) (k : Ky) (way : Int) : ∀ (l : List Rl) (n : Nat), lstI k way l = none → lstI k way (trimL ds n l) = none
  | [], n, h => rfl
  | r :: l, n, h => by
      rw [lstI] at h
      by_cases hf : fitsB r k way = true
      · rw [if_pos hf] at h
        by_cases hq : r.quick = true
        · rw [if_pos hq] at h; cases h
        · rw [if_neg hq] at h; cases h
      · rw [if_neg hf] at h
        have hl : lstI k way l = none := by simpa using h
        have ih := trimL_none ds k way l (n + 1) hl
        rw [trimL]
        by_cases hd : (n : Int) ∈ ds
        · rw [if_pos hd]; exact ih
        · rw [if_neg hd, lstI, if_neg hf, ih]; rfl
theorem trimL_some (ds : List Int) (k : Ky) (way : Int) : ∀ (l : List Rl) (n i : Nat), lstI k way l = some i → ((n + i : Nat) : Int) ∉ ds → lstI k way (trimL ds n l) = some (posL ds n i)
  | [], n, i, h, _ => by cases h
  | r :: l, n, i, h, hn => by
      rw [lstI] at h
      rw [trimL]
      by_cases hf : fitsB r k way = true
      · rw [if_pos hf] at h
        by_cases hq : r.quick = true
        · rw [if_pos hq] at h
          simp at h; subst h
          rw [if_neg (show ¬ (n : Int) ∈ ds from hn), lstI, if_pos hf, if_pos hq]; rfl
        · rw [if_neg hq] at h
          rcases hl : lstI k way l with _ | j
          · rw [hl] at h; simp at h; subst h
            rw [if_neg (show ¬ (n : Int) ∈ ds from hn), lstI, if_pos hf, if_neg hq, trimL_none ds k way l (n + 1) hl]; rfl
          · rw [hl] at h; simp at h; subst h
            have ih := trimL_some ds k way l (n + 1) j hl (by rw [show n + 1 + j = n + (j + 1) by omega]; exact hn)
            rw [posL]
            by_cases hd : (n : Int) ∈ ds
            · rw [if_pos hd, if_pos hd, ih, Nat.zero_add]
            · rw [if_neg hd, if_neg hd, lstI, if_pos hf, if_neg hq, ih]; simp; omega
      · rw [if_neg hf] at h
        rcases hl : lstI k way l with _ | j
        · rw [hl] at h; cases h
        · rw [hl] at h; simp at h; subst h
          have ih := trimL_some ds k way l (n + 1) j hl (by rw [show n + 1 + j = n + (j + 1) by omega]; exact hn)
          rw [posL]
          by_cases hd : (n : Int) ∈ ds
          · rw [if_pos hd, if_pos hd, ih, Nat.zero_add]
          · rw [if_neg hd, if_neg hd, lstI, if_neg hf, ih]; simp; omega
theorem trimL_at (ds : List Int) : ∀ (l : List Rl) (n i : Nat), i < l.length → ((n + i : Nat) : Int) ∉ ds → (trimL ds n l)[posL ds n i]? = l[i]?
  | [], n, i, h, _ => by simp at h
  | r :: l, n, 0, h, hn => by rw [trimL, if_neg (show ¬ (n : Int) ∈ ds from hn)]; rfl
  | r :: l, n, i + 1, h, hn => by
      have ih := trimL_at ds l (n + 1) i (by simpa using h) (by rw [show n + 1 + i = n + (i + 1) by omega]; exact hn)
      rw [trimL, posL]
      by_cases hd : (n : Int) ∈ ds
      · rw [if_pos hd, if_pos hd, Nat.zero_add, ih]; rfl
      · rw [if_neg hd, if_neg hd, Nat.add_comm 1, List.getElem?_cons_succ, ih]; rfl
theorem trimL_from (ds : List Int) : ∀ (l : List Rl) (n j : Nat), j < (trimL ds n l).length → ∃ i, i < l.length ∧ ((n + i : Nat) : Int) ∉ ds ∧ posL ds n i = j
  | [], n, j, h => by simp [trimL] at h
  | r :: l, n, j, h => by
      rw [trimL] at h
      by_cases hd : (n : Int) ∈ ds
      · rw [if_pos hd] at h
        obtain ⟨i, h1, h2, h3⟩ := trimL_from ds l (n + 1) j h
        exact ⟨i + 1, by simpa using h1, by rw [show n + (i + 1) = n + 1 + i by omega]; exact h2, by rw [posL, if_pos hd, Nat.zero_add]; exact h3⟩
      · rw [if_neg hd] at h
        match j, h with
        | 0, _ => exact ⟨0, by simp, hd, rfl⟩
        | j + 1, h =>
          obtain ⟨i, h1, h2, h3⟩ := trimL_from ds l (n + 1) j (by simpa using h)
          exact ⟨i + 1, by simpa using h1, by rw [show n + (i + 1) = n + 1 + i by omega]; exact h2, by rw [posL, if_neg hd]; omega⟩
theorem judN_lst {RS : List Rl} {k : Ky} {way : Int} (hr : rusE RS = 0) (hk : keyB k way = true) : judN RS k way = match lstI k way RS with | none => -1 | some i => (i : Int) := by
  have hE := (jud_ok hr hk).1
  unfold judN lastN
  rw [if_pos hE, lstI_trace]
  rcases lstI k way RS with _ | i
  · rfl
  · simp
theorem judR_lst {RS : List Rl} {k : Ky} {way : Int} (hr : rusE RS = 0) (hk : keyB k way = true) : judR RS (lastN (traceL k way 0 RS)) = match lstI k way RS with | none => zeroR | some i => (RS[i]?).getD zeroR := by
  unfold lastN judR
  rw [lstI_trace]
  rcases lstI k way RS with _ | i
  · rfl
  · have : ¬ ((i : Int) < 0) := by omega
    simp [this]
theorem rusE_sub {a b : List Rl} (h : a.Sublist b) (hb : rusE b = 0) : rusE a = 0 := by
  obtain ⟨h1, h2⟩ := rusE_zero.1 hb
  exact rusE_zero.2 ⟨Nat.le_trans h.length_le h1, fun r hr => h2 r (h.subset hr)⟩
/-- A trimmed list judges as the whole one. -/
theorem trim_alike {RS : List Rl} {ds : List Int} {k : Ky} {way : Int} (hr : rusE RS = 0) (hd : DeadIs RS ds) : judE (trimL ds 0 RS) k way = judE RS k way ∧ judP (trimL ds 0 RS) k way = judP RS k way ∧ judK (trimL ds 0 RS) k way = judK RS k way := by
  have ht := rusE_sub (trimL_sub ds RS 0) hr
  rcases hk : keyB k way with _ | _
  · obtain ⟨a1, a2, a3, _⟩ := jud_no hr hk
    obtain ⟨b1, b2, b3, _⟩ := jud_no ht hk
    exact ⟨b1.trans a1.symm, b2.trans a2.symm, b3.trans a3.symm⟩
  · have e1 := (jud_ok hr hk).1
    have e2 := (jud_ok ht hk).1
    have hR : judR (trimL ds 0 RS) (lastN (traceL k way 0 (trimL ds 0 RS))) = judR RS (lastN (traceL k way 0 RS)) := by
      rw [judR_lst ht hk, judR_lst hr hk]
      rcases hl : lstI k way RS with _ | i
      · rw [trimL_none ds k way RS 0 hl]
      · have hi := lstI_lt k way RS i hl
        obtain ⟨js, rfl, hj⟩ := hd
        have hlv : i ∈ js := (hj i hi).2 ⟨k, way, hk, by rw [judN_lst hr hk, hl]⟩
        have hni : ((0 + i : Nat) : Int) ∉ deadL RS.length js := by
          rw [Nat.zero_add, deadL_mem hi]; exact fun h => h hlv
        rw [trimL_some _ k way RS 0 i hl hni]
        simp only
        rw [trimL_at _ RS 0 i hi hni]
    refine ⟨e2.trans e1.symm, ?_, ?_⟩
    · unfold judP; rw [if_pos e1, if_pos e2, hR]
    · unfold judK; rw [if_pos e1, if_pos e2, hR]
/-- None of a trimmed list is dead. -/
theorem trim_none {RS : List Rl} {ds ds' : List Int} (hr : rusE RS = 0) (hd : DeadIs RS ds) (hd' : DeadIs (trimL ds 0 RS) ds') : ds' = [] := by
  have ht := rusE_sub (trimL_sub ds RS 0) hr
  obtain ⟨js, hdd, hj⟩ := hd
  obtain ⟨js', rfl, hj'⟩ := hd'
  have hm : ∀ i, i < RS.length → (((0 + i : Nat) : Int) ∉ ds ↔ i ∈ js) := fun i hi => by rw [Nat.zero_add, hdd, deadL_mem hi, Decidable.not_not]
  clear hdd
  unfold deadL
  rw [List.map_eq_nil_iff, List.filter_eq_nil_iff]
  intro j hjm
  have hjl : j < (trimL ds 0 RS).length := by simpa using hjm
  obtain ⟨i, hi, hni, hp⟩ := trimL_from _ RS 0 j hjl
  obtain ⟨k, way, hk, hn⟩ := (hj i hi).1 ((hm i hi).1 hni)
  have hl : lstI k way RS = some i := by
    rw [judN_lst hr hk] at hn
    rcases h : lstI k way RS with _ | i'
    · rw [h] at hn; simp only at hn; omega
    · rw [h] at hn; simp only at hn; congr 1; omega
  have h2 := trimL_some ds k way RS 0 i hl hni
  have : j ∈ js' := (hj' j hjl).2 ⟨k, way, hk, by rw [judN_lst ht hk, h2, hp]⟩
  simpa using this
end Go.Proofs.Ytdellfmkmbabhaa

namespace Go.Proofs.Ytdellfmkmbabhaa
open Go.RowKit
set_option linter.unusedVariables false

theorem index_int (v : Value) (zs : List Int) (z : Int) (base : Nat) (w : World) (hv : OwnI w base v zs) (hn : zs.length ≤ 1000) :
    Calls Try.prog 42 #[v, .int .i64 z] w fun e w' => ∃ r : Int, e = .returned (.int .i64 r) ∧ Hid (0 ≤ r ↔ z ∈ zs) ∧ w' = w := by
  obtain ⟨ao, co, hve⟩ := hv.form
  obtain ⟨N, hN⟩ : ∃ N, zs.length = N := ⟨_, rfl⟩
  rw [hN] at hve hn
  subst hve
  have HV := hidE hv
  have HN := hidE hN
  obtain ⟨Q, hQ⟩ : ∃ Q : Ending → World → Prop, Q = fun e w' => ∃ r : Int, e = .returned (.int .i64 r) ∧ Hid (0 ≤ r ↔ z ∈ zs) ∧ w' = w := ⟨_, rfl⟩
  have HQ : Hid (∀ r : Int, (0 ≤ r ↔ z ∈ zs) → Q (.returned (.int .i64 r)) w) := by rw [hQ]; exact fun r h => ⟨r, rfl, h, rfl⟩
  rw [← hQ]
  clear hQ hv hN
  go_enter Try.func42, Try.ntmps42
  go_wp2_with fail
  go_loopw [5, 8] (fun _ i wr => ∃ k : Nat, k ≤ N ∧ i = .int .i64 (k : Int) ∧ wr = w ∧ Hid (∀ i (h : i < zs.length), i < k → z ≠ zs[i])) (fun _ i _ => ((N : Int) - intOf i).toNat)
  case atStart => exact ⟨0, by omega, rfl, rfl, fun i h h2 => absurd h2 (Nat.not_lt_zero _)⟩
  case round =>
    obtain ⟨k, hk, rfl, rfl, HNO⟩ := hrel
    by_cases hkn : k < N
    · have j1 : (k : Int) < (N : Int) := by omega
      have j2 : (0 : Int) ≤ (k : Int) := by omega
      have hkl : k < zs.length := by rw [HN.out]; exact hkn
      obtain ⟨g, cap, hvv, hg1, hg2, hg3, hg4⟩ := HV.out.shape (by omega)
      rw [HN.out] at hvv
      simp only [Value.slice.injEq] at hvv
      obtain ⟨rfl, _, rfl⟩ := hvv
      have hco : co ≤ 9223372036854775807 := by unfold maxLen at hg4; omega
      have c0 := HV.out.cell HN.out.symm k hkl
      by_cases hz : z = zs[k]
      · have HF := hidE (HQ.out (k : Int) ⟨fun _ => by rw [hz]; exact List.getElem_mem hkl, fun _ => by omega⟩)
        rw [← hz] at c0
        clear hz
        go_wp2_with fail
        exact HF.out
      · have HN2 := hidE (show ∀ i (h : i < zs.length), i < k + 1 → z ≠ zs[i] from fun i h hi => by
          rcases Nat.lt_or_ge i k with h1 | h1
          · exact HNO.out i h h1
          · have : i = k := by omega
            subst this; exact hz)
        obtain ⟨y, hy⟩ : ∃ y, zs[k] = y := ⟨_, rfl⟩
        rw [hy] at c0 hz
        go_wp2_with fail
        go_roundw
        case rel => exact ⟨k + 1, by omega, by go_num, (by first | rfl | trivial), HN2.out⟩
        case measure => simp [intOf]; omega
    · have j1 : ¬ (k : Int) < (N : Int) := by omega
      have HF := hidE (HQ.out (-1) ⟨fun h => absurd h (by decide), fun h => by
        obtain ⟨i, hi, e⟩ := List.getElem_of_mem h
        exact absurd e.symm (HNO.out i hi (by have := HN.out; omega))⟩)
      go_wp2_with fail
      exact HF.out
theorem contains_int (v : Value) (zs : List Int) (z : Int) (base : Nat) (w : World) (hv : OwnI w base v zs) (hn : zs.length ≤ 1000) :
    Calls Try.prog 22 #[v, .int .i64 z] w fun e w' => e = .returned (.bool (decide (z ∈ zs))) ∧ w' = w := by
  have hi := index_int v zs z base w hv hn
  obtain ⟨ao, co, hve⟩ := hv.form
  generalize zs.length = N at hve
  subst hve
  obtain ⟨Q, hQ⟩ : ∃ Q : Ending → World → Prop, Q = fun e w' => e = .returned (.bool (decide (z ∈ zs))) ∧ w' = w := ⟨_, rfl⟩
  have HQ : Hid (Q (.returned (.bool (decide (z ∈ zs)))) w) := by rw [hQ]; exact ⟨rfl, rfl⟩
  rw [← hQ]
  clear hQ hv hn
  go_enter Try.func22, Try.ntmps22
  go_wp2_with (go_at_call 42; go_must (refine hi.mono ?_; rintro e w1 ⟨r, rfl, HR, rfl⟩))
  have e : decide (z ∈ zs) = decide (0 ≤ r) := by simp only [HR.out]
  have h := HQ.out
  rw [e] at h
  exact h
set_option maxRecDepth 10000 in
theorem clone_any (v : Value) (l : List Sp) (w : World) (hv : Spns w v l) (hl : l.length ≤ 1000) :
    Calls Try.prog 23 #[v] w fun e w' => ∃ a m c, e = .returned (.slice a m c) ∧ Hid (OwnSp w' w.heap.size (.slice a m c) l) ∧ Below w.heap.size w w' := by
  obtain ⟨a, c, hve⟩ := hv.len
  obtain ⟨Q, hQ⟩ : ∃ Q : Ending → World → Prop, Q = fun e w' => ∃ a m c, e = .returned (.slice a m c) ∧ Hid (OwnSp w' w.heap.size (.slice a m c) l) ∧ Below w.heap.size w w' := ⟨_, rfl⟩
  have HQ : Hid (∀ v' w', OwnSp w' w.heap.size v' l → Below w.heap.size w w' → Q (.returned v') w') := by
    rw [hQ]
    intro v' w' h1 h2
    obtain ⟨a, c, rfl⟩ := h1.len
    exact ⟨a, _, c, rfl, h1, h2⟩
  rw [← hQ]
  clear hQ
  rcases a with _ | a
  · have h0 : l = [] := by
      rcases hv with ⟨h, _⟩ | ⟨b, off, len, cap, h1, _⟩
      · exact h
      · rw [h1] at hve; simp at hve
    subst h0
    subst hve
    have heq : ∀ w : World, (binOp .eql 32 (.slice none 0 c) (.slice none 0 0)).run Try.prog w = .ok (.bool true) w := fun _ => by kernel_rfl
    have HF := hidE (HQ.out (.slice none 0 0) w (OwnSp.nil _ _) (Below.refl _ _))
    clear hv hl
    go_enter Try.func23, Try.ntmps23
    go_wp2_with fail
    exact HF.out
  · have b1 : Below w.heap.size w (w.alloc (.cells #[] 52)) := (Below.refl _ _).alloc (Nat.le_refl _) _
    have n1 := heap_alloc_new w (.cells #[] 52)
    have own1 : OwnSp (w.alloc (.cells #[] 52)) w.heap.size (.slice (some ⟨w.heap.size, 0, none⟩) 0 0) [] :=
      ⟨rfl, .inr ⟨w.heap.size, 0, #[], rfl, Nat.le_refl _, n1, Nat.le_refl _, by unfold maxLen; omega, rfl, rfl⟩⟩
    have hv1 := hv.below b1
    have HB1 := hidE b1
    have HO1 := hidE own1
    have hz1 : w.heap.size ≤ (w.alloc (.cells #[] 52)).heap.size := b1.size
    obtain ⟨N, hN⟩ : ∃ N, l.length = N := ⟨_, rfl⟩
    rw [hN] at hve hl
    subst hve
    have HV1 := hidE hv1
    have HN := hidE hN
    have heq : ∀ w : World, (binOp .eql 32 (.slice (some a) N c) (.slice none 0 0)).run Try.prog w = .ok (.bool false) w := fun _ => by kernel_rfl
    clear hv b1 n1 own1 hv1 hN
    go_enter Try.func23, Try.ntmps23
    go_wp2_with (at_builtin; refine wpList_append_spns rfl (.tmp 5) (.tmp 6) rfl w.heap.size _ [] rfl HO1.out (.slice (some a) N c) l rfl HV1.out (by have := HN.out; simp; omega) hz1 ?_; intro v2 w2 own2 grow2 lie2)
    have b2 := HB1.out.trans (grown_below grow2 hz1 (fun k hk => (HO1.out.block k hk).1))
    rw [List.nil_append] at own2
    exact HQ.out _ _ own2 b2
end Go.Proofs.Ytdellfmkmbabhaa

namespace Go.Proofs.Ytdellfmkmbabhaa
open Go.RowKit Go.Maps
set_option linter.unusedVariables false
set_option maxRecDepth 10000

theorem sp_off_rl {W : World} {b b' k : Nat} {v u : Value} {ps : List Sp} {rs : List Rx} (h1 : OwnSp W b v ps) (h2 : OwnRl W b' u rs) (hk : v.ownBlock = some k) : u.ownBlock ≠ some k := by
  intro hu
  obtain ⟨_, h1⟩ := h1
  obtain ⟨_, h2⟩ := h2
  rcases h1 with ⟨rfl, _⟩ | ⟨g, cap, cur, rfl, _, hh, _⟩
  · cases hk
  · rcases h2 with ⟨rfl, _⟩ | ⟨g', cap', cur', rfl, _, hh', _⟩
    · cases hu
    · simp only [Value.ownBlock, Option.some.injEq] at hk hu
      subst hk hu
      rw [hh] at hh'
      simp at hh'
/-- The ports of rules, in rows of their own. -/
def PtsS (W : World) (xs : List Rx) : Prop := ∀ x ∈ xs, OwnSp W 0 x.2.1 x.1.fr ∧ OwnSp W 0 x.2.2 x.1.tl ∧ x.1.fr.length ≤ 200 ∧ x.1.tl.length ≤ 200
theorem PtsS.pts {W : World} {xs : List Rx} (h : PtsS W xs) : Pts W xs := fun x hx => ⟨(h x hx).1.spns, (h x hx).2.1.spns, by have := (h x hx).2.2.1; omega, by have := (h x hx).2.2.2; omega⟩
theorem PtsS.below {W W' : World} {xs : List Rx} (h : PtsS W xs) (hb : Below W.heap.size W W') : PtsS W' xs := fun x hx => ⟨(h x hx).1.below hb, (h x hx).2.1.below hb, (h x hx).2.2⟩
theorem PtsS.grown {W W' : World} {b : Nat} {v : Value} {xs ys : List Rx} (h : PtsS W xs) (ho : OwnRl W b v ys) (hg : W.grownBy W' v.ownBlock) : PtsS W' xs := fun x hx =>
  ⟨(h x hx).1.blk (fun k hk => hg.block k ((h x hx).1.block k hk).2 (fun e => sp_off_rl (h x hx).1 ho hk e.symm)), (h x hx).2.1.blk (fun k hk => hg.block k ((h x hx).2.1.block k hk).2 (fun e => sp_off_rl (h x hx).2.1 ho hk e.symm)), (h x hx).2.2⟩
/-- Where Trim stands. -/
structure TrSt (w1 W : World) (v : Value) (xs : List Rx) : Prop where
  own : OwnRl W w1.heap.size v xs
  pts : PtsS W xs
  bel : Below w1.heap.size w1 W
theorem TrSt.below {w1 W W' : World} {v : Value} {xs : List Rx} (h : TrSt w1 W v xs) (hb : Below W.heap.size W W') : TrSt w1 W' v xs := ⟨h.own.below hb, h.pts.below hb, h.bel.trans (hb.mono h.bel.size)⟩
/-- Behind the copies of the ports. -/
structure CpSt (W0 W : World) (X : Nat) (r : Rl) (fv tv : Value) : Prop where
  rl : RlAt W X r fv tv
  pf : OwnSp W 0 fv r.fr
  pt : OwnSp W 0 tv r.tl
  bel : Below X W0 W
theorem CpSt.of {W3 w4 w5 : World} {X : Nat} {r : Rl} {fv tv fv' tv' : Value} (h3 : RlAt W3 X r fv tv) (b4 : Below W3.heap.size W3 w4) (o4 : OwnSp w4 W3.heap.size fv' r.fr) (b5 : Below w4.heap.size w4 w5) (o5 : OwnSp w5 w4.heap.size tv' r.tl) : CpSt W3 ((w5.setCell ⟨X, 9, none⟩ fv').setCell ⟨X, 10, none⟩ tv') X r fv' tv' := by
  have hX := h3.lt
  have h5 : RlAt w5 X r fv tv := (h3.below hX b4).below (Nat.lt_of_lt_of_le hX b4.size) b5
  have ot : ∀ k, k ≠ X → ((w5.setCell ⟨X, 9, none⟩ fv').setCell ⟨X, 10, none⟩ tv').heap[k]? = w5.heap[k]? := fun k hk => (heap_setCell_other _ ⟨X, 10, none⟩ k _ hk).trans (heap_setCell_other _ ⟨X, 9, none⟩ k _ hk)
  have o4' := o4.below b5
  refine ⟨heap_setCell_same _ X 10 _ _ tv' (heap_setCell_same _ X 9 _ _ fv' h5), (o4'.blk fun k hk => ot k (by have := (o4.block k hk).1; omega)).base (Nat.zero_le _), (o5.blk fun k hk => ot k (by have := (o5.block k hk).1; have := b4.size; omega)).base (Nat.zero_le _), ?_⟩
  exact ((((b4.trans (b5.mono b4.size)).mono (Nat.le_of_lt hX)).setCell (p := ⟨X, 9, none⟩) (Nat.le_refl _) _).setCell (p := ⟨X, 10, none⟩) (Nat.le_refl _) _)
theorem RlAt.freeT {w : World} {b : Nat} {r : Rl} {fv tv : Value} (h : RlAt w b r fv tv) (j : Nat) : w.frozen? ⟨b, j, none⟩ = false := frozen_of_row w b j _ _ h
set_option maxHeartbeats 16000000 in
theorem trim_any (v : Value) (rs : List Rx) (w : World) (hv : Rls w v rs) (RS : List Rl) (hRS : rs.map Prod.fst = RS) (hu : upE RS = 0) :
    Calls Try.prog 11 #[v] w fun e w' => ∃ ta m tc xs ds, e = .returned (.tuple #[.slice ta m tc, .nilIface]) ∧ Hid (Rls w' (.slice ta m tc) xs ∧ xs.length = m ∧ DeadIs RS ds ∧ xs.map Prod.fst = trimL ds 0 RS) ∧ Below w.heap.size w w' := by
  obtain ⟨ao, co, hve⟩ := hv.len
  have hl : RS.length = rs.length := by rw [← hRS, List.length_map]
  obtain ⟨hr, h6⟩ := upE_zero.1 hu
  obtain ⟨Q, hQ⟩ : ∃ Q : Ending → World → Prop, Q = fun e w' => ∃ ta m tc xs ds, e = .returned (.tuple #[.slice ta m tc, .nilIface]) ∧ Hid (Rls w' (.slice ta m tc) xs ∧ xs.length = m ∧ DeadIs RS ds ∧ xs.map Prod.fst = trimL ds 0 RS) ∧ Below w.heap.size w w' := ⟨_, rfl⟩
  have HQ : Hid (∀ v' xs ds w', Rls w' v' xs → DeadIs RS ds → xs.map Prod.fst = trimL ds 0 RS → Below w.heap.size w w' → Q (.returned (.tuple #[v', .nilIface])) w') := by
    rw [hQ]
    intro v' xs ds w' h1 h2 h3 h4
    obtain ⟨ta, tc, rfl⟩ := h1.len
    exact ⟨ta, _, tc, xs, ds, rfl, ⟨h1, rfl, h2, h3⟩, h4⟩
  rw [← hQ]
  clear hQ
  have hde := dead_ok v rs w hv RS hRS hu
  obtain ⟨N, hN⟩ : ∃ N, rs.length = N := ⟨_, rfl⟩
  rw [hN] at hve hl
  subst hve
  have HV := hidE hv
  have HNN := hidE hN
  have HRS := hidE hRS
  have HR := hidE (rusE_zero.1 hr).2
  have hN6 : N ≤ 6 := by omega
  clear hv hN hRS hr h6 hu
  go_enter Try.func11, Try.ntmps11
  go_upto_region 4 with (go_at_call 9; go_must (refine hde.mono ?_; rintro e w1 ⟨da, m, dc, ds, rfl, HD, b1⟩))
  have HB1 := hidE b1
  clear hde b1
  go_upto_region 6 with fail
  go_loopw [6, 7, 8, 19] (fun u _ _ i wr => ∃ (t : Nat) (xa : Option Addr) (xm xc : Nat) (xs : List Rx), t ≤ N ∧ i = .int .i64 (t : Int) ∧ u = .slice xa xm xc ∧ Hid (TrSt w1 wr (.slice xa xm xc) xs) ∧ Hid (xs.map Prod.fst = trimL ds 0 (RS.take t))) (fun _ _ _ i _ => ((N : Int) - intOf i).toNat)
  case atStart => exact ⟨0, none, 0, 0, [], by omega, rfl, rfl, ⟨OwnRl.nil _ _, fun x hx => (by cases hx), Below.refl _ _⟩, rfl⟩
  case round =>
    obtain ⟨t, xa, xm, xc, xs, ht, rfl, rfl, HT, HM⟩ := hrel
    have HBW := hidE (HB1.out.trans (HT.out.bel.mono HB1.out.size))
    by_cases htN : t < N
    · have j1 : (t : Int) < (N : Int) := by omega
      have j2 : (0 : Int) ≤ (t : Int) := by omega
      have hkl : t < rs.length := by have := HNN.out; omega
      have hkR : t < RS.length := by omega
      obtain ⟨b1, o1, e1, hb1, hl1, hx1, hc1⟩ := HV.out.shape (by omega)
      subst e1
      have hx1' : co ≤ 9223372036854775807 := by unfold maxLen at hx1; omega
      have hC := (hc1 t hkl).below hb1 HBW.out
      have hTk := List.take_succ_eq_append_getElem hkR
      have hRk : RS[t] = rs[t].1 := by
        have := HRS.out
        subst this
        rw [List.getElem_map]
      have hru := HR.out RS[t] (List.getElem_mem hkR)
      rw [hRk] at hTk hru
      have HTR := hidE (show trimL ds 0 (RS.take (t + 1)) = if (t : Int) ∈ ds then trimL ds 0 (RS.take t) else trimL ds 0 (RS.take t) ++ [rs[t].1] by
        rw [hTk, trimL_append, List.length_take, Nat.min_eq_left (by omega), Nat.zero_add]
        by_cases h : (t : Int) ∈ ds
        · rw [if_pos h, trimL, if_pos h]; simp [trimL]
        · rw [if_neg h, trimL, if_neg h]; simp [trimL])
      have hlf := (ru_parts hru).2.2.2.2.1
      have hlt := (ru_parts hru).2.2.2.2.2.1
      generalize rs[t].1 = r at hC HTR hlf hlt
      generalize rs[t].2.1 = fv at hC
      generalize rs[t].2.2 = tv at hC
      obtain ⟨af, cf, hfe⟩ := hC.2.1.len
      obtain ⟨at', ct, hte⟩ := hC.2.2.1.len
      have HLF := hidE (And.intro hlf hlt)
      generalize hnf : r.fr.length = nf at hfe
      generalize hnt : r.tl.length = nt at hte
      subst hfe hte
      obtain ⟨⟨c0, c1, c2, c3, c4, c5, c6, c7, c8, c9, c10⟩, pf, pt, _, _⟩ := hC
      have b2 : Below wr.heap.size wr (wr.alloc (.cells #[.bool r.pass, .bool r.quick, .bool r.keep, .int .i64 r.way, .int .i64 r.kind, .int .i64 r.sa, .int .i64 r.sl, .int .i64 r.da, .int .i64 r.dl, .slice af nf cf, .slice at' nt ct] 34)) := (Below.refl _ _).alloc (Nat.le_refl _) _
      have hR2 := RlAt.new wr r (.slice af nf cf) (.slice at' nt ct)
      have pf2 := pf.below b2
      have pt2 := pt.below b2
      have hT2 := HT.out.below b2
      obtain ⟨W2, hW2⟩ : ∃ W2, wr.alloc (.cells #[.bool r.pass, .bool r.quick, .bool r.keep, .int .i64 r.way, .int .i64 r.kind, .int .i64 r.sa, .int .i64 r.sl, .int .i64 r.da, .int .i64 r.dl, .slice af nf cf, .slice at' nt ct] 34) = W2 := ⟨_, rfl⟩
      have HW2 := hidE hW2
      rw [hW2] at hR2 pf2 pt2 hT2 b2
      obtain ⟨X, hX⟩ : ∃ X, wr.heap.size = X := ⟨_, rfl⟩
      rw [hX] at hR2 b2
      have HX := hidE hX
      have hco := contains_int (.slice da m dc) ds (t : Int) _ W2 (HD.out.1.below hT2.bel) (by
        obtain ⟨js, e, _⟩ := HD.out.2.2
        rw [e]; have := deadL_len RS.length js; omega)
      have HB2 := hidE b2
      have HR2 := hidE hR2
      have HT2 := hidE hT2
      have HPF := hidE pf2
      have HPT := hidE pt2
      have hxm : Hid (xs.length ≤ 1000) := by
        have h1 : xs.length = (trimL ds 0 (RS.take t)).length := by rw [← HM.out, List.length_map]
        have h2 := (trimL_sub ds (RS.take t) 0).length_le
        rw [List.length_take] at h2
        show xs.length ≤ 1000
        omega
      clear hb1 hl1 hx1 hc1 hkl hkR hTk hRk hru hlf hlt pf pt b2 hR2 pf2 pt2 hT2 hW2 hX hnf hnt
      go_upto_region 8 with fail
      rw [HW2.out, HX.out]
      clear c0 c1 c2 c3 c4 c5 c6 c7 c8 c9 c10 HW2
      by_cases hin : (t : Int) ∈ ds
      · rw [decide_eq_true hin] at hco
        have HM2 := hidE (show xs.map Prod.fst = trimL ds 0 (RS.take (t + 1)) by rw [HTR.out, if_pos hin]; exact HM.out)
        clear hin HTR HM
        go_wp2_with (go_at_call 22; go_must (refine hco.mono ?_; rintro e w3 ⟨rfl, h3⟩; have h3' := h3.symm; subst h3'))
        go_roundw
        case rel => exact ⟨t + 1, _, _, _, xs, by omega, by go_num, rfl, HT2.out, HM2.out⟩
        case measure => simp [intOf]; omega
      · rw [decide_eq_false hin] at hco
        have HM2 := hidE (fun fv tv => show (xs ++ [(r, fv, tv)]).map Prod.fst = trimL ds 0 (RS.take (t + 1)) by rw [HTR.out, if_neg hin, List.map_append, HM.out]; rfl)
        clear hin HTR HM
        go_upto_region 9 with (go_at_call 22; go_must (refine hco.mono ?_; rintro e w3 ⟨rfl, h3⟩; have h3' := h3.symm; subst h3'))
        have hcl1 := clone_any (.slice af nf cf) r.fr W2.drew HPF.out (by have := HLF.out; omega)
        have HCL2 := hidE (fun Y (h : Spns Y (.slice at' nt ct) r.tl) => clone_any (.slice at' nt ct) r.tl Y h (by have := HLF.out; omega))
        obtain ⟨_, _, _, _, _, _, _, _, _, d9, d10⟩ := HR2.out.cells
        have hXW := HR2.out.lt
        go_cut [] (fun wq => ∃ (ff : Option Addr) (gf hf : Nat) (ft : Option Addr) (gt ht : Nat), Hid (CpSt W2 wq X r (.slice ff gf hf) (.slice ft gt ht)))
        case first =>
          clear hco
          go_region_with (first
            | (go_at_call 23; refine hcl1.mono ?_; rintro e w4 ⟨f1, f2, f3, rfl, O4, b4⟩; have b4' : Below W2.heap.size W2 w4 := ⟨b4.os, b4.tape, b4.output, b4.size, b4.block⟩; have y9 := (b4'.cell (p := ⟨X, 9, none⟩) hXW).trans d9; have y10 := (b4'.cell (p := ⟨X, 10, none⟩) hXW).trans d10; have hcl2 := HCL2.out w4 (HPT.out.below b4'))
            | (go_at_call 23; refine hcl2.mono ?_; rintro e w5 ⟨g1, g2, g3, rfl, O5, b5⟩; have hR5 := (HR2.out.below hXW b4').below (Nat.lt_of_lt_of_le hXW b4'.size) b5; have hCP := hidE (CpSt.of HR2.out b4' O4.out b5 O5.out); have hc5 := hR5.cells; obtain ⟨_, _, _, _, _, _, _, _, _, u9, u10⟩ := hc5; have q9 := hR5.freeT 9; have q10 := hR5.freeT 10))
          all_goals
            go_wp2_with fail
            go_meet
            case rel => exact ⟨_, _, _, _, _, _, hCP.out⟩
        case rest =>
          obtain ⟨ff, gf, hf, ft, gt, ht', HC⟩ := hcut
          obtain ⟨k0, k1, k2, k3, k4, k5, k6, k7, k8, k9, k10⟩ := HC.out.rl.cells
          have HBc := hidE (HC.out.bel)
          have B0 : Below X wr wc := HB2.out.trans HC.out.bel
          have Tc : TrSt w1 wc (.slice xa xm xc) xs := HT.out.below (by rw [HX.out]; exact B0)
          have b7 : Below wc.heap.size wc (wc.alloc (.cells #[.bool r.pass, .bool r.quick, .bool r.keep, .int .i64 r.way, .int .i64 r.kind, .int .i64 r.sa, .int .i64 r.sl, .int .i64 r.da, .int .i64 r.dl, .slice ff gf hf, .slice ft gt ht'] 34)) := (Below.refl _ _).alloc (Nat.le_refl _) _
          have n7 := heap_alloc_new wc (.cells #[.bool r.pass, .bool r.quick, .bool r.keep, .int .i64 r.way, .int .i64 r.kind, .int .i64 r.sa, .int .i64 r.sl, .int .i64 r.da, .int .i64 r.dl, .slice ff gf hf, .slice ft gt ht'] 34)
          have T7 := Tc.below b7
          have pf7 := HC.out.pf.below b7
          have pt7 := HC.out.pt.below b7
          have hone : Rls (wc.alloc (.cells #[.bool r.pass, .bool r.quick, .bool r.keep, .int .i64 r.way, .int .i64 r.kind, .int .i64 r.sa, .int .i64 r.sl, .int .i64 r.da, .int .i64 r.dl, .slice ff gf hf, .slice ft gt ht'] 34)) (.slice (some ⟨wc.heap.size, 0, none⟩) 1 1) [(r, .slice ff gf hf, .slice ft gt ht')] := Rls.box n7 ⟨pf7.spns, pt7.spns, by have := HLF.out; show r.fr.length ≤ _; omega, by have := HLF.out; show r.tl.length ≤ _; omega⟩
          have hz7 : w1.heap.size ≤ (wc.alloc (.cells #[.bool r.pass, .bool r.quick, .bool r.keep, .int .i64 r.way, .int .i64 r.kind, .int .i64 r.sa, .int .i64 r.sl, .int .i64 r.da, .int .i64 r.dl, .slice ff gf hf, .slice ft gt ht'] 34)).heap.size := T7.bel.size
          have HT7 := hidE T7
          have HP7 := hidE (show PtsS (wc.alloc (.cells #[.bool r.pass, .bool r.quick, .bool r.keep, .int .i64 r.way, .int .i64 r.kind, .int .i64 r.sa, .int .i64 r.sl, .int .i64 r.da, .int .i64 r.dl, .slice ff gf hf, .slice ft gt ht'] 34)) (xs ++ [(r, .slice ff gf hf, .slice ft gt ht')]) from fun x hx => by
            rcases List.mem_append.1 hx with hx | hx
            · exact T7.pts x hx
            · rw [List.mem_singleton] at hx
              subst hx
              exact ⟨pf7, pt7, by have := HLF.out; show r.fr.length ≤ _; omega, by have := HLF.out; show r.tl.length ≤ _; omega⟩)
          have HONE := hidE hone
          clear hco d9 d10 hXW hcl1 HCL2 HBc B0 Tc b7 n7 T7 pf7 pt7 hone
          go_wp2_with (at_builtin; refine wpList_append_rls rfl (.tmp 35) (.tmp 37) rfl w1.heap.size _ xs rfl HT7.out.own (.slice (some ⟨wc.heap.size, 0, none⟩) 1 1) [(r, .slice ff gf hf, .slice ft gt ht')] rfl HONE.out (by have := hxm.out; simp; omega) hz7 ?_; intro v8 w8 own8 gr8 lie8; have hf8 := own8.len; obtain ⟨a8, k8', hv8⟩ := hf8; generalize (xs ++ [(r, Value.slice ff gf hf, Value.slice ft gt ht')]).length = n8 at hv8; subst hv8)
          have T8 : TrSt w1 w8 (.slice a8 n8 k8') (xs ++ [(r, .slice ff gf hf, .slice ft gt ht')]) := ⟨own8, HP7.out.grown HT7.out.own gr8, HT7.out.bel.trans (grown_below gr8 hz7 (fun k hk => (HT7.out.own.block k hk).1))⟩
          have HT8 := hidE T8
          go_roundw
          case rel => exact ⟨t + 1, _, _, _, _, by omega, by go_num, rfl, HT8.out, HM2.out _ _⟩
          case measure => simp [intOf]; omega
    · have j1 : ¬ (t : Int) < (N : Int) := by omega
      have e : t = N := by omega
      subst e
      have HF := hidE (HQ.out _ xs ds wr (HT.out.own.rls HT.out.pts.pts) HD.out.2.2 (by have := HM.out; rw [List.take_of_length_le (by omega)] at this; exact this) HBW.out)
      go_wp2_with fail
      exact HF.out
end Go.Proofs.Ytdellfmkmbabhaa
