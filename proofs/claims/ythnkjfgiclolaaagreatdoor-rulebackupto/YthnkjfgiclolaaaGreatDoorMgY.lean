/- RuleBack, the plain facts: what was read is written as it was; what is written has no sign of a name or a brace. -/
import Derived.Test.YthnkjfgiclolaaaGreatDoorRuleBk0
import Derived.Test.YthnkjfgiclolaaaGreatDoorRulePa2
import Derived.Test.YthnkjfgiclolaaaGreatDoorRuleWr4
namespace Go.Proofs.YthnkjfgiclolaaaGreatDoor
open Go.RowKit
set_option linter.unusedVariables false

theorem lnsF_flat : ∀ (k : Nat) (l : List UInt8), l.length ≤ k → (lnsF k l).flatten = l
  | 0, l, h => by
      have : l = [] := List.length_eq_zero_iff.1 (by omega)
      subst this; rfl
  | k + 1, l, h => by
      rw [lnsF]
      by_cases h0 : l = []
      · rw [if_pos h0, h0]; rfl
      rw [if_neg h0]
      have hp : 0 < l.length := List.length_pos_iff.2 h0
      by_cases hi : Lib.indexByte l 10 < 0
      · rw [if_pos hi]; simp
      · rw [if_neg hi, List.flatten_cons, lnsF_flat k _ (by rw [List.length_drop]; omega), List.take_append_drop]
theorem lnsL_flat (l : List UInt8) : (lnsL l).flatten = l := lnsF_flat _ _ (Nat.le_refl _)
theorem readO_isB {x : List UInt8} {r : Rl} (h : readO x = some r) : lineL r ++ [10] = x := by
  unfold readO at h
  split at h
  · rename_i h1
    cases h
    exact h1.2
  · cases h
theorem parS_okB (ls : List (List UInt8)) : ∀ (acc : List Rl), acc.length ≤ 20 → (∀ r ∈ acc, ruE r = 0) → (parS acc ls).2.2 = 0 → linesL (parS acc ls).1 = linesL acc ++ ls.flatten ∧ (parS acc ls).1.length ≤ 20 ∧ ∀ r ∈ (parS acc ls).1, ruE r = 0 := by
  induction ls with
  | nil => intro acc h1 h2 _; rw [parS_end]; simp; exact ⟨h1, h2⟩
  | cons x ls ih =>
    intro acc h1 h2 h3
    by_cases h0 : lineE acc.length x = 0
    · rcases hr : readO x with _ | r
      · unfold lineE at h0; rw [hr] at h0; cases h0
      · have hn : ¬ acc.length = 20 := fun e => by
          unfold lineE at h0; rw [hr] at h0; simp only at h0; rw [if_pos e] at h0; cases h0
        have hr0 : ruE r = 0 := by
          unfold lineE at h0; rw [hr] at h0; simp only at h0; rw [if_neg hn] at h0; exact h0
        rw [parS_ok h0 hr] at h3 ⊢
        obtain ⟨e1, e2, e3⟩ := ih (acc ++ [r]) (by rw [List.length_append, List.length_singleton]; omega) (fun y hy => (List.mem_append.1 hy).elim (h2 y) (fun h => by rw [List.mem_singleton] at h; subst h; exact hr0)) h3
        refine ⟨?_, e2, e3⟩
        rw [e1, linesL_append, List.flatten_cons, ← readO_isB hr, List.append_assoc]
        simp [linesL]
    · rw [parS_bad h0] at h3
      exact absurd h3 h0
theorem firstE_mkB {l : List Rl} : (∀ r ∈ l, ruE r = 0) → firstE l = 0 := by
  induction l with
  | nil => intro _; rfl
  | cons a l ih =>
    intro h
    rw [firstE, if_pos (h a List.mem_cons_self)]
    exact ih (fun r hr => h r (List.mem_cons_of_mem _ hr))
theorem rusE_mkB {l : List Rl} (h1 : l.length ≤ 20) (h2 : ∀ r ∈ l, ruE r = 0) : rusE l = 0 := by
  unfold rusE
  rw [if_neg (by omega)]
  exact firstE_mkB h2
/-- What was read of a text is written as that text. -/
theorem parse_written {s : List UInt8} (h : (parS [] (lnsL s)).2.2 = 0) : rusE (parS [] (lnsL s)).1 = 0 ∧ linesL (parS [] (lnsL s)).1 = s := by
  obtain ⟨e1, e2, e3⟩ := parS_okB (lnsL s) [] (by simp) (fun r hr => by cases hr) h
  refine ⟨rusE_mkB e2 e3, ?_⟩
  rw [e1, lnsL_flat]; rfl
/-- The bytes that lines are made of. -/
def plnB (x : UInt8) : Prop := x.toNat = 32 ∨ (44 ≤ x.toNat ∧ x.toNat ≤ 57) ∨ (97 ≤ x.toNat ∧ x.toNat ≤ 122)
instance (x : UInt8) : Decidable (plnB x) := by unfold plnB; infer_instance
theorem pln_all {l : List UInt8} (h : l.all (fun x => decide (plnB x)) = true) : ∀ x ∈ l, plnB x := fun x hx => of_decide_eq_true (List.all_eq_true.1 h x hx)
theorem pln_dig {n : Nat} : ∀ x ∈ digL n, plnB x := fun x hx => by
  have := digL_digs n x hx
  unfold digB at this
  unfold plnB
  omega
theorem pln_app {a b : List UInt8} (h1 : ∀ x ∈ a, plnB x) (h2 : ∀ x ∈ b, plnB x) : ∀ x ∈ a ++ b, plnB x := fun x hx => (List.mem_append.1 hx).elim (h1 x) (h2 x)
theorem pln_word {s : Sp} : ∀ x ∈ wordL s, plnB x := by
  unfold wordL
  split
  · exact pln_dig
  · exact pln_app (pln_app pln_dig (pln_all (by decide))) pln_dig
theorem pln_join : ∀ (ws : List (List UInt8)), (∀ w ∈ ws, ∀ x ∈ w, plnB x) → ∀ x ∈ Lib.join ws [44], plnB x
  | [], _ => by simp [Lib.join_nil]
  | [w], h => by rw [Lib.join_one]; exact h w (by simp)
  | w :: v :: ws, h => by
      have e : Lib.join (w :: v :: ws) [44] = w ++ ([44] ++ Lib.join (v :: ws) [44]) := by
        rw [Lib.join_cons, Lib.join_cons]; simp [Lib.joinTail]
      rw [e]
      exact pln_app (h w (by simp)) (pln_app (pln_all (by decide)) (pln_join (v :: ws) (fun u hu => h u (List.mem_cons_of_mem _ hu))))
theorem pln_text {l : List Sp} : ∀ x ∈ textL l, plnB x := by
  unfold textL
  split
  · exact pln_all (by decide)
  · exact pln_join _ (fun w hw => by
      obtain ⟨s, _, rfl⟩ := List.mem_map.1 hw
      exact pln_word)
theorem pln_show {a : Int} : ∀ x ∈ showL a, plnB x := by
  unfold showL
  exact pln_app (pln_app (pln_app (pln_app (pln_app (pln_app pln_dig (pln_all (by decide))) pln_dig) (pln_all (by decide))) pln_dig) (pln_all (by decide))) pln_dig
theorem pln_pref {a n : Int} : ∀ x ∈ showPrefL a n, plnB x := by
  unfold showPrefL
  split
  · exact pln_all (by decide)
  · exact pln_app (pln_app pln_show (pln_all (by decide))) pln_dig
theorem pln_side {Wd : List UInt8} {a n : Int} {ps : List Sp} (hW : ∀ x ∈ Wd, plnB x) : ∀ x ∈ sideL Wd a n ps, plnB x := by
  unfold sideL
  refine pln_app (pln_app hW pln_pref) ?_
  unfold portsL
  split
  · intro x hx; cases hx
  · exact pln_app (pln_all (by decide)) (by unfold printL; exact pln_text)
theorem pln_line (r : Rl) : ∀ x ∈ lineL r, plnB x := by
  unfold lineL
  refine pln_app (pln_app (pln_app (pln_app ?_ ?_) (pln_app ?_ ?_)) ?_) ?_
  · unfold headL; split <;> exact pln_all (by decide)
  · unfold quickL; split <;> exact pln_all (by decide)
  · unfold wayL; split <;> (try split) <;> exact pln_all (by decide)
  · unfold kindL; split <;> (try split) <;> (try split) <;> exact pln_all (by decide)
  · unfold bothL; exact pln_app (pln_side (pln_all (by decide))) (pln_side (pln_all (by decide)))
  · unfold keepL; split <;> exact pln_all (by decide)
/-- A text with no sign in it: no name is given, no name is meant, no brace. -/
structure Plain (s : List UInt8) : Prop where
  let' : ∀ x ∈ lnsL s, Lib.hasPrefix x [108, 101, 116, 32] = false
  sign : ∀ x ∈ s, x ≠ 36 ∧ x ≠ 123 ∧ x ≠ 125
theorem line_let (r : Rl) : Lib.hasPrefix (lineL r ++ [10]) [108, 101, 116, 32] = false := by
  obtain ⟨pass, quick, keep, way, kind, sa, sl, da, dl, fr, tl⟩ := r
  cases pass
  · have : ∃ z, lineL ⟨false, quick, keep, way, kind, sa, sl, da, dl, fr, tl⟩ ++ [10] = 98 :: z := ⟨_, rfl⟩
    obtain ⟨z, hz⟩ := this
    rw [hz]; rfl
  · have : ∃ z, lineL ⟨true, quick, keep, way, kind, sa, sl, da, dl, fr, tl⟩ ++ [10] = 112 :: z := ⟨_, rfl⟩
    obtain ⟨z, hz⟩ := this
    rw [hz]; rfl
theorem lines_plain {rs : List Rl} (h : ∀ r ∈ rs, Writ r) : Plain (linesL rs) := by
  constructor
  · intro x hx
    have := lnsL_lines (t := []) h
    rw [List.append_nil, lnsL_nil, List.append_nil] at this
    rw [this] at hx
    obtain ⟨r, _, rfl⟩ := List.mem_map.1 hx
    exact line_let r
  · intro x hx
    unfold linesL at hx
    obtain ⟨r, _, hx⟩ := List.mem_flatMap.1 hx
    rcases List.mem_append.1 hx with hx | hx
    · have := pln_line r x hx
      unfold plnB at this
      refine ⟨?_, ?_, ?_⟩ <;> (rintro rfl; revert this; decide)
    · rw [List.mem_singleton] at hx
      subst hx
      decide
/-- The rule of the law's first text. -/
def factR : Rl := ⟨true, false, true, 1, 1, 0, 0, 16909060, 32, [], [(80, 80)]⟩
def litL : List UInt8 := [112, 97, 115, 115, 32, 105, 110, 32, 107, 105, 110, 100, 32, 115, 116, 114, 101, 97, 109, 32, 102, 114, 111, 109, 32, 97, 110, 121, 32, 116, 111, 32, 49, 46, 50, 46, 51, 46, 52, 47, 51, 50, 32, 112, 111, 114, 116, 32, 56, 48, 32, 107, 101, 101, 112, 10]
theorem nrm_80 : Nrm [(80, 80)] := ⟨fun s hs => by rw [List.mem_singleton] at hs; subst hs; decide, List.pairwise_singleton _ _⟩
theorem fact_line : lineL factR ++ [10] = litL := by
  unfold lineL bothL sideL portsL factR
  simp only
  rw [printL_nrm nrm_80]
  decide
theorem fact_ok : ruE factR = 0 := by decide
theorem fact_read : parS [] (lnsL litL) = ([factR], 0, 0) := by
  have h := lnsL_lines (t := []) (rs := [factR]) (fun r hr => by rw [List.mem_singleton] at hr; subst hr; exact writ_of fact_ok)
  have e : linesL [factR] ++ [] = litL := by rw [List.append_nil, linesL_cons, fact_line]; rfl
  rw [e, lnsL_nil, List.append_nil] at h
  rw [h]
  have := parS_lines (t := []) [factR] [] (fun r hr => by rw [List.mem_singleton] at hr; subst hr; exact fact_ok) (by decide)
  rw [List.append_nil] at this
  rw [this, parS_end]; rfl
end Go.Proofs.YthnkjfgiclolaaaGreatDoor

namespace Go.Proofs.YthnkjfgiclolaaaGreatDoor
open Go.RowKit
set_option linter.unusedVariables false
set_option maxRecDepth 10000
attribute [local go_sem] Oper.semAt_some

structure NaSt (w W : World) (S : Nat) : Prop where
  q0 : W.heap[S]? = some (.cells #[.slice none 0 0] 58 (0, 0))
  q1 : W.heap[S + 1]? = some (.cells #[.slice none 0 0] 58 (0, 0))
  q2 : W.heap[S + 2]? = some (.cells #[.nilIface] 26 (0, 0))
  bel : Below S w W
  sz : S + 4 ≤ W.heap.size
theorem NaSt.free {w W W' : World} {S : Nat} (h : NaSt w W S) (ho : Only (S + 3) W W') : NaSt w W' S :=
  ⟨(ho.block _ (by omega)).trans h.q0, (ho.block _ (by omega)).trans h.q1, (ho.block _ (by omega)).trans h.q2, ho.below (by omega) h.bel, by rw [ho.size]; exact h.sz⟩
theorem NaSt.turn {w W W' : World} {S : Nat} {row : Option Nat} (h : NaSt w W S) (hg : W.grownBy W' row) (hr : ∀ r, row = some r → S + 4 ≤ r ∧ ∃ o : Obj, W.heap[r]? = some o ∧ o.isCells = false) : NaSt w W' S :=
  ⟨cells_grown hg hr h.q0, cells_grown hg hr h.q1, cells_grown hg hr h.q2, h.bel.trans (grown_below hg (by have := h.sz; omega) (fun k hk => by have := (hr k hk).1; omega)), Nat.le_trans h.sz hg.size⟩
def naI (w : World) (S : Nat) (pre : List (List UInt8)) (W : World) : Prop := NaSt w W S
def naX (c : Code) (pre : List (List UInt8)) (W : World) : Prop := False
theorem naI_own (w : World) (S : Nat) : OwnFrom (S + 4) (naI w S) := fun s W W' row h hg hr => h.turn hg hr
theorem naX_own (S : Nat) (c : Code) : OwnFrom S (naX c) := fun s W W' row h hg hr => h.elim
theorem naI_free (w : World) (S : Nat) : Free (S + 3) (naI w S) := fun s A A' h o => h.free o
theorem naX_free (S : Nat) (c : Code) : Free S (naX c) := fun s A A' h o => h.elim
theorem NaSt.new {s : ByteArray} (w : World) : NaSt w ((((w.alloc (.cells #[.slice none 0 0] 58)).alloc (.cells #[.slice none 0 0] 58)).alloc (.cells #[.nilIface] 26)).alloc (.cells #[.string s] 9)) w.heap.size := by
  have z1 : (w.alloc (.cells #[.slice none 0 0] 58)).heap.size = w.heap.size + 1 := by simp
  have b1 : Below w.heap.size w (w.alloc (.cells #[.slice none 0 0] 58)) := (Below.refl _ _).alloc (Nat.le_refl _) _
  have c1 := heap_alloc_new w (.cells #[.slice none 0 0] 58)
  generalize w.alloc (.cells #[.slice none 0 0] 58) = W1 at z1 b1 c1 ⊢
  have z2 : (W1.alloc (.cells #[.slice none 0 0] 58)).heap.size = w.heap.size + 2 := by simp; omega
  have b2 : Below W1.heap.size W1 (W1.alloc (.cells #[.slice none 0 0] 58)) := (Below.refl _ _).alloc (Nat.le_refl _) _
  have c2 := heap_alloc_new W1 (.cells #[.slice none 0 0] 58)
  rw [z1] at c2
  have c1 := (b2.block _ (by omega)).trans c1
  have b2 := b1.trans (b2.mono b1.size)
  generalize W1.alloc (.cells #[.slice none 0 0] 58) = W2 at z2 b2 c1 c2 ⊢
  have z3 : (W2.alloc (.cells #[.nilIface] 26)).heap.size = w.heap.size + 3 := by simp; omega
  have b3 : Below W2.heap.size W2 (W2.alloc (.cells #[.nilIface] 26)) := (Below.refl _ _).alloc (Nat.le_refl _) _
  have c3 := heap_alloc_new W2 (.cells #[.nilIface] 26)
  rw [z2] at c3
  have c1 := (b3.block _ (by omega)).trans c1
  have c2 := (b3.block _ (by omega)).trans c2
  have b3 := b2.trans (b3.mono b2.size)
  generalize W2.alloc (.cells #[.nilIface] 26) = W3 at z3 b3 c1 c2 c3 ⊢
  have b5 : Below W3.heap.size W3 (W3.alloc (.cells #[.string s] 9)) := (Below.refl _ _).alloc (Nat.le_refl _) _
  exact ⟨(b5.block _ (by omega)).trans c1, (b5.block _ (by omega)).trans c2, (b5.block _ (by omega)).trans c3, b3.trans (b5.mono b3.size), by simp; omega⟩
set_option maxHeartbeats 16000000 in
theorem names_plain (text : List UInt8) (w : World) (hl : text.length ≤ 2000) (hp : ∀ x ∈ lnsL text, Lib.hasPrefix x [108, 101, 116, 32] = false) :
    Calls Tryz.prog 27 #[.string (mkB text)] w fun e w' => e = .returned (.tuple #[.slice none 0 0, .slice none 0 0, .nilIface]) ∧ Below w.heap.size w w' := by
  obtain ⟨all, hall⟩ : ∃ all, lnsL text = all := ⟨_, rfl⟩
  rw [hall] at hp
  have HALL : Hid (lnsL text = all) := hall
  obtain ⟨Q, hQ⟩ : ∃ Q : Ending → World → Prop, Q = fun e w' => e = .returned (.tuple #[.slice none 0 0, .slice none 0 0, .nilIface]) ∧ Below w.heap.size w w' := ⟨_, rfl⟩
  have HQ : Hid (∀ w', Below w.heap.size w w' → Q (.returned (.tuple #[.slice none 0 0, .slice none 0 0, .nilIface])) w') := by rw [hQ]; exact fun w' h => ⟨rfl, h⟩
  rw [← hQ]
  clear hQ hall
  refine (callsIn_wide (n := 3)).1 ?_
  have R0 := NaSt.new (s := mkB text) w
  obtain ⟨W0, hW0⟩ : ∃ W0, ((((w.alloc (.cells #[.slice none 0 0] 58)).alloc (.cells #[.slice none 0 0] 58)).alloc (.cells #[.nilIface] 26)).alloc (.cells #[.string (mkB text)] 9)) = W0 := ⟨_, rfl⟩
  have z0 : W0.heap.size = w.heap.size + 4 := by rw [← hW0]; simp
  have s0 : StrAt W0 (w.heap.size + 3) text := by
    have := heap_alloc_new (((w.alloc (.cells #[.slice none 0 0] 58)).alloc (.cells #[.slice none 0 0] 58)).alloc (.cells #[.nilIface] 26)) (.cells #[.string (mkB text)] 9)
    rw [hW0] at this
    rw [show (((w.alloc (.cells #[.slice none 0 0] 58)).alloc (.cells #[.slice none 0 0] 58)).alloc (.cells #[.nilIface] 26)).heap.size = w.heap.size + 3 by simp] at this
    exact this
  rw [hW0] at R0
  have hlf := fun w => linesF_any (mkB text) w
  have hsz := mkB_size text
  have hn : ¬ ((mkB text).size : Int) > 2000 := by rw [hsz]; omega
  refine callsIn_of_wp_marks Tryz.func27 rfl trivial ?_ rfl
  simp only [Tryz.ntmps27, List.size_toArray, List.length_cons, List.length_nil, Nat.reduceAdd, Nat.reduceSub, Array.replicate_succ, Array.replicate_zero, List.push_toArray, List.append_toArray, List.nil_append, List.cons_append]
  gi_wp2_with (refine ⟨trivial, ?_⟩; refine (callsIn_wide.2 (hlf _)).mono ?_; rintro e w' ⟨rfl, hw'⟩; rw [hw']; clear hw')
  clear hW0 hlf
  obtain ⟨S, hS⟩ : ∃ S, w.heap.size = S := ⟨_, rfl⟩
  have HS : Hid (w.heap.size = S) := hS
  rw [hS] at R0 z0 s0 ⊢
  clear hS
  rw [show S + 1 + 1 = S + 2 from rfl, show S + 2 + 1 = S + 3 from rfl]
  have hgv := lines_gives 2 (S + 3) text W0 s0 (by omega)
  rw [HALL.out] at hgv
  have HP : Hid (∀ x ∈ all, Lib.hasPrefix x [108, 101, 116, 32] = false) := hp
  clear hp
  refine wp_range_box rfl (by decide) (gf := 53) (lb := #[.pointer (some ⟨S + 3, 0, none⟩)]) rfl trivial (enters_of Tryz.func53 (by kernel_rfl) rfl) (B := S + 3) (all := all) (by omega) hgv (fun x => rfl)
    (naI w S) naX (by rw [z0]; exact naI_own w S) (fun c => naX_own _ c) (naI_free w S) (naX_free _) R0
    (fun x => { tmps := #[.string (mkB text), undef, .pointer (some ⟨S, 0, none⟩), .pointer (some ⟨S + 1, 0, none⟩), .pointer (some ⟨S + 2, 0, none⟩), .string (mkB x), undef, undef, undef, undef, undef, undef, undef, .string (mkB text), .int .i64 (text.length : Int), .bool (decide ((2000 : Int) < (text.length : Int))), undef, .string (mkB text), .func (.func 53) #[] #[.pointer (some ⟨S + 3, 0, none⟩)], .string (mkB x), undef, undef, undef, undef, undef, undef, undef, undef, undef, undef, undef, undef, undef, undef, undef, undef, undef, undef, undef, undef, undef, undef, undef, undef, undef, undef, undef, undef, undef, undef, undef, undef, undef, undef, undef, undef, undef, undef, undef, undef, undef, undef, undef, undef], defers := [] }) ?assign ?body ?done ?stop
  case assign =>
    intro l x W K hK
    gi_wp2
    exact hK
  case body =>
    rintro l pre x W R hpre hsz
    have hR : NaSt w W S := R
    have HR := hidE hR
    have hx : x ∈ all := by
      obtain ⟨t, ht⟩ := hpre
      rw [← ht]; simp
    have hcp := Tryz.strings_CutPrefix (mkB x) (mkB [108, 101, 116, 32]) W
    rw [mkB_toList, mkB_toList, HP.out x hx] at hcp
    rw [show mkB [108, 101, 116, 32] = (⟨#[108, 101, 116, 32]⟩ : ByteArray) from rfl] at hcp
    generalize (⟨(Lib.trimPrefix x [108, 101, 116, 32]).toArray⟩ : ByteArray) = y at hcp
    clear R hpre hgv s0 R0 hR hx
    gi_wp2_with (refine ⟨trivial, ?_⟩; refine (CallsIn.inRound l (callsIn_wide.2 hcp)).mono ?_; rintro e W1 ⟨rfl, hw1⟩; rw [hw1]; clear hw1)
    exact ⟨KeepsOthers.refl _, rfl, HR.out⟩
  case done =>
    rintro D W hD R hK
    have R : NaSt w W S := R
    obtain ⟨c0, f0⟩ := cell1 R.q0
    obtain ⟨c1, f1⟩ := cell1 R.q1
    obtain ⟨c2, f2⟩ := cell1 R.q2
    obtain ⟨W9, hW9, g0, g1, g2, ot, kk, b9, z9⟩ := store3 (a := .slice none 0 0) (b := .slice none 0 0) (c := .nilIface) R.q0 R.q1 R.q2
    have HW9 : Hid (((W.setCell ⟨S, 0, none⟩ (.slice none 0 0)).setCell ⟨S + 1, 0, none⟩ (.slice none 0 0)).setCell ⟨S + 2, 0, none⟩ .nilIface = W9) := hW9
    have hK9 := kk.same D _ hK rfl
    have hgr := grownBy_putObj' W9.drew D (.deferred none)
    have hrr : ∀ r, some D = some r → S + 4 ≤ r ∧ ∃ o : Obj, W9.drew.heap[r]? = some o ∧ o.isCells = false := fun r e => by
      cases e
      exact ⟨by omega, _, hK9, rfl⟩
    have bel10 : Below S w (W9.drew.putObj D (.deferred none)) := (R.bel.trans b9.drew).trans (grown_below hgr (by have := R.sz; show S ≤ W9.heap.size; omega) (fun k hk => by cases hk; omega))
    obtain ⟨c0', _⟩ := cell1 (cells_grown hgr hrr g0)
    obtain ⟨c1', _⟩ := cell1 (cells_grown hgr hrr g1)
    obtain ⟨c2', _⟩ := cell1 (cells_grown hgr hrr g2)
    have htd := run_takeDeferred (P := Tryz.prog) (w := W9.drew) hK9
    generalize hW10 : W9.drew.putObj D (.deferred none) = W10 at bel10 c0' c1' c2' htd
    have HFIN : Hid (bel10 = bel10) := rfl
    have hq := HQ.out W10 (by rw [HS.out]; exact bel10)
    have HQQ := hidE hq
    have HC := hidE (And.intro c0' (And.intro c1' c2'))
    have HTD := hidE htd
    clear hW9 g0 g1 g2 ot kk b9 z9 hgr hrr bel10 c0' c1' c2' htd hq HFIN hW10
    gi_wp2
    gi_region
    all_goals (rw [HW9.out]; gi_wp2; refine ⟨by simp, .inl ⟨_, _, rfl, HTD.out, ?_⟩⟩; obtain ⟨c0', c1', c2'⟩ := HC.out; exact ⟨.tuple #[.slice none 0 0, .slice none 0 0, .nilIface], by simp [results, Tryz.results27, go_sem, c0', c1', c2'], HQQ.out⟩)
  case stop =>
    rintro D c pre W hD hpre R hK
    exact R.elim
theorem na3 (e : Value) (w : World) : (((w.alloc (.cells #[.slice none 0 0] 58)).alloc (.cells #[.slice none 0 0] 58)).alloc (.cells #[e] 26)).cell? ⟨w.heap.size, 0, none⟩ = some (.slice none 0 0) ∧ (((w.alloc (.cells #[.slice none 0 0] 58)).alloc (.cells #[.slice none 0 0] 58)).alloc (.cells #[e] 26)).cell? ⟨w.heap.size + 1, 0, none⟩ = some (.slice none 0 0) ∧ (((w.alloc (.cells #[.slice none 0 0] 58)).alloc (.cells #[.slice none 0 0] 58)).alloc (.cells #[e] 26)).cell? ⟨w.heap.size + 1 + 1, 0, none⟩ = some e ∧ Below w.heap.size w (((w.alloc (.cells #[.slice none 0 0] 58)).alloc (.cells #[.slice none 0 0] 58)).alloc (.cells #[e] 26)) := by
  have z1 : (w.alloc (.cells #[.slice none 0 0] 58)).heap.size = w.heap.size + 1 := by simp
  have b1 : Below w.heap.size w (w.alloc (.cells #[.slice none 0 0] 58)) := (Below.refl _ _).alloc (Nat.le_refl _) _
  have c1 := heap_alloc_new w (.cells #[.slice none 0 0] 58)
  generalize w.alloc (.cells #[.slice none 0 0] 58) = W1 at z1 b1 c1 ⊢
  have z2 : (W1.alloc (.cells #[.slice none 0 0] 58)).heap.size = w.heap.size + 1 + 1 := by simp; omega
  have b2 : Below W1.heap.size W1 (W1.alloc (.cells #[.slice none 0 0] 58)) := (Below.refl _ _).alloc (Nat.le_refl _) _
  have c2 := heap_alloc_new W1 (.cells #[.slice none 0 0] 58)
  rw [z1] at c2
  have c1 := (b2.block _ (by omega)).trans c1
  have b2 := b1.trans (b2.mono b1.size)
  generalize W1.alloc (.cells #[.slice none 0 0] 58) = W2 at z2 b2 c1 c2 ⊢
  have b3 : Below W2.heap.size W2 (W2.alloc (.cells #[e] 26)) := (Below.refl _ _).alloc (Nat.le_refl _) _
  have c3 := heap_alloc_new W2 (.cells #[e] 26)
  rw [z2] at c3
  have c1 := (b3.block _ (by omega)).trans c1
  have c2 := (b3.block _ (by omega)).trans c2
  exact ⟨(cell1 c1).1, (cell1 c2).1, (cell1 c3).1, b2.trans (b3.mono b2.size)⟩
/-- Too long a text. -/
theorem names_full (text : List UInt8) (w : World) (hl : 2000 < text.length) :
    Calls Tryz.prog 27 #[.string (mkB text)] w fun e w' => e = .returned (.tuple #[.slice none 0 0, .slice none 0 0, .iface 45 (.int .i64 4)]) ∧ Below w.heap.size w w' := by
  have hsz := mkB_size text
  have hn : ((mkB text).size : Int) > 2000 := by rw [hsz]; omega
  generalize mkB text = s at hn
  clear hsz hl
  obtain ⟨c0, c1, c2, hb⟩ := na3 (.iface 45 (.int .i64 4)) w
  have HC := hidE (And.intro c0 (And.intro c1 (And.intro c2 hb)))
  clear c0 c1 c2 hb
  go_enter Tryz.func27, Tryz.ntmps27
  go_wp2
  obtain ⟨c0, c1, c2, hb⟩ := HC.out
  generalize (((w.alloc (.cells #[.slice none 0 0] 58)).alloc (.cells #[.slice none 0 0] 58)).alloc (.cells #[.iface 45 (.int .i64 4)] 26)) = W3 at c0 c1 c2 hb ⊢
  exact bodyPost_ret (v := .tuple #[.slice none 0 0, .slice none 0 0, .iface 45 (.int .i64 4)]) (by simp [results, Tryz.results27, go_sem, c0, c1, c2]) rfl ⟨rfl, hb⟩
end Go.Proofs.YthnkjfgiclolaaaGreatDoor
