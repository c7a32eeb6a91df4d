/- A rule where it lies ('RlAt'); what the closures of check, and 'sides', answer (package rule). -/
import Derived.Test.YtdellfmkmbabhaaRuleEq
import Derived.Test.YtdellfmkmbabhaaRlV
import Derived.Test.YtdellfmkmbabhaaAddrNum
import Derived.Deep.RegionWith
namespace Go.Proofs.Ytdellfmkmbabhaa
open Go.RowKit
set_option linter.unusedVariables false

theorem addrCheck_any (a l : Int) (w : World) : Calls Try.prog 30 #[.agg #[.int .i64 a, .int .i64 l]] w fun e w' => e = .returned (erV (prefE a l)) ∧ Below w.heap.size w w' := by
  by_cases h : prefE a l = 0
  · rw [h]; exact check_ok a l w h
  · unfold erV
    rw [if_neg h]; exact check_bad a l w h
/-- A side of a rule: its word, its prefix, its ports. -/
def sideV (s : ByteArray) (b i j : Nat) : Value := .agg #[.string s, .pointer (some ⟨b, i, none⟩), .pointer (some ⟨b, j, none⟩)]
theorem chk1_any (s : ByteArray) (b i j : Nat) (a l : Int) (w : World) (h0 : w.cell? ⟨b, i, none⟩ = some (.int .i64 a)) (h1 : w.cell? ⟨b, i + 1, none⟩ = some (.int .i64 l)) :
    Calls Try.prog 29 #[sideV s b i j] w fun e w' => e = .returned (erV (prefE a l)) ∧ Below w.heap.size w w' := by
  have hb1 : Below w.heap.size w (w.alloc (.cells #[.string s, .pointer (some ⟨b, i, none⟩), .pointer (some ⟨b, j, none⟩)] 93)) := (Below.refl _ _).alloc (Nat.le_refl _) _
  have hc := addrCheck_any a l (w.alloc (.cells #[.string s, .pointer (some ⟨b, i, none⟩), .pointer (some ⟨b, j, none⟩)] 93))
  have hlt : b < w.heap.size := World.block_lt_of_cell? w ⟨b, i, none⟩ h0
  generalize erV (prefE a l) = er at hc ⊢
  unfold sideV
  go_enter Try.func29, Try.ntmps29
  go_wp2_with (go_at_call 30; go_must (refine hc.mono ?_; rintro e w2 ⟨rfl, b2⟩))
  go_ret
  exact ⟨rfl, hb1.trans (b2.mono hb1.size)⟩
theorem chk2_any (s : ByteArray) (b i j : Nat) (ao : Option Addr) (n c : Nat) (w : World) (h0 : w.cell? ⟨b, j, none⟩ = some (.slice ao n c)) :
    Calls Try.prog 31 #[sideV s b i j] w fun e w' => e = .returned (erV (if 10 < n then 4 else 0)) ∧ Below w.heap.size w w' := by
  have hb1 : Below w.heap.size w (w.alloc (.cells #[.string s, .pointer (some ⟨b, i, none⟩), .pointer (some ⟨b, j, none⟩)] 93)) := (Below.refl _ _).alloc (Nat.le_refl _) _
  have hlt : b < w.heap.size := World.block_lt_of_cell? w ⟨b, j, none⟩ h0
  unfold sideV
  by_cases hn : 10 < n
  · have hn' : (n : Int) > 10 := by omega
    have hw := when_any true 4
    rw [if_pos hn]
    clear hn
    go_enter Try.func31, Try.ntmps31
    go_wp2_with (go_at_call 32; go_must (refine (hw _).mono ?_; rintro e w2 ⟨rfl, hw2⟩; rw [hw2]; clear hw2))
    go_ret
    exact ⟨rfl, hb1⟩
  · have hn' : ¬ (n : Int) > 10 := by omega
    have hw := when_any false 4
    rw [if_neg hn]
    clear hn
    go_enter Try.func31, Try.ntmps31
    go_wp2_with (go_at_call 32; go_must (refine (hw _).mono ?_; rintro e w2 ⟨rfl, hw2⟩; rw [hw2]; clear hw2))
    go_ret
    exact ⟨rfl, hb1⟩
theorem chk3_any (s : ByteArray) (b i j : Nat) (v : Value) (l : List Sp) (w : World) (h0 : w.cell? ⟨b, j, none⟩ = some v) (hv : Spns w v l) (hl : l.length ≤ 140737488355328) :
    Calls Try.prog 33 #[sideV s b i j] w fun e w' => e = .returned (erV (spE l)) ∧ Below w.heap.size w w' := by
  have hb1 : Below w.heap.size w (w.alloc (.cells #[.string s, .pointer (some ⟨b, i, none⟩), .pointer (some ⟨b, j, none⟩)] 93)) := (Below.refl _ _).alloc (Nat.le_refl _) _
  have hc := spCheck_any v l (w.alloc (.cells #[.string s, .pointer (some ⟨b, i, none⟩), .pointer (some ⟨b, j, none⟩)] 93)) (hv.below hb1) hl
  have hlt : b < w.heap.size := World.block_lt_of_cell? w ⟨b, j, none⟩ h0
  obtain ⟨ao, c, hve⟩ := hv.len
  generalize l.length = n at hve
  subst hve
  generalize erV (spE l) = er at hc ⊢
  unfold sideV
  clear hv hl
  go_enter Try.func33, Try.ntmps33
  go_wp2_with (go_at_call 34; go_must (refine hc.mono ?_; rintro e w2 ⟨rfl, b2⟩))
  go_ret
  exact ⟨rfl, hb1.trans (b2.mono hb1.size)⟩
theorem chk4_any (s : ByteArray) (b i j hp : Nat) (k : Int) (v : Value) (l : List Sp) (w : World) (h0 : w.cell? ⟨b, j, none⟩ = some v) (hq : w.cell? ⟨hp, 0, none⟩ = some (.bool (decide (k = 1) || decide (k = 2)))) (hv : Spns w v l) (hl : spE l = 0) :
    Calls Try.prog 35 #[sideV s b i j, .pointer (some ⟨hp, 0, none⟩)] w fun e w' => e = .returned (erV (if badP k l then 3 else 0)) ∧ Below w.heap.size w w' := by
  have hb1 : Below w.heap.size w (w.alloc (.cells #[.string s, .pointer (some ⟨b, i, none⟩), .pointer (some ⟨b, j, none⟩)] 93)) := (Below.refl _ _).alloc (Nat.le_refl _) _
  have hc := normed_any v l (w.alloc (.cells #[.string s, .pointer (some ⟨b, i, none⟩), .pointer (some ⟨b, j, none⟩)] 93)) (hv.below hb1) hl
  have hlt : b < w.heap.size := World.block_lt_of_cell? w ⟨b, j, none⟩ h0
  have hlt2 : hp < w.heap.size := World.block_lt_of_cell? w ⟨hp, 0, none⟩ hq
  have hw := when_any
  obtain ⟨ao, c, hve⟩ := hv.len
  have hbp : badP k l = ((decide (0 < l.length) && !(decide (k = 1) || decide (k = 2))) || !tidyB l) := rfl
  rw [hbp]
  obtain ⟨n, hn⟩ : ∃ n, l.length = n := ⟨_, rfl⟩
  rw [hn] at hve ⊢
  subst hve
  generalize tidyB l = T at hc ⊢
  generalize (decide (k = 1) || decide (k = 2)) = H at hq ⊢
  unfold sideV
  clear hv hl hn hbp
  have ht := fun W => hw true 3 W
  have hf := fun W => hw false 3 W
  by_cases hn0 : 0 < n
  · have i1 : (n : Int) > 0 := by omega
    rw [decide_eq_true hn0]
    cases H
    · simp only [Bool.not_false, Bool.and_self, Bool.true_or, if_true]
      clear hn0 hf hw hc
      go_enter Try.func35, Try.ntmps35
      go_wp2_with (go_at_call 32; go_must (refine (ht _).mono ?_; rintro e w2 ⟨rfl, hw2⟩; rw [hw2]; clear hw2))
      go_ret
      exact ⟨rfl, hb1⟩
    · cases T
      · simp only [Bool.not_true, Bool.and_false, Bool.not_false, Bool.false_or, if_true]
        clear hn0 hf hw
        go_enter Try.func35, Try.ntmps35
        go_wp2_with (first
          | (go_at_call 36; refine hc.mono ?_; rintro e w2 ⟨rfl, b2⟩)
          | (go_at_call 32; refine (ht _).mono ?_; rintro e w3 ⟨rfl, hw2⟩; rw [hw2]; clear hw2))
        go_ret
        exact ⟨rfl, hb1.trans (b2.mono hb1.size)⟩
      · simp only [Bool.not_true, Bool.and_false, Bool.or_self, Bool.false_eq_true, if_false]
        clear hn0 ht hw
        go_enter Try.func35, Try.ntmps35
        go_wp2_with (first
          | (go_at_call 36; refine hc.mono ?_; rintro e w2 ⟨rfl, b2⟩)
          | (go_at_call 32; refine (hf _).mono ?_; rintro e w3 ⟨rfl, hw2⟩; rw [hw2]; clear hw2))
        go_ret
        exact ⟨rfl, hb1.trans (b2.mono hb1.size)⟩
  · have i1 : ¬ (n : Int) > 0 := by omega
    rw [decide_eq_false hn0]
    cases T
    · simp only [Bool.false_and, Bool.not_false, Bool.false_or, if_true]
      clear hn0 hf hw
      go_enter Try.func35, Try.ntmps35
      go_wp2_with (first
        | (go_at_call 36; refine hc.mono ?_; rintro e w2 ⟨rfl, b2⟩)
        | (go_at_call 32; refine (ht _).mono ?_; rintro e w3 ⟨rfl, hw2⟩; rw [hw2]; clear hw2))
      go_ret
      exact ⟨rfl, hb1.trans (b2.mono hb1.size)⟩
    · simp only [Bool.false_and, Bool.not_true, Bool.or_self, Bool.false_eq_true, if_false]
      clear hn0 ht hw
      go_enter Try.func35, Try.ntmps35
      go_wp2_with (first
        | (go_at_call 36; refine hc.mono ?_; rintro e w2 ⟨rfl, b2⟩)
        | (go_at_call 32; refine (hf _).mono ?_; rintro e w3 ⟨rfl, hw2⟩; rw [hw2]; clear hw2))
      go_ret
      exact ⟨rfl, hb1.trans (b2.mono hb1.size)⟩
end Go.Proofs.Ytdellfmkmbabhaa
