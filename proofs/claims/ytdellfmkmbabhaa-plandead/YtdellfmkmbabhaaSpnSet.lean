/- Plain facts: the spans of all numbers that a predicate takes ('setP'): the one Normed list with these numbers. -/
import Derived.Test.YtdellfmkmbabhaaSpanMath
namespace Go.Proofs.Ytdellfmkmbabhaa
set_option linter.unusedVariables false

def setP (p : Int → Bool) : List Sp := chooseL p ((List.range 65536).map fun k : Nat => (k : Int) + 1) 0 []
theorem setP_is (p : Int → Bool) : Nrm (setP p) ∧ ∀ n, inB (setP p) n = (decide (0 ≤ n ∧ n ≤ 65535) && p n) := by
  refine chooseL_is p (fun e => 0 < e ∧ e ≤ 65536) (fun low nx h0 hx he n h1 h2 => ?_) _ 0 [] (by omega) (by omega) (fun e he => ?_) ?_ (fun e he => ?_) Nrm.nil (fun s hs => by cases hs) (fun n => ?_)
  · by_cases hn : n = low
    · rw [hn]
    · have := he (low + 1) ⟨by omega, by omega⟩; omega
  · obtain ⟨k, hk, rfl⟩ := List.mem_map.1 he
    have := List.mem_range.1 hk; omega
  · rw [List.pairwise_map]
    exact List.pairwise_lt_range.imp (fun h => by omega)
  · refine .inr (List.mem_map.2 ⟨(e - 1).toNat, List.mem_range.2 ?_, ?_⟩)
    · rcases he with h | h <;> omega
    · rcases he with h | h <;> omega
  · rw [inB_nil]; symm; rw [Bool.and_eq_false_imp]; intro h; have := of_decide_eq_true h; omega
theorem setP_unique {p : Int → Bool} {R : List Sp} (h : Nrm R) (hi : ∀ n, inB R n = (decide (0 ≤ n ∧ n ≤ 65535) && p n)) : R = setP p :=
  nrm_unique _ _ h (setP_is p).1 (fun n => by rw [hi, (setP_is p).2])
theorem setP_congr {p q : Int → Bool} (h : ∀ n, 0 ≤ n → n ≤ 65535 → p n = q n) : setP p = setP q := by
  refine setP_unique (setP_is p).1 (fun n => ?_)
  rw [(setP_is p).2]
  by_cases hn : 0 ≤ n ∧ n ≤ 65535
  · rw [h n hn.1 hn.2]
  · rw [decide_eq_false hn, Bool.false_and, Bool.false_and]
theorem setP_in {l : List Sp} (h : OkS l) (n : Int) : inB (setP (inB l)) n = inB l n := by
  rw [(setP_is _).2]
  cases hb : inB l n with
  | false => rw [Bool.and_false]
  | true => rw [decide_eq_true (inB_range h hb), Bool.true_and]
theorem setP_self {l : List Sp} (h : Nrm l) : setP (inB l) = l := (nrm_unique _ _ h (setP_is _).1 (fun n => (setP_in h.1 n).symm)).symm
theorem setP_few {l : List Sp} (h : OkS l) : (setP (inB l)).length ≤ l.length := nrm_few (setP_is _).1 (setP_in h)
theorem setP_many (p : Int → Bool) : manyL (setP p) = cnt p := by
  rw [manyL_cnt (setP_is p).1]
  unfold cnt
  rw [cntTo_ext (q := p) 65536 (fun k hk => ?_)]
  rw [(setP_is p).2, decide_eq_true (by omega), Bool.true_and]
end Go.Proofs.Ytdellfmkmbabhaa
