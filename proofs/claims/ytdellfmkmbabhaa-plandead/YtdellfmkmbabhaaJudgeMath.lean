/- Judging: whether a rule fits a key ('fitsB'), the numbers of those that do, up to the quick one ('traceL'), what is judged of it ('judL'); what one more rule, behind all or ahead of all, makes of it. Plain facts; no condition is asked of a program. -/
import Derived.Test.YtdellfmkmbabhaaRuleMath
import Derived.Test.YtdellfmkmbabhaaKyV
namespace Go.Proofs.Ytdellfmkmbabhaa
set_option linter.unusedVariables false

def portB (l : List Sp) (n : Int) : Bool := decide (l.length = 0) || (decide (spE l = 0) && inB l n)
def anyB (a b : Int) : Bool := a == 0 || a == b
/-- Does a rule fit a key? -/
def fitsB (r : Rl) (k : Ky) (way : Int) : Bool := anyB r.way way && (anyB r.kind k.kind && (hasB r.sa r.sl k.src && (hasB r.da r.dl k.dst && (portB r.fr k.frm && portB r.tl k.too))))
def keyB (k : Ky) (way : Int) : Bool := decide (0 ≤ k.kind) && (decide (k.kind ≤ 15) && (isAddr k.src && (isAddr k.dst && ((decide (0 ≤ k.frm) && decide (k.frm ≤ 65535)) && ((decide (0 ≤ k.too) && decide (k.too ≤ 65535)) && (way == 1 || way == 2))))))
def keyE (k : Ky) (way : Int) : Int := if keyB k way = true then 0 else 1
/-- The numbers of the rules that fit, up to the first quick one. -/
def traceL (k : Ky) (way : Int) : Nat → List Rl → List Int
  | _, [] => []
  | i, r :: l => if fitsB r k way = true then (if r.quick = true then [(i : Int)] else (i : Int) :: traceL k way (i + 1) l) else traceL k way (i + 1) l
theorem traceL_no {k : Ky} {way : Int} {i : Nat} {r : Rl} {l : List Rl} (h : fitsB r k way = false) : traceL k way i (r :: l) = traceL k way (i + 1) l := by
  rw [traceL, h]; rfl
theorem traceL_quick {k : Ky} {way : Int} {i : Nat} {r : Rl} {l : List Rl} (h : fitsB r k way = true) (hq : r.quick = true) : traceL k way i (r :: l) = [(i : Int)] := by
  rw [traceL, if_pos h, if_pos hq]
theorem traceL_yes {k : Ky} {way : Int} {i : Nat} {r : Rl} {l : List Rl} (h : fitsB r k way = true) (hq : r.quick = false) : traceL k way i (r :: l) = (i : Int) :: traceL k way (i + 1) l := by
  rw [traceL, if_pos h, hq]; rfl
theorem traceL_len (k : Ky) (way : Int) : ∀ (l : List Rl) (i : Nat), (traceL k way i l).length ≤ l.length
  | [], i => by simp [traceL]
  | r :: l, i => by
      have ih := traceL_len k way l (i + 1)
      rw [traceL]
      split
      · split
        · simp
        · simp; omega
      · simp; omega
theorem traceL_mem (k : Ky) (way : Int) : ∀ (l : List Rl) (i : Nat) (n : Int), n ∈ traceL k way i l → ∃ j : Nat, j < l.length ∧ n = ((i + j : Nat) : Int)
  | [], i, n, h => by simp [traceL] at h
  | r :: l, i, n, h => by
      have ih := traceL_mem k way l (i + 1) n
      have go : n ∈ traceL k way (i + 1) l → ∃ j : Nat, j < (r :: l).length ∧ n = ((i + j : Nat) : Int) := fun h => by
        obtain ⟨j, h1, h2⟩ := ih h
        exact ⟨j + 1, by simpa using h1, by omega⟩
      rw [traceL] at h
      split at h
      · split at h
        · exact ⟨0, by simp, by simpa using h⟩
        · rcases List.mem_cons.1 h with h | h
          · exact ⟨0, by simp, by simpa using h⟩
          · exact go h
      · exact go h
/-- Is there a quick one that fits? -/
def stopB (k : Ky) (way : Int) (l : List Rl) : Bool := l.any fun r => fitsB r k way && r.quick
theorem traceL_snoc (k : Ky) (way : Int) (r : Rl) : ∀ (l : List Rl) (i : Nat), traceL k way i (l ++ [r]) = if stopB k way l = true then traceL k way i l else traceL k way i l ++ (if fitsB r k way = true then [((i + l.length : Nat) : Int)] else [])
  | [], i => by
      simp only [List.nil_append, stopB, List.any_nil, traceL]
      split <;> simp
  | a :: l, i => by
      have ih := traceL_snoc k way r l (i + 1)
      have e : i + (a :: l).length = i + 1 + l.length := by simp; omega
      rw [e, List.cons_append]
      have hs : stopB k way (a :: l) = ((fitsB a k way && a.quick) || stopB k way l) := rfl
      rw [hs]
      rcases hf : fitsB a k way with _ | _
      · rw [traceL_no hf, traceL_no hf, ih]
        simp
      · rcases hq : a.quick with _ | _
        · rw [traceL_yes hf hq, traceL_yes hf hq, ih]
          simp only [Bool.true_and, Bool.false_or]
          split
          · rfl
          · rw [List.cons_append]
        · rw [traceL_quick hf hq, traceL_quick hf hq]
          simp
theorem traceL_shift (k : Ky) (way : Int) : ∀ (l : List Rl) (i : Nat), traceL k way (i + 1) l = (traceL k way i l).map (· + 1)
  | [], i => rfl
  | a :: l, i => by
      have ih := traceL_shift k way l (i + 1)
      rcases hf : fitsB a k way with _ | _
      · rw [traceL_no hf, traceL_no hf, ih]
      · rcases hq : a.quick with _ | _
        · rw [traceL_yes hf hq, traceL_yes hf hq, ih]; simp
        · rw [traceL_quick hf hq, traceL_quick hf hq]; simp
def ruleAt (l : List Rl) (n : Int) : Option Rl := l[n.toNat]?
def zeroR : Rl := { pass := true, quick := false, keep := false, way := 0, kind := 0, sa := 0, sl := 0, da := 0, dl := 0, fr := [], tl := [] }
/-- The last of a trace, and what is judged by it. -/
def lastN (t : List Int) : Int := t.getLast?.getD (-1)
def judR (l : List Rl) (n : Int) : Rl := if n < 0 then zeroR else (l[n.toNat]?).getD zeroR
theorem last_stop (k : Ky) (way : Int) : ∀ (l : List Rl) (i : Nat), ((traceL k way i l).getLast?.map fun n : Int => ((l[(n - i).toNat]?).getD zeroR).quick) = if (traceL k way i l) = [] then none else some (stopB k way l)
  | [], i => rfl
  | a :: l, i => by
      have ih := last_stop k way l (i + 1)
      have hs : stopB k way (a :: l) = ((fitsB a k way && a.quick) || stopB k way l) := rfl
      have mv : ∀ n ∈ traceL k way (i + 1) l, (a :: l)[(n - i).toNat]? = l[(n - ((i + 1 : Nat) : Int)).toNat]? := fun n hn => by
        obtain ⟨j, hj, rfl⟩ := traceL_mem k way l (i + 1) n hn
        have e1 : (((i + 1 + j : Nat) : Int) - (i : Int)).toNat = j + 1 := by omega
        have e2 : (((i + 1 + j : Nat) : Int) - ((i + 1 : Nat) : Int)).toNat = j := by omega
        rw [e1, e2, List.getElem?_cons_succ]
      have mv' : ((traceL k way (i + 1) l).getLast?.map fun n : Int => (((a :: l)[(n - i).toNat]?).getD zeroR).quick) = ((traceL k way (i + 1) l).getLast?.map fun n : Int => ((l[(n - ((i + 1 : Nat) : Int)).toNat]?).getD zeroR).quick) := by
        rcases h : (traceL k way (i + 1) l).getLast? with _ | n
        · rfl
        · simp only [Option.map_some]
          rw [mv n (List.mem_of_getLast? h)]
      rw [hs]
      rcases hf : fitsB a k way with _ | _
      · rw [traceL_no hf, mv', ih]; simp
      · rcases hq : a.quick with _ | _
        · rw [traceL_yes hf hq]
          rcases ht : traceL k way (i + 1) l with _ | ⟨x, t⟩
          · rw [ht] at ih
            have hn : stopB k way l = false := by
              rcases hb : stopB k way l with _ | _
              · rfl
              · exfalso
                clear mv mv' ih hs
                have : ∀ (l : List Rl) (i : Nat), stopB k way l = true → traceL k way i l ≠ [] := by
                  intro l
                  induction l with
                  | nil => intro i h; simp [stopB] at h
                  | cons b l ih2 =>
                    intro i h
                    rcases hfb : fitsB b k way with _ | _
                    · rw [traceL_no hfb]
                      refine ih2 _ ?_
                      have : stopB k way (b :: l) = ((fitsB b k way && b.quick) || stopB k way l) := rfl
                      rw [this, hfb] at h
                      simpa using h
                    · rcases hqb : b.quick with _ | _
                      · rw [traceL_yes hfb hqb]; simp
                      · rw [traceL_quick hfb hqb]; simp
                exact this l (i + 1) hb ht
            simp [hq, hn]
          · rw [List.getLast?_cons_cons, ← ht, mv', ih, ht]; simp
        · rw [traceL_quick hf hq]
          simp [hq]
theorem quick_of_stop {k : Ky} {way : Int} {l : List Rl} (h : traceL k way 0 l ≠ []) : (judR l (lastN (traceL k way 0 l))).quick = stopB k way l := by
  have := last_stop k way l 0
  rw [if_neg h] at this
  rcases hl : (traceL k way 0 l).getLast? with _ | n
  · rw [hl] at this; cases this
  · rw [hl] at this
    obtain ⟨j, hj, hn⟩ := traceL_mem k way l 0 n (List.mem_of_getLast? hl)
    unfold lastN judR
    rw [hl]
    simp only [Option.map_some, Option.some.injEq] at this
    simp only [Option.getD_some]
    rw [if_neg (by omega)]
    rw [show n - ((0 : Nat) : Int) = n by omega] at this
    exact this
theorem stop_of_nil {k : Ky} {way : Int} {l : List Rl} (h : traceL k way 0 l = []) : stopB k way l = false := by
  rcases hb : stopB k way l with _ | _
  · rfl
  · exfalso
    have : ∀ (l : List Rl) (i : Nat), stopB k way l = true → traceL k way i l ≠ [] := by
      intro l
      induction l with
      | nil => intro i h; simp [stopB] at h
      | cons b l ih2 =>
        intro i h
        rcases hfb : fitsB b k way with _ | _
        · rw [traceL_no hfb]
          refine ih2 _ ?_
          have : stopB k way (b :: l) = ((fitsB b k way && b.quick) || stopB k way l) := rfl
          rw [this, hfb] at h
          simpa using h
        · rcases hqb : b.quick with _ | _
          · rw [traceL_yes hfb hqb]; simp
          · rw [traceL_quick hfb hqb]; simp
    exact this l 0 hb h
theorem lastN_lt {k : Ky} {way : Int} {l : List Rl} (h : traceL k way 0 l ≠ []) : ∃ j : Nat, j < l.length ∧ lastN (traceL k way 0 l) = (j : Int) := by
  rcases hl : (traceL k way 0 l).getLast? with _ | n
  · exact absurd (List.getLast?_eq_none_iff.1 hl) h
  · obtain ⟨j, hj, hn⟩ := traceL_mem k way l 0 n (List.mem_of_getLast? hl)
    refine ⟨j, hj, ?_⟩
    unfold lastN
    rw [hl, Option.getD_some, hn]; simp
/-- One more rule behind all. -/
theorem last_behind {k : Ky} {way : Int} {l : List Rl} {r : Rl} (hf : fitsB r k way = true) (hs : stopB k way l = false) : lastN (traceL k way 0 (l ++ [r])) = (l.length : Int) := by
  rw [traceL_snoc, hs, hf]
  simp [lastN]
theorem last_behind_no {k : Ky} {way : Int} {l : List Rl} {r : Rl} (h : ¬ (fitsB r k way = true ∧ stopB k way l = false)) : traceL k way 0 (l ++ [r]) = traceL k way 0 l := by
  rw [traceL_snoc]
  split
  · rfl
  · rename_i hs
    rcases hf : fitsB r k way with _ | _
    · simp
    · exact absurd ⟨hf, by simpa using hs⟩ h
/-- A quick one ahead of all. -/
theorem last_ahead {k : Ky} {way : Int} {l : List Rl} {r : Rl} (hf : fitsB r k way = true) (hq : r.quick = true) : lastN (traceL k way 0 (r :: l)) = 0 := by
  rw [traceL_quick hf hq]; rfl
theorem last_ahead_no {k : Ky} {way : Int} {l : List Rl} {r : Rl} (hf : fitsB r k way = false) : traceL k way 0 (r :: l) = (traceL k way 0 l).map (· + 1) := by
  rw [traceL_no hf, traceL_shift]
theorem lastN_map {t : List Int} (h : t ≠ []) : lastN (t.map (· + 1)) = lastN t + 1 := by
  unfold lastN
  rcases hl : t.getLast? with _ | n
  · exact absurd (List.getLast?_eq_none_iff.1 hl) h
  · rw [List.getLast?_map, hl]; rfl
theorem fits_quick (r : Rl) (k : Ky) (way : Int) : fitsB { r with quick := true } k way = fitsB r k way := rfl
theorem ruE_quick (r : Rl) : ruE { r with quick := true } = ruE r := rfl
theorem rusE_ahead {l : List Rl} {r : Rl} (h : rusE (l ++ [r]) = 0) : rusE ({ r with quick := true } :: l) = 0 := by
  rw [rusE_zero] at h ⊢
  refine ⟨by simpa using h.1, fun a ha => ?_⟩
  rcases List.mem_cons.1 ha with rfl | ha
  · rw [ruE_quick]; exact h.2 r (by simp)
  · exact h.2 a (by simp [ha])
end Go.Proofs.Ytdellfmkmbabhaa
