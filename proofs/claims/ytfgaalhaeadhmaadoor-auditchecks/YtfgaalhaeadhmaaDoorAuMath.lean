/- Package audit, in numbers: an event ('Ev'), what is wrong with it ('wrN'), who is Master behind events ('stA'), the first that is wrong ('audR'). -/
import Derived.Test.YtfgaalhaeadhmaaDoorKyV
namespace Go.Proofs.YtfgaalhaeadhmaaDoor
set_option linter.unusedVariables false

structure Ev where
  time : Int
  node : Int
  what : Int
  key : Ky
def keyZ (k : Ky) : Bool := decide (k.kind = 0 ∧ k.src = 0 ∧ k.frm = 0 ∧ k.dst = 0 ∧ k.too = 0)
def evB (e : Ev) : Bool := decide (0 ≤ e.time ∧ e.time ≤ 1000000 ∧ (e.node = 0 ∨ e.node = 1) ∧ 1 ≤ e.what ∧ e.what ≤ 4)
def suB (e : Ev) (m : Int) : Bool := if e.what = 1 then decide (e.node = m) else if e.what = 3 then keyZ e.key && !decide (e.node = m) else if e.what = 4 then keyZ e.key && decide (e.node = m) else true
/-- What is wrong with an event, behind time now, with Master m. -/
def wrN (e : Ev) (now m : Int) : Int := if evB e = false then 1 else if e.time < now then 6 else if suB e m = false then 3 else if e.what = 3 ∧ m ≠ -1 then 7 else 0
/-- When it is, and who is Master, behind an event. -/
def nxE (s : Int × Int) (e : Ev) : Int × Int := (e.time, if e.what = 3 then e.node else if e.what = 4 then -1 else s.2)
def stA (es : List Ev) (k : Nat) : Int × Int := (es.take k).foldl nxE (0, -1)
/-- The first k events are right. -/
def Gd (es : List Ev) (k : Nat) : Prop := ∀ i (h : i < es.length), i < k → wrN es[i] (stA es i).1 (stA es i).2 = 0
def auR : List Ev → Int × Int → Nat → Nat × Int
  | [], _, _ => (0, 0)
  | e :: l, s, i => if wrN e s.1 s.2 = 0 then auR l (nxE s e) (i + 1) else (i, wrN e s.1 s.2)
/-- The number of the first event that is wrong, and how. -/
def audR (es : List Ev) : Nat × Int := if 1000 < es.length then (0, 4) else auR es (0, -1) 0
/-- How many of these events are of a kind. -/
def cntE (n : Int) (es : List Ev) : Nat := es.countP fun e => e.what == n
theorem stA_zero (es : List Ev) : stA es 0 = (0, -1) := rfl
theorem stA_succ {es : List Ev} {k : Nat} (h : k < es.length) : stA es (k + 1) = nxE (stA es k) es[k] := by
  unfold stA
  rw [List.take_succ_eq_append_getElem h, List.foldl_append]; rfl
theorem Gd.zero (es : List Ev) : Gd es 0 := fun i _ h => absurd h (Nat.not_lt_zero i)
theorem Gd.succ {es : List Ev} {k : Nat} (h : Gd es k) (hk : k < es.length) (hz : wrN es[k] (stA es k).1 (stA es k).2 = 0) : Gd es (k + 1) := by
  intro i hi hik
  rcases Nat.lt_or_ge i k with h1 | h1
  · exact h i hi h1
  · have : i = k := by omega
    subst this; exact hz
theorem Gd.le {es : List Ev} {j k : Nat} (h : Gd es k) (hj : j ≤ k) : Gd es j := fun i hi hij => h i hi (by omega)
theorem auR_from (es : List Ev) : ∀ k, k ≤ es.length → Gd es k → auR (es.drop k) (stA es k) k = auR es (0, -1) 0
  | 0, _, _ => rfl
  | k + 1, h, hg => by
      rw [← auR_from es k (by omega) (hg.le (by omega)), List.drop_eq_getElem_cons (by omega : k < es.length), auR, if_pos (hg k (by omega) (by omega)), stA_succ (by omega)]
theorem audR_stop {es : List Ev} {k : Nat} (hl : ¬ 1000 < es.length) (hg : Gd es k) (hk : k < es.length) (hz : ¬ wrN es[k] (stA es k).1 (stA es k).2 = 0) : audR es = (k, wrN es[k] (stA es k).1 (stA es k).2) := by
  unfold audR
  rw [if_neg hl, ← auR_from es k (by omega) hg, List.drop_eq_getElem_cons hk, auR, if_neg hz]
theorem audR_good {es : List Ev} (hl : ¬ 1000 < es.length) (hg : Gd es es.length) : audR es = (0, 0) := by
  unfold audR
  rw [if_neg hl, ← auR_from es es.length (Nat.le_refl _) hg, List.drop_length]; rfl
theorem auR_cases : ∀ (l : List Ev) (s : Int × Int) (i : Nat), (auR l s i).2 = 0 → (auR l s i).1 = 0
  | [], s, i, _ => rfl
  | e :: l, s, i, h => by
      rw [auR] at h ⊢
      split
      · rename_i h1; rw [if_pos h1] at h; exact auR_cases l _ _ h
      · rename_i h1; rw [if_neg h1] at h; exact absurd h h1
/-- Either all are right, or one is the first that is wrong. -/
theorem gd_or (es : List Ev) : Gd es es.length ∨ ∃ k, ∃ h : k < es.length, Gd es k ∧ ¬ wrN es[k] (stA es k).1 (stA es k).2 = 0 := by
  have : ∀ k, k ≤ es.length → Gd es k ∨ ∃ j, ∃ h : j < es.length, Gd es j ∧ ¬ wrN es[j] (stA es j).1 (stA es j).2 = 0 := by
    intro k
    induction k with
    | zero => exact fun _ => .inl (Gd.zero es)
    | succ k ih =>
      intro h
      rcases ih (by omega) with h1 | h1
      · by_cases hz : wrN es[k] (stA es k).1 (stA es k).2 = 0
        · exact .inl (h1.succ (by omega) hz)
        · exact .inr ⟨k, by omega, h1, hz⟩
      · exact .inr h1
  exact this _ (Nat.le_refl _)
theorem stA_take (es : List Ev) (m k : Nat) (h : k ≤ m) : stA (es.take m) k = stA es k := by
  unfold stA; rw [List.take_take, Nat.min_eq_left h]
theorem Gd.take {es : List Ev} {k : Nat} (h : Gd es k) (m : Nat) : Gd (es.take m) k := by
  intro i hi hik
  rw [List.length_take] at hi
  rw [stA_take es m i (by omega), List.getElem_take]
  exact h i (by omega) hik
theorem Gd.all {es : List Ev} {k : Nat} (h : Gd es es.length) : Gd es k := fun i hi _ => h i hi hi
/-- The first so many of right events are right. -/
theorem aud_take_good {es : List Ev} {m : Nat} (hl : ¬ 1000 < es.length) (h : (audR es).2 = 0 ∨ m ≤ (audR es).1) : audR (es.take m) = (0, 0) := by
  have hl' : ¬ 1000 < (es.take m).length := by rw [List.length_take]; omega
  rcases gd_or es with hg | ⟨k, hk, hg, hz⟩
  · exact audR_good hl' (hg.all.take m)
  · rw [audR_stop hl hg hk hz] at h
    simp only at h
    rcases h with h | h
    · exact absurd h hz
    · refine audR_good hl' ?_
      have := hg.take m
      exact this.le (by rw [List.length_take]; omega)
theorem aud_take_bad {es : List Ev} {m : Nat} (hl : ¬ 1000 < es.length) (h1 : ¬ (audR es).2 = 0) (h2 : ¬ m ≤ (audR es).1) : audR (es.take m) = audR es := by
  have hl' : ¬ 1000 < (es.take m).length := by rw [List.length_take]; omega
  rcases gd_or es with hg | ⟨k, hk, hg, hz⟩
  · rw [audR_good hl hg] at h1; exact absurd rfl h1
  · rw [audR_stop hl hg hk hz] at h2 ⊢
    simp only at h2
    have hk' : k < (es.take m).length := by rw [List.length_take]; omega
    have e := audR_stop hl' (hg.take m) hk' (by rw [stA_take es m k (by omega), List.getElem_take]; exact hz)
    rw [e, stA_take es m k (by omega), List.getElem_take]
theorem cnt_take (n : Int) (es : List Ev) (m : Nat) : cntE n (es.take m) ≤ cntE n es := (List.take_sublist m es).countP_le
theorem cnt_le (n : Int) (es : List Ev) : cntE n es ≤ es.length := List.countP_le_length
theorem cnt_succ (n : Int) {es : List Ev} {k : Nat} (h : k < es.length) : cntE n (es.take (k + 1)) = cntE n (es.take k) + if es[k].what = n then 1 else 0 := by
  unfold cntE
  rw [List.take_succ_eq_append_getElem h, List.countP_append]
  simp [List.countP_cons]
theorem wrN_what {e : Ev} {now m : Int} (h : wrN e now m = 0) : 0 ≤ e.time ∧ e.time ≤ 1000000 ∧ (e.node = 0 ∨ e.node = 1) ∧ 1 ≤ e.what ∧ e.what ≤ 4 ∧ now ≤ e.time := by
  unfold wrN at h
  split at h
  · cases h
  · rename_i h1
    split at h
    · cases h
    · rename_i h2
      simp only [evB, Bool.not_eq_false, decide_eq_true_eq] at h1
      obtain ⟨a, b, c, d, f⟩ := h1
      exact ⟨a, b, c, d, f, by omega⟩
end Go.Proofs.YtfgaalhaeadhmaaDoor
