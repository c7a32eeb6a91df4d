/- Rules as text, the plain facts: what may be written ('Writ'); how long a line is; what is read loosely of a line ('looseR'): of a line that was written just the rule. -/
import Derived.Test.YtlpgppjdmjcooaaGreatDoorMgJ
import Derived.Test.YtlpgppjdmjcooaaGreatDoorRuleChk2
import Derived.Test.YtlpgppjdmjcooaaGreatDoorSpnTM
import Derived.Test.YtlpgppjdmjcooaaGreatDoorBackText
import Derived.Lib.Strings
namespace Go.Proofs.YtlpgppjdmjcooaaGreatDoor
set_option linter.unusedVariables false

structure Writ (r : Rl) : Prop where
  w0 : 0 ≤ r.way
  w2 : r.way ≤ 2
  k0 : 0 ≤ r.kind
  k3 : r.kind ≤ 3
  src : prefE r.sa r.sl = 0
  dst : prefE r.da r.dl = 0
  fr : Nrm r.fr
  frl : r.fr.length ≤ 200
  tl : Nrm r.tl
  tll : r.tl.length ≤ 200
theorem setP_nrm {l : List Sp} (h : Nrm l) : setP (inB l) = l := nrm_unique _ _ (setP_is _).1 h (fun n => setP_in h.1 n)
theorem Writ.s1 {r : Rl} (h : Writ r) : spE r.fr = 0 := spE_ok h.frl h.fr.1
theorem Writ.s2 {r : Rl} (h : Writ r) : spE r.tl = 0 := spE_ok h.tll h.tl.1
theorem writ_of {r : Rl} (h : ruE r = 0) : Writ r := by
  unfold ruE at h
  split at h
  · cases h
  rename_i h1
  split at h
  · rename_i h2; exact absurd h h2
  rename_i h2
  split at h
  · cases h
  split at h
  · rename_i h4; exact absurd h h4
  rename_i h4
  split at h
  · cases h
  rename_i h5
  have h2' : twoE (prefE r.sa r.sl) (prefE r.da r.dl) = 0 := Classical.byContradiction h2
  have h4' : twoE (spE r.fr) (spE r.tl) = 0 := Classical.byContradiction h4
  rw [twoE_zero] at h2' h4'
  have hw : wayE r = false := by simpa using h1
  unfold wayE at hw
  simp only [Bool.or_eq_false_iff, decide_eq_false_iff_not] at hw
  have t1 : tidyB r.fr = true := by
    rcases ht : tidyB r.fr with _ | _
    · exact absurd (.inl (by unfold badP; rw [ht]; simp)) h5
    · rfl
  have t2 : tidyB r.tl = true := by
    rcases ht : tidyB r.tl with _ | _
    · exact absurd (.inr (.inl (by unfold badP; rw [ht]; simp))) h5
    · rfl
  have o1 := of_spE h4'.1
  have o2 := of_spE h4'.2
  exact ⟨by omega, by omega, by omega, by omega, h2'.1, h2'.2, (tidy_nrm o1.2).1 t1, o1.1, (tidy_nrm o2.2).1 t2, o2.1⟩
theorem printL_nrm {l : List Sp} (h : Nrm l) : printL l = textL l := by unfold printL; rw [setP_nrm h]
theorem textL_len {l : List Sp} (h : OkS l) (hl : l.length ≤ 200) : (textL l).length ≤ 40000200 := by
  unfold textL
  split
  · simp
  · have := join_len (l.map wordL) 200000 (fun x hx => by
      obtain ⟨s, hs, rfl⟩ := List.mem_map.1 hx
      have := h s hs
      exact wordL_len this.1 this.2.1 this.2.2)
    rw [List.length_map] at this
    have h2 : l.length * (200000 + 1) ≤ 200 * (200000 + 1) := Nat.mul_le_mul_right _ hl
    omega
theorem showPref_len {a l : Int} (h : prefE a l = 0) : (showPrefL a l).length ≤ 3000 := by
  obtain ⟨_, ⟨h2, h3⟩, _⟩ := prefE_zero h
  unfold showPrefL
  split
  · simp
  · have := showL_short a
    have h4 := digL_len l.toNat
    simp only [List.length_append, List.length_cons, List.length_nil]
    omega
theorem portsL_len {l : List Sp} (h : Nrm l) (hl : l.length ≤ 200) : (portsL l).length ≤ 40000300 := by
  unfold portsL
  split
  · simp
  · rw [printL_nrm h, List.length_append]
    have := textL_len h.1 hl
    have : portL.length = 6 := rfl
    omega
theorem lineL_len {r : Rl} (h : Writ r) : (lineL r).length ≤ 100000000 := by
  have e1 : (headL r).length ≤ 5 := by unfold headL; split <;> simp
  have e2 : (quickL r).length ≤ 6 := by unfold quickL; split <;> simp
  have e3 : (keepL r).length ≤ 5 := by unfold keepL; split <;> simp
  have e4 : (wayL r.way).length ≤ 4 := by unfold wayL; split <;> (try split) <;> simp
  have e5 : (kindL r.kind).length ≤ 12 := by unfold kindL; split <;> (try split) <;> (try split) <;> simp
  have e6 := showPref_len h.src
  have e7 := showPref_len h.dst
  have e8 := portsL_len h.fr h.frl
  have e9 := portsL_len h.tl h.tll
  have f1 : fromL.length = 6 := rfl
  have f2 : toL.length = 4 := rfl
  unfold lineL bothL sideL
  simp only [List.length_append]
  omega
/-- The rules' lines. -/
def linesL (rs : List Rl) : List UInt8 := rs.flatMap fun r => lineL r ++ [10]
theorem linesL_cons (r : Rl) (rs : List Rl) : linesL (r :: rs) = lineL r ++ [10] ++ linesL rs := by simp [linesL]
theorem linesL_append (a b : List Rl) : linesL (a ++ b) = linesL a ++ linesL b := by simp [linesL]
theorem linesL_len : ∀ (rs : List Rl), (∀ r ∈ rs, Writ r) → (linesL rs).length ≤ rs.length * 100000001
  | [], _ => by simp [linesL]
  | r :: rs, h => by
      have ih := linesL_len rs (fun x hx => h x (List.mem_cons_of_mem _ hx))
      have := lineL_len (h r List.mem_cons_self)
      rw [linesL_cons]
      simp only [List.length_append, List.length_cons, List.length_nil]
      omega
end Go.Proofs.YtlpgppjdmjcooaaGreatDoor
