/- What portsame.Prefixes returns of two slices of pairs: whether they hold the same pairs. -/
import Derived.Test.YtkjjalaelehjeabDoorPrefs
import Derived.Test.YtkjjalaelehjeabDoorSameW
import Derived.Test.YtkjjalaelehjeabDoorOwnP
import Derived.Test.YtkjjalaelehjeabDoorEqP
import Derived.Deep.QuietTactic
import Derived.BigQuiet
namespace Go.Proofs.YtkjjalaelehjeabDoor
open Go.RowKit
set_option linter.unusedVariables false

theorem OwnP.prefs {w : World} {base : Nat} {v : Value} {ps : List (Int × Int)} (h : OwnP w base v ps) (hw : ∀ p ∈ ps, (Lit.int .i64 p.1).wf = true ∧ (Lit.int .i64 p.2).wf = true) : Prefs w v ps := by
  rcases Nat.eq_zero_or_pos ps.length with h0 | h0
  · have hz : ps = [] := List.length_eq_zero_iff.1 h0
    subst hz
    obtain ⟨_, h2⟩ := h
    rcases h2 with ⟨rfl, _⟩ | ⟨g, cap, cur, rfl, _⟩
    · exact .inl ⟨rfl, _, _, rfl, fun _ => rfl⟩
    · exact .inl ⟨rfl, _, _, rfl, fun h => by cases h⟩
  · have hh := h
    obtain ⟨h1, h2⟩ := h
    rcases h2 with ⟨_, h0'⟩ | ⟨g, cap, cur, rfl, hb, hg, hl, hm, _⟩
    · omega
    · refine .inr ⟨g, 0, ps.length, cap, rfl, hl, hm, rfl, fun i hi => ?_, hw⟩
      have pc : ∀ (qs : List (Int × Int)) (i : Nat), i < qs.length → (pairCells qs)[i * 2]? = some (.int .i64 (qs.getD i (0, 0)).1) ∧ (pairCells qs)[i * 2 + 1]? = some (.int .i64 (qs.getD i (0, 0)).2) := by
        intro qs
        induction qs with
        | nil => intro i hi; simp at hi
        | cons q r ih =>
          intro i hi
          have e : pairCells (q :: r) = .int .i64 q.1 :: .int .i64 q.2 :: pairCells r := by simp [pairCells]
          rw [e]
          cases i with
          | zero => simp [List.getD]
          | succ i =>
            have := ih i (by simpa using hi)
            have e1 : (i + 1) * 2 = i * 2 + 1 + 1 := by omega
            rw [e1]
            simpa [List.getD] using this
      have hp := pc ps i hi
      have c0 := World.ownsRow.cellAt hh (i * 2) (by omega)
      have c1 := World.ownsRow.cellAt hh (i * 2 + 1) (by omega)
      rw [Nat.zero_add]
      exact ⟨by rw [c0]; exact hp.1, by rw [c1]; exact hp.2⟩

theorem take_same {ps qs : List (Int × Int)} {k : Nat} (hl : ps.length = qs.length) (hk : k < ps.length) (h : ps.take k = qs.take k) (he : ps.getD k (0, 0) = qs.getD k (0, 0)) : ps.take (k + 1) = qs.take (k + 1) := by
  rw [List.take_succ_eq_append_getElem hk, List.take_succ_eq_append_getElem (by omega : k < qs.length), h]
  congr 2
  simpa [List.getD, hk, (by omega : k < qs.length)] using he
theorem not_same {ps qs : List (Int × Int)} {k : Nat} (he : ¬ ps.getD k (0, 0) = qs.getD k (0, 0)) : ¬ ps = qs := fun h => he (by rw [h])

theorem ret_bool {a b : Bool} (h : a = b) : Ending.returned (.bool a) = .returned (.bool b) := by rw [h]
set_option maxRecDepth 100000 in
set_option maxHeartbeats 1000000 in
theorem prefixes_any (ao bo : Option Addr) (l1 c1 l2 c2 : Nat) (ps qs : List (Int × Int)) (w : World) (hv : Prefs w (.slice ao l1 c1) ps) (hu : Prefs w (.slice bo l2 c2) qs) (hp : ps.length ≤ 4611686018427387904) :
    Calls Tryd.prog 10 #[.slice ao l1 c1, .slice bo l2 c2] w fun e w' => e = .returned (.bool (decide (ps = qs))) ∧ SameW w w' := by
  have e1 := hv.len
  have e2 := hu.len
  have hg := Tryd.prefGuard
  have hh := Tryd.prefHeld
  by_cases hl : ps.length = qs.length
  · have hl1 : l1 ≤ ps.length := by omega
    have hl2 : ps.length ≤ l1 := by omega
    have hl3 : l2 ≤ l1 := by omega
    have hl4 : l1 ≤ l2 := by omega
    have HL : Hid (ps.length = qs.length) := hl
    have hq : ((l1 : Int) != (l2 : Int)) = false := by simp; omega
    clear e1 e2 hl
    go_enter Tryd.func10, Tryd.ntmps10
    go_wp2
    go_loopw [5] (fun si ww => ∃ k : Nat, k ≤ ps.length ∧ si = .int .i64 k ∧ SameW w ww ∧ Hid (ps.take k = qs.take k)) (fun si _ => ps.length - (intOf si).toNat)
    case atStart => exact ⟨0, by omega, rfl, SameW.refl _, by show _ = _; simp⟩
    case round =>
      obtain ⟨k, hk, rfl, hs, hT⟩ := hrel
      by_cases hkl : k < ps.length
      · obtain ⟨b1, off1, rfl, cs1⟩ := hv.cells (by omega)
        obtain ⟨b2, off2, rfl, cs2⟩ := hu.cells (by have := HL.out; omega)
        obtain ⟨x1, x2⟩ := cs1 k hkl
        obtain ⟨y1, y2⟩ := cs2 k (by have := HL.out; omega)
        obtain ⟨n, rfl⟩ := hs
        have hk1 : (k : Int) < (l1 : Int) := by omega
        have hk2 : (k : Int) < (l2 : Int) := by omega
        have HT2 : Hid (ps.getD k (0, 0) = qs.getD k (0, 0) → ps.take (k + 1) = qs.take (k + 1)) := fun h => take_same HL.out hkl hT.out h
        have HN : Hid (¬ ps.getD k (0, 0) = qs.getD k (0, 0) → ¬ ps = qs) := not_same
        obtain ⟨a, ha⟩ : ∃ z, z = ps.getD k (0, 0) := ⟨_, rfl⟩
        obtain ⟨b, hb⟩ : ∃ z, z = qs.getD k (0, 0) := ⟨_, rfl⟩
        rw [← ha] at x1 x2 HT2 HN
        rw [← hb] at y1 y2 HT2 HN
        obtain ⟨a1, a2⟩ := a
        obtain ⟨b1', b2'⟩ := b
        simp only at x1 x2 y1 y2
        clear ha hb cs1 cs2 hT
        by_cases he : a1 = b1' ∧ a2 = b2'
        · have HT : Hid (ps.take (k + 1) = qs.take (k + 1)) := HT2.out (by rw [he.1, he.2])
          have hneq := fun ww => Tryd.prefNeq a1 a2 b1' b2' ww
          have hb : (!(a1 == b1' && a2 == b2')) = false := by simp [he.1, he.2]
          rw [hb] at hneq
          clear HT2 HN he hb
          go_wp2_with fail
          go_quiet (fail)
          go_wp2_with fail
          go_roundw
          case rel => exact ⟨k + 1, by omega, by go_num, (⟨_, rfl⟩ : SameW _ _), HT⟩
          case measure => simp [intOf]; omega
        · have hno := HN.out (fun h => he ⟨congrArg Prod.fst h, congrArg Prod.snd h⟩)
          have HF : Hid (decide (ps = qs) = false) := decide_eq_false hno
          have hneq := fun ww => Tryd.prefNeq a1 a2 b1' b2' ww
          have hb : (!(a1 == b1' && a2 == b2')) = true := by
            cases hx : (a1 == b1' && a2 == b2') with
            | false => rfl
            | true => simp at hx; exact absurd hx he
          rw [hb] at hneq
          clear HT2 HN he hb hno
          go_wp2_with fail
          go_quiet (fail)
          go_wp2_with fail
          go_ret
          exact ⟨ret_bool HF.out.symm, SameW.drewN ⟨n, rfl⟩ _⟩
      · have hT' := hT.out
        have HF : Hid (decide (ps = qs) = true) := by
          show decide (ps = qs) = true
          rw [List.take_of_length_le (by omega), List.take_of_length_le (by have := HL.out; omega)] at hT'
          exact decide_eq_true hT'
        have hge : (l1 : Int) ≤ (k : Int) := by omega
        clear hT hT' hkl
        go_wp2_with fail
        go_ret
        exact ⟨ret_bool HF.out.symm, hs⟩
  · have hq : ((l1 : Int) != (l2 : Int)) = true := by simp; omega
    have HF : Hid (decide (ps = qs) = false) := decide_eq_false (fun h => hl (by rw [h]))
    clear e1 e2 hl
    go_enter Tryd.func10, Tryd.ntmps10
    go_wp2
    go_ret
    exact ⟨ret_bool HF.out.symm, SameW.refl _⟩
end Go.Proofs.YtkjjalaelehjeabDoor
