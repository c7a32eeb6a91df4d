/- What the program's ParsePrefix returns (package addr), for every text. -/
import Derived.Test.YtkjjalaelehjeabDoorAddrParse
import Derived.Test.YtkjjalaelehjeabDoorAddrNum
import Derived.Test.YtkjjalaelehjeabDoorPairs
namespace Go.Proofs.YtkjjalaelehjeabDoor
open Go.RowKit
set_option linter.unusedVariables false

/-- The prefix of a text, or none. -/
def readP (l : List UInt8) : Int × Int × Bool :=
  if l = [97, 110, 121] then (0, 0, true) else
  if parseL 4 0 (splitC 47 l).1 < 0 then (0, 0, false) else
  if (splitC 47 l).2.2 = false then (parseL 4 0 (splitC 47 l).1, 32, true) else
  if numOK (wholeL (splitC 47 l).2.1 3) 32 = true ∧ wholeL (splitC 47 l).2.1 3 ≠ 0 ∧ prefE (parseL 4 0 (splitC 47 l).1) (wholeL (splitC 47 l).2.1 3) = 0 then (parseL 4 0 (splitC 47 l).1, wholeL (splitC 47 l).2.1 3, true) else (0, 0, false)
def prefR (t : Int × Int × Bool) : Value := if t.2.2 = true then .tuple #[.agg #[.int .i64 t.1, .int .i64 t.2.1], .nilIface] else .tuple #[.agg #[.int .i64 0, .int .i64 0], .iface 46 (.int .i64 2)]
theorem prefR_ok (a l : Int) : prefR (a, l, true) = .tuple #[.agg #[.int .i64 a, .int .i64 l], .nilIface] := rfl
theorem prefR_bad : prefR (0, 0, false) = .tuple #[.agg #[.int .i64 0, .int .i64 0], .iface 46 (.int .i64 2)] := rfl
theorem parse_good (l0 : List UInt8) (w : World) (hs : l0.length ≤ 9223372036854775807) (h : 0 ≤ parseL 4 0 l0) :
    Calls Tryd.prog 13 #[.string (mkB l0)] w fun e w' => e = .returned (.tuple #[.int .i64 (parseL 4 0 l0), .nilIface]) ∧ Drew w w' := by
  have := parse_any l0 w hs
  rw [parR_ok h] at this; exact this
theorem parse_evil (l0 : List UInt8) (w : World) (hs : l0.length ≤ 9223372036854775807) (h : parseL 4 0 l0 < 0) :
    Calls Tryd.prog 13 #[.string (mkB l0)] w fun e w' => e = .returned (.tuple #[.int .i64 0, .iface 46 (.int .i64 2)]) ∧ Drew w w' := by
  have := parse_any l0 w hs
  unfold parR at this
  rw [if_neg (by omega)] at this; exact this
theorem any_ne {l : List UInt8} (h : ¬ l = [97, 110, 121]) : ((mkB l).toList == [97, 110, 121]) = false := by
  rw [ByteArray.toList_eq, mkB_toList]; simpa using h

set_option maxHeartbeats 2000000 in
theorem parsePrefix_any (l : List UInt8) (w : World) (hs : l.length ≤ 9223372036854775807) :
    Calls Tryd.prog 11 #[.string (mkB l)] w fun e w' => e = .returned (prefR (readP l)) ∧ Below w.heap.size w w' := by
  by_cases h0 : l = [97, 110, 121]
  · have hany : ((mkB l).toList == [97, 110, 121]) = true := by rw [h0, ByteArray.toList_eq, mkB_toList]; rfl
    have HR : Hid (prefR (readP l) = .tuple #[.agg #[.int .i64 0, .int .i64 0], .nilIface]) := by show prefR (readP l) = _; rw [h0]; rfl
    clear h0
    go_enter Tryd.func11, Tryd.ntmps11
    go_wp2
    exact bodyPost_ret (v := .tuple #[.agg #[.int .i64 0, .int .i64 0], .nilIface]) (by simp [results, Tryd.results11, go_sem]) rfl ⟨ret_any HR.out.symm, by repeat (first | exact Below.refl _ _ | refine Below.setCell ?_ (by simp) _ | refine below_drewN ?_ _ | refine Below.drew ?_ | refine Below.alloc ?_ (by simp) _)⟩
  have hany := any_ne h0
  have hc := fun w => strCut_mk l 47 w hs
  have hsl := splitC_len 47 l
  have hE : readP l = (if parseL 4 0 (splitC 47 l).1 < 0 then (0, 0, false) else
    if (splitC 47 l).2.2 = false then (parseL 4 0 (splitC 47 l).1, 32, true) else
    if numOK (wholeL (splitC 47 l).2.1 3) 32 = true ∧ wholeL (splitC 47 l).2.1 3 ≠ 0 ∧ prefE (parseL 4 0 (splitC 47 l).1) (wholeL (splitC 47 l).2.1 3) = 0 then (parseL 4 0 (splitC 47 l).1, wholeL (splitC 47 l).2.1 3, true) else (0, 0, false)) := by
    unfold readP; rw [if_neg h0]
  generalize readP l = R at hE ⊢
  generalize splitC 47 l = t at hc hsl hE
  obtain ⟨hd, tl, sl⟩ := t
  simp only at hc hsl hE
  clear h0
  by_cases h1 : parseL 4 0 hd < 0
  · rw [if_pos h1] at hE
    have HR : Hid (prefR R = .tuple #[.agg #[.int .i64 0, .int .i64 0], .iface 46 (.int .i64 2)]) := by show prefR R = _; rw [hE]; exact prefR_bad
    have hp := fun w => parse_evil hd w (by omega) h1
    clear hE h1
    go_enter Tryd.func11, Tryd.ntmps11
    go_wp2_with (first
      | (go_at_call 20; refine (hc _).mono ?_; rintro e w1 ⟨rfl, n1, rfl⟩)
      | (go_at_call 13; refine (hp _).mono ?_; rintro e w2 ⟨rfl, n2, rfl⟩))
    exact bodyPost_ret (v := .tuple #[.agg #[.int .i64 0, .int .i64 0], .iface 46 (.int .i64 2)]) (by simp [results, Tryd.results11, go_sem]) rfl ⟨ret_any HR.out.symm, by repeat (first | exact Below.refl _ _ | refine Below.setCell ?_ (by simp) _ | refine below_drewN ?_ _ | refine Below.drew ?_ | refine Below.alloc ?_ (by simp) _)⟩
  rw [if_neg h1] at hE
  have hp := fun w => parse_good hd w (by omega) (by omega)
  generalize parseL 4 0 hd = a at hp hE h1
  cases sl
  · rw [if_pos rfl] at hE
    have HR : Hid (prefR R = .tuple #[.agg #[.int .i64 a, .int .i64 32], .nilIface]) := by show prefR R = _; rw [hE]; exact prefR_ok _ _
    clear hE
    go_enter Tryd.func11, Tryd.ntmps11
    go_wp2_with (first
      | (go_at_call 20; refine (hc _).mono ?_; rintro e w1 ⟨rfl, n1, rfl⟩)
      | (go_at_call 13; refine (hp _).mono ?_; rintro e w2 ⟨rfl, n2, rfl⟩))
    exact bodyPost_ret (v := .tuple #[.agg #[.int .i64 a, .int .i64 32], .nilIface]) (by simp [results, Tryd.results11, go_sem]) rfl ⟨ret_any HR.out.symm, by repeat (first | exact Below.refl _ _ | refine Below.setCell ?_ (by simp) _ | refine below_drewN ?_ _ | refine Below.drew ?_ | refine Below.alloc ?_ (by simp) _)⟩
  · rw [if_neg (by simp)] at hE
    have hn := fun w => number_mk tl 32 w (by omega)
    generalize wholeL tl 3 = y at hn hE
    rcases hok : numOK y 32 with _ | _
    · rw [if_neg (by simp [hok])] at hE
      have HR : Hid (prefR R = .tuple #[.agg #[.int .i64 0, .int .i64 0], .iface 46 (.int .i64 2)]) := by show prefR R = _; rw [hE]; exact prefR_bad
      rw [hok] at hn
      clear hE hok
      go_enter Tryd.func11, Tryd.ntmps11
      go_wp2_with (first
        | (go_at_call 20; refine (hc _).mono ?_; rintro e w1 ⟨rfl, n1, rfl⟩)
        | (go_at_call 13; refine (hp _).mono ?_; rintro e w2 ⟨rfl, n2, rfl⟩)
        | (go_at_call 21; refine (hn _).mono ?_; rintro e w3 ⟨rfl, rfl⟩))
      exact bodyPost_ret (v := .tuple #[.agg #[.int .i64 0, .int .i64 0], .iface 46 (.int .i64 2)]) (by simp [results, Tryd.results11, go_sem]) rfl ⟨ret_any HR.out.symm, by repeat (first | exact Below.refl _ _ | refine Below.setCell ?_ (by simp) _ | refine below_drewN ?_ _ | refine Below.drew ?_ | refine Below.alloc ?_ (by simp) _)⟩
    · have hy : 0 ≤ y ∧ y ≤ 32 := by simpa [numOK] using hok
      have hnv : numV y 32 = y := by unfold numV; rw [if_pos hy]
      rw [hok, hnv] at hn
      rcases hyz : (y == 0) with _ | _
      · have hyn : y ≠ 0 := by simpa using hyz
        by_cases hpe : prefE a y = 0
        · rw [if_pos ⟨hok, hyn, hpe⟩] at hE
          have HR : Hid (prefR R = .tuple #[.agg #[.int .i64 a, .int .i64 y], .nilIface]) := by show prefR R = _; rw [hE]; exact prefR_ok _ _
          have hck := fun w => check_ok a y w hpe
          clear hE hok hnv hpe hyn
          go_enter Tryd.func11, Tryd.ntmps11
          go_wp2_with (first
            | (go_at_call 20; refine (hc _).mono ?_; rintro e w1 ⟨rfl, n1, rfl⟩)
            | (go_at_call 13; refine (hp _).mono ?_; rintro e w2 ⟨rfl, n2, rfl⟩)
            | (go_at_call 21; refine (hn _).mono ?_; rintro e w3 ⟨rfl, rfl⟩)
            | (go_at_call 8; refine (hck _).mono ?_; rintro e w4 ⟨rfl, hb4⟩; obtain ⟨q0, q1, q2, q3⟩ := PairAt.keep (B := w.heap.size) (x := 0) (y := 0) hb4 ⟨by simp [go_sem], by simp [go_sem], by simp [go_sem], by simp [go_sem]⟩; obtain ⟨r0, r1, r2, r3⟩ := PairAt.keep (B := w.heap.size + 1) (x := a) (y := y) hb4 ⟨by simp [go_sem], by simp [go_sem], by simp [go_sem], by simp [go_sem]⟩))
          have bw4 : Below w.heap.size w w4 := by
            refine Below.trans ?_ (hb4.mono ?_)
            · repeat (first | exact Below.refl _ _ | refine Below.setCell ?_ (by simp) _ | refine below_drewN ?_ _ | refine Below.drew ?_ | refine Below.alloc ?_ (by simp) _)
            · simp; omega
          exact bodyPost_ret (v := .tuple #[.agg #[.int .i64 a, .int .i64 y], .nilIface]) (by simp [results, Tryd.results11, go_sem, q0, q1]) rfl ⟨ret_any HR.out.symm, (bw4.setCell (by simp) _).setCell (by simp) _⟩
        · rw [if_neg (fun h => hpe h.2.2)] at hE
          have HR : Hid (prefR R = .tuple #[.agg #[.int .i64 0, .int .i64 0], .iface 46 (.int .i64 2)]) := by show prefR R = _; rw [hE]; exact prefR_bad
          have hck := fun w => check_bad a y w hpe
          clear hE hok hnv hpe hyn
          go_enter Tryd.func11, Tryd.ntmps11
          go_wp2_with (first
            | (go_at_call 20; refine (hc _).mono ?_; rintro e w1 ⟨rfl, n1, rfl⟩)
            | (go_at_call 13; refine (hp _).mono ?_; rintro e w2 ⟨rfl, n2, rfl⟩)
            | (go_at_call 21; refine (hn _).mono ?_; rintro e w3 ⟨rfl, rfl⟩)
            | (go_at_call 8; refine (hck _).mono ?_; rintro e w4 ⟨rfl, hb4⟩; obtain ⟨q0, q1, q2, q3⟩ := PairAt.keep (B := w.heap.size) (x := 0) (y := 0) hb4 ⟨by simp [go_sem], by simp [go_sem], by simp [go_sem], by simp [go_sem]⟩; obtain ⟨r0, r1, r2, r3⟩ := PairAt.keep (B := w.heap.size + 1) (x := a) (y := y) hb4 ⟨by simp [go_sem], by simp [go_sem], by simp [go_sem], by simp [go_sem]⟩))
          have bw4 : Below w.heap.size w w4 := by
            refine Below.trans ?_ (hb4.mono ?_)
            · repeat (first | exact Below.refl _ _ | refine Below.setCell ?_ (by simp) _ | refine below_drewN ?_ _ | refine Below.drew ?_ | refine Below.alloc ?_ (by simp) _)
            · simp; omega
          exact bodyPost_ret (v := .tuple #[.agg #[.int .i64 0, .int .i64 0], .iface 46 (.int .i64 2)]) (by simp [results, Tryd.results11, go_sem, q0, q1]) rfl ⟨ret_any HR.out.symm, (bw4.setCell (by simp) _).setCell (by simp) _⟩
      · rw [if_neg (fun h => h.2.1 (by simpa using hyz))] at hE
        have HR : Hid (prefR R = .tuple #[.agg #[.int .i64 0, .int .i64 0], .iface 46 (.int .i64 2)]) := by show prefR R = _; rw [hE]; exact prefR_bad
        clear hE hok hnv
        go_enter Tryd.func11, Tryd.ntmps11
        go_wp2_with (first
          | (go_at_call 20; refine (hc _).mono ?_; rintro e w1 ⟨rfl, n1, rfl⟩)
          | (go_at_call 13; refine (hp _).mono ?_; rintro e w2 ⟨rfl, n2, rfl⟩)
          | (go_at_call 21; refine (hn _).mono ?_; rintro e w3 ⟨rfl, rfl⟩))
        exact bodyPost_ret (v := .tuple #[.agg #[.int .i64 0, .int .i64 0], .iface 46 (.int .i64 2)]) (by simp [results, Tryd.results11, go_sem]) rfl ⟨ret_any HR.out.symm, by repeat (first | exact Below.refl _ _ | refine Below.setCell ?_ (by simp) _ | refine below_drewN ?_ _ | refine Below.drew ?_ | refine Below.alloc ?_ (by simp) _)⟩
end Go.Proofs.YtkjjalaelehjeabDoor
