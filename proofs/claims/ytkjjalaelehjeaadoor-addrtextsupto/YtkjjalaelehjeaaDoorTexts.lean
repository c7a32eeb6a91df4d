/- The walk of the law AddrTexts (package portlaw1): for every number, prefix and text it returns true, and what lay in memory stays. Conditions: the text is not longer than 1048576 bytes; the package variables hold what their texts lay. -/
import Derived.Test.YtkjjalaelehjeaaDoorTextsMath
import Derived.Test.YtkjjalaelehjeaaDoorAddrPrintP
import Derived.Test.YtkjjalaelehjeaaDoorTold
import Derived.Test.YtkjjalaelehjeaaDoorEqP
namespace Go.Proofs.YtkjjalaelehjeaaDoor
open Go.RowKit
set_option linter.unusedVariables false

/-- A pair that was boxed at the end of w's heap lies there still; the package variables too. -/
def Px (w : World) (x y : Int) (w1 : World) : Prop :=
  w1.cell? ⟨w.heap.size, 0, none⟩ = some (.int .i64 x) ∧ w1.cell? ⟨w.heap.size, 1, none⟩ = some (.int .i64 y) ∧ Below w.heap.size w w1 ∧ w.heap.size < w1.heap.size ∧ ErrLaid w1 ∧ Tab w1
theorem Px.first {w : World} {x y : Int} {t : TypeId} (hg : ErrLaid w) (ht : Tab w) : Px w x y (w.alloc (.cells #[.int .i64 x, .int .i64 y] t)) := by
  obtain ⟨c0, c1, b1, z1⟩ := boxed (Below.refl (w.alloc (.cells #[.int .i64 x, .int .i64 y] t)).heap.size (w.alloc (.cells #[.int .i64 x, .int .i64 y] t)))
  exact ⟨c0, c1, b1, z1, hg.below b1, ht.below b1⟩
theorem Px.step {w w1 w2 : World} {x y : Int} (h : Px w x y w1) (hb : Below w1.heap.size w1 w2) : Px w x y w2 := by
  obtain ⟨c0, c1, b1, z1, hg, ht⟩ := h
  have := hb.size
  exact ⟨(hb.cell (p := ⟨w.heap.size, 0, none⟩) z1).trans c0, (hb.cell (p := ⟨w.heap.size, 1, none⟩) z1).trans c1, b1.trans (hb.mono (by omega)), by omega, hg.below hb, ht.below hb⟩
theorem Px.same {w w1 w2 : World} {x y : Int} (h : Px w x y w1) (e : w2 = w1) : Px w x y w2 := e ▸ h

/-- What Print and the reference say of a number. -/
theorem print_both (a : Int) : ∃ (e : Int) (t : List UInt8) (v : Value), ErrVal v e ∧ (∀ w, Tab w → Calls Tryd.prog 17 #[.int .i64 a] w fun z w' => z = .returned (.tuple #[.string (mkB t), v]) ∧ Below w.heap.size w w') ∧ (isAddr a = true → e = 0 ∧ t = showL a) ∧ (isAddr a = false → e = 1 ∧ t = []) := by
  rcases h : isAddr a with _ | _
  · exact ⟨1, [], _, .inr rfl, fun w _ => print_bad a w h, fun h => by simp at h, fun _ => ⟨rfl, rfl⟩⟩
  · exact ⟨0, showL a, _, .inl ⟨rfl, rfl⟩, fun w ht => print_ok a w h ht, fun _ => ⟨rfl, rfl⟩, fun h => by simp at h⟩
theorem parse_both (s : ByteArray) (hs : s.size ≤ 1048576) : ∃ (e n : Int) (v : Value), ErrVal v e ∧ (∀ w, Calls Tryd.prog 19 #[.string s] w fun z w' => z = .returned (.tuple #[.int .i64 n, v]) ∧ Below w.heap.size w w') ∧ (readAddrL s.data.toList < 0 → e = 2 ∧ n = 0) ∧ (0 ≤ readAddrL s.data.toList → e = 0 ∧ n = readAddrL s.data.toList) := by
  have hp : ∀ w, Calls Tryd.prog 19 #[.string s] w fun z w' => z = .returned (parR (readAddrL s.data.toList)) ∧ Below w.heap.size w w' := by
    intro w
    have := parse_any s.data.toList w (by rw [size_list]; omega)
    rw [mkB_data, parse_read] at this
    exact this.mono fun e w' h => ⟨h.1, h.2.below _⟩
  by_cases h : readAddrL s.data.toList < 0
  · have e : parR (readAddrL s.data.toList) = .tuple #[.int .i64 0, .iface 62 (.int .i64 2)] := by unfold parR; rw [if_neg (by omega)]
    rw [e] at hp
    exact ⟨2, 0, _, .inr rfl, hp, fun _ => ⟨rfl, rfl⟩, fun h' => by omega⟩
  · have e : parR (readAddrL s.data.toList) = .tuple #[.int .i64 (readAddrL s.data.toList), .nilIface] := parR_ok (by omega)
    rw [e] at hp
    exact ⟨0, _, _, .inl ⟨rfl, rfl⟩, hp, fun h' => absurd h' h, fun _ => ⟨rfl, rfl⟩⟩
theorem prefix_both (x y : Int) : ∃ (t : List UInt8) (v : Value), ErrVal v (prefE x y) ∧ (∀ w, Calls Tryd.prog 22 #[.agg #[.int .i64 x, .int .i64 y]] w fun z w' => z = .returned v ∧ Below w.heap.size w w') ∧ (∀ w, Tab w → Calls Tryd.prog 23 #[.agg #[.int .i64 x, .int .i64 y]] w fun z w' => z = .returned (.tuple #[.string (mkB t), v]) ∧ Below w.heap.size w w') ∧ (prefE x y = 0 → t = showPrefL x y) ∧ (¬ prefE x y = 0 → t = []) := by
  by_cases h : prefE x y = 0
  · exact ⟨showPrefL x y, _, .inl ⟨rfl, h⟩, fun w => check_ok x y w h, fun w ht => printPrefix_ok x y w h ht, fun _ => rfl, fun h' => absurd h h'⟩
  · exact ⟨[], _, .inr rfl, fun w => check_bad x y w h, fun w _ => printPrefix_bad x y w h, fun h' => absurd h' h, fun _ => rfl⟩
theorem read_both (s : ByteArray) (hs : s.size ≤ 1048576) : ∃ (e x y : Int) (b : Bool) (v : Value), ErrVal v e ∧ (∀ w, Calls Tryd.prog 25 #[.string s] w fun z w' => z = .returned (.tuple #[.agg #[.int .i64 x, .int .i64 y], v]) ∧ Below w.heap.size w w') ∧ (∀ w, Calls Tryd.prog 24 #[.string s] w fun z w' => z = .returned (.tuple #[.agg #[.int .i64 x, .int .i64 y], .bool b]) ∧ Below w.heap.size w w') ∧ (b = true → e = 0) ∧ (b = false → e = 2) := by
  have hp := fun w => parsePrefix_any s.data.toList w (by rw [size_list]; omega)
  have hr := fun w => readPrefix_any s w hs
  rw [mkB_data, read_eq] at hp
  have hz : readPrefL s.data.toList = (0, 0, false) ∨ (readPrefL s.data.toList).2.2 = true := by
    unfold readPrefL
    split
    · exact .inr rfl
    · simp only
      generalize (if (cutL 47 s.data.toList).length = 2 then wholeL ((cutL 47 s.data.toList).getD 1 []) 2 else (32 : Int)) = L
      split
      · exact .inl rfl
      · exact .inr rfl
  rcases hz with h | h
  · rw [h] at hp hr
    exact ⟨2, 0, 0, false, _, .inr rfl, hp, hr, fun h => by simp at h, fun _ => rfl⟩
  · have e : prefR (readPrefL s.data.toList) = .tuple #[.agg #[.int .i64 (readPrefL s.data.toList).1, .int .i64 (readPrefL s.data.toList).2.1], .nilIface] := by unfold prefR; rw [if_pos h]
    rw [e] at hp
    rw [h] at hr
    exact ⟨0, _, _, true, _, .inl ⟨rfl, rfl⟩, hp, hr, fun _ => rfl, fun h => by simp at h⟩

set_option maxRecDepth 100000 in
set_option maxHeartbeats 4000000 in
theorem texts_walk (a x y : Int) (s : ByteArray) (w : World) (wa : (Lit.int .i64 a).wf = true) (wx : (Lit.int .i64 x).wf = true) (wy : (Lit.int .i64 y).wf = true) (hs : s.size ≤ 1048576) (hg : ErrLaid w) (ht : Tab w) :
    Calls Tryd.prog 4 #[.int .i64 a, .agg #[.int .i64 x, .int .i64 y], .string s] w fun e w' => e = .returned (.bool true) ∧ Below w.heap.size w w' := by
  obtain ⟨eA, tA, vA, hvA, hpA, hA1, hA0⟩ := print_both a
  have x0 : Px w x y (w.alloc (.cells #[.int .i64 x, .int .i64 y] 35)) := Px.first hg ht
  go_enter Tryd.func4, Tryd.ntmps4
  go_upto_if 24 with (go_at_call 15; refine (refAddr_any _ _).mono ?_; rintro e wj ⟨rfl, rfl⟩)
  go_cut [7, 8, 9] (fun o e v wc => e = .int .i64 eA ∧ v = .string (mkB tA) ∧ Px w x y wc)
  case first =>
    rcases hc : isAddr a with _ | _
    · obtain ⟨h1, h2⟩ := hA0 hc
      subst h1 h2
      clear hpA hA0 hA1
      go_wp2_with fail
      go_meet
      case rel => exact ⟨rfl, rfl, x0⟩
    · obtain ⟨h1, h2⟩ := hA1 hc
      have hsh := fun w => show_any a w (of_isAddr hc).1 (of_isAddr hc).2
      subst h1 h2
      clear hpA hA0 hA1
      go_wp2_with (go_at_call 16; refine (hsh _).mono ?_; rintro e wj ⟨rfl, rfl⟩)
      go_meet
      case rel => exact ⟨rfl, rfl, x0⟩
  case rest =>
    obtain ⟨rfl, rfl, x1⟩ := hcut
    clear hA0 hA1 x0
    obtain ⟨eB, nB, vB, hvB, hpB, hB1, hB0⟩ := parse_both s hs
    have hrB := fun w => readAddr_any s w hs
    obtain ⟨nR, hnR⟩ : ∃ nR, nR = readAddrL s.data.toList := ⟨_, rfl⟩
    rw [← hnR] at hB1 hB0
    simp only [← hnR] at hrB
    clear hnR
    have k := x1
    clear x1
    go_upto_if 45 with (first
      | (go_at_call 17; refine (hpA _ k.2.2.2.2.2).mono ?_; rintro e wj ⟨rfl, bj⟩; have k := k.step bj)
      | (go_at_call_of 12 vA; refine (error_val hvA _ _ k.2.2.2.2.1).mono ?_; rintro e wj ⟨rfl, bj⟩; have k := k.step bj)
      | (go_at_call 18; refine (hrB _).mono ?_; rintro e wj ⟨rfl, bj⟩; have k := k.step bj))
    go_cut [8, 13, 45] (fun e n o wc => e = .int .i64 eB ∧ n = .int .i64 nB ∧ Px w x y wc)
    case first =>
      by_cases hn : nR < 0
      · obtain ⟨h1, h2⟩ := hB1 hn
        subst h1 h2
        clear hB0 hB1 hpB hpA hrB
        go_wp2_with fail
        go_meet
        case rel => exact ⟨rfl, rfl, k⟩
      · obtain ⟨h1, h2⟩ := hB0 (by omega)
        subst h1 h2
        clear hB0 hB1 hpB hpA hrB
        go_wp2_with fail
        go_meet
        case rel => exact ⟨rfl, rfl, k⟩
    case rest =>
      obtain ⟨rfl, rfl, k2⟩ := hcut
      clear k hB0 hB1 hrB hpA hvA
      have k := k2
      clear k2
      obtain ⟨tC, vC, hvC, hcC, hpC, hC1, hC0⟩ := prefix_both x y
      have hrC := fun w => refPrefix_any x y w
      obtain ⟨eC, heC⟩ : ∃ eC, eC = prefE x y := ⟨_, rfl⟩
      have hsC : eC = 0 → ∀ w, Calls Tryd.prog 21 #[.agg #[.int .i64 x, .int .i64 y]] w fun e w' => e = .returned (.string (mkB (showPrefL x y))) ∧ Below w.heap.size w w' := by
        intro h w
        obtain ⟨⟨q0, q1⟩, ⟨q2, q3⟩, _⟩ := prefE_zero (heC ▸ h)
        exact showPrefix_any x y w q0 q1 q2 q3
      rw [← heC] at hvC hC1 hC0
      simp only [← heC] at hrC
      clear heC
      obtain ⟨cx, cy, _, _, _, _⟩ := id k
      go_upto_if 64 with (first
        | (go_at_call 19; refine (hpB _).mono ?_; rintro e wj ⟨rfl, bj⟩; have k := k.step bj; obtain ⟨_, _, _, _, _, _⟩ := id k)
        | (go_at_call_of 12 vB; refine (error_val hvB _ _ k.2.2.2.2.1).mono ?_; rintro e wj ⟨rfl, bj⟩; have k := k.step bj; obtain ⟨_, _, _, _, _, _⟩ := id k)
        | (go_at_call 20; refine (hrC _).mono ?_; rintro e wj ⟨rfl, bj⟩; have k := k.step bj; obtain ⟨_, _, _, _, _, _⟩ := id k))
      go_cut [9, 64] (fun t o wc => t = .string (mkB tC) ∧ Px w x y wc)
      case first =>
        rcases hn : (eC == 0) with _ | _
        · have h1 := hC0 (by simpa using hn)
          subst h1
          clear hC0 hC1 hpC hcC hpB hrC hsC
          go_wp2_with fail
          go_meet
          case rel => exact ⟨rfl, k⟩
        · have h1 := hC1 (by simpa using hn)
          have hsC := hsC (by simpa using hn)
          subst h1
          clear hC0 hC1 hpC hcC hpB hrC
          go_wp2_with (go_at_call 21; refine (hsC _).mono ?_; rintro e wj ⟨rfl, bj⟩; have k := k.step bj)
          go_meet
          case rel => exact ⟨rfl, k⟩
      case rest =>
        obtain ⟨rfl, k2⟩ := hcut
        clear k hC0 hC1 hrC hpB hvB hsC
        have k := k2
        clear k2
        obtain ⟨eD, xD, yD, bD, vD, hvD, hpD, hrD, hD1, hD0⟩ := read_both s hs
        obtain ⟨cx, cy, _, _, _, _⟩ := id k
        go_upto_region 29 with (first
          | (go_at_call 22; refine (hcC _).mono ?_; rintro e wj ⟨rfl, bj⟩; have k := k.step bj; obtain ⟨_, _, _, _, _, _⟩ := id k)
          | (go_at_call 23; refine (hpC _ k.2.2.2.2.2).mono ?_; rintro e wj ⟨rfl, bj⟩; have k := k.step bj; obtain ⟨_, _, _, _, _, _⟩ := id k)
          | (go_at_call_of 12 vC; refine (error_val hvC _ _ k.2.2.2.2.1).mono ?_; rintro e wj ⟨rfl, bj⟩; have k := k.step bj; obtain ⟨_, _, _, _, _, _⟩ := id k))
        clear hpC hcC hvC
        have heq := fun w => Tryd.prefEql xD yD xD yD w
        go_upto_region 31 with (go_at_call 24; refine (hrD _).mono ?_; rintro e wq ⟨rfl, bj⟩; have k := k.step bj)
        have k1 := k.step ((Below.refl _ _).alloc (Nat.le_refl _) (.cells #[.int .i64 xD, .int .i64 yD] 35))
        have pq := PairAt.new wq xD yD 35
        cases bD
        · have hE := hD0 rfl
          subst hE
          clear hD0 hD1 hrD
          go_upto_region 35 with (first
            | (go_at_call 25; refine (hpD _).mono ?_; rintro e wr ⟨rfl, bj⟩; have k2 := k1.step bj; have pq2 := PairAt.keep bj pq; have k3 := k2.step ((Below.refl _ _).alloc (Nat.le_refl _) (.cells #[.int .i64 xD, .int .i64 yD] 35)); have pr := PairAt.new wr xD yD 35; have pq3 := pq2.alloc (.cells #[.int .i64 xD, .int .i64 yD] 35))
            | (go_at_call 12; refine (error_val hvD _ _ k3.2.2.2.2.1).mono ?_; rintro e wt ⟨rfl, bj⟩; have k4 := k3.step bj; obtain ⟨q0, q1, _, _⟩ := PairAt.keep bj pq3; obtain ⟨r0, r1, _, _⟩ := PairAt.keep bj pr))
          go_wp2_with fail
          go_ret
          exact ⟨by simp, k4.2.2.1⟩
        · have hE := hD1 rfl
          subst hE
          clear hD0 hD1 hrD
          go_upto_region 35 with (first
            | (go_at_call 25; refine (hpD _).mono ?_; rintro e wr ⟨rfl, bj⟩; have k2 := k1.step bj; have pq2 := PairAt.keep bj pq; have k3 := k2.step ((Below.refl _ _).alloc (Nat.le_refl _) (.cells #[.int .i64 xD, .int .i64 yD] 35)); have pr := PairAt.new wr xD yD 35; have pq3 := pq2.alloc (.cells #[.int .i64 xD, .int .i64 yD] 35))
            | (go_at_call 12; refine (error_val hvD _ _ k3.2.2.2.2.1).mono ?_; rintro e wt ⟨rfl, bj⟩; have k4 := k3.step bj; obtain ⟨q0, q1, _, _⟩ := PairAt.keep bj pq3; obtain ⟨r0, r1, _, _⟩ := PairAt.keep bj pr))
          go_wp2_with fail
          go_ret
          exact ⟨by simp, k4.2.2.1⟩
end Go.Proofs.YtkjjalaelehjeaaDoor
