/- What isName, longest and fill return (package rule). -/
import Derived.Test.YtjhofmmmlemfcaaDoorExF
import Derived.Test.YtjhofmmmlemfcaaDoorBldB
import Derived.Test.YtjhofmmmlemfcaaDoorOwnS
import Derived.Test.YtjhofmmmlemfcaaDoorLnF
import Derived.Deep.DeepMust
import Derived.Deep.RegionHeld3
namespace Go.Proofs.YtjhofmmmlemfcaaDoor
open Go.RowKit
set_option linter.unusedVariables false
set_option maxRecDepth 10000

theorem OwnS.len' {w : World} {base : Nat} {v : Value} {ss : List ByteArray} (h : OwnS w base v ss) : ∃ a c, v = .slice a ss.length c := by
  obtain ⟨_, h2⟩ := h
  rcases h2 with ⟨rfl, h0⟩ | ⟨g, cap, cur, rfl, _⟩
  · exact ⟨none, 0, by rw [h0]⟩
  · exact ⟨_, _, rfl⟩
/-- A row of texts, wherever it lies. -/
def RowT (w : World) (v : Value) (ns : List (List UInt8)) : Prop := ∃ a c, v = .slice a ns.length c ∧ (0 < ns.length → ∃ g, a = some ⟨g, 0, none⟩ ∧ g < w.heap.size ∧ ∀ j (hj : j < ns.length), w.cell? ⟨g, j, none⟩ = some (.string (mkB ns[j])))
theorem OwnS.rowT {w : World} {base : Nat} {v : Value} {ns : List (List UInt8)} (h : OwnS w base v (ns.map mkB)) : RowT w v ns := by
  obtain ⟨a, c, hv⟩ := h.len'
  rw [List.length_map] at hv
  refine ⟨a, c, hv, fun hp => ?_⟩
  obtain ⟨g, cap, hv2, hg1, hg2, _, _⟩ := h.shape (by rw [List.length_map]; exact hp)
  rw [List.length_map] at hv2
  rw [hv] at hv2
  injection hv2 with e1 _ e2
  subst e1 e2
  refine ⟨g, rfl, hg2, fun j hj => ?_⟩
  have := h
  rw [hv] at this
  have := this.cell (by simp) j (by simpa using hj)
  rw [this]; simp
theorem RowT.below {w w' : World} {v : Value} {ns : List (List UInt8)} (h : RowT w v ns) (hb : Below w.heap.size w w') : RowT w' v ns := by
  obtain ⟨a, c, hv, h2⟩ := h
  refine ⟨a, c, hv, fun hp => ?_⟩
  obtain ⟨g, e, hg, hc⟩ := h2 hp
  exact ⟨g, e, Nat.lt_of_lt_of_le hg hb.size, fun j hj => (hb.cell (p := ⟨g, j, none⟩) hg).trans (hc j hj)⟩
theorem drop_extX (l : List UInt8) (k : Nat) : (mkB l).extract k (mkB l).size = mkB (l.drop k) := by rw [ext_drop, mkB_toList]
theorem sizeI (l : List UInt8) : ((mkB l).size : Int) = (l.length : Int) := by rw [mkB_size]
set_option maxHeartbeats 4000000 in
theorem longest_any (ns : List (List UInt8)) (t : List UInt8) (v : Value) (w : World) (hr : RowT w v ns) (hn : ns.length ≤ 1000000) :
    Calls Tryd.prog 31 #[v, .string (mkB t)] w fun e w' => e = .returned (.int .i64 (bst ns t)) ∧ w' = w := by
  obtain ⟨a, c, rfl, hrow⟩ := hr
  obtain ⟨N, hN⟩ : ∃ N, ns.length = N := ⟨_, rfl⟩
  have hB : bst ns t = bstU ns t N := by unfold bst; rw [hN]
  rw [hB]
  rw [hN] at hn
  have hhp := fun (p : List UInt8) w => Tryd.strings_HasPrefix (mkB t) (mkB p) w
  simp only [mkB_toList] at hhp
  have HROW := hidR hrow
  have HN := hidR hN
  clear hrow hB
  rw [hN]
  clear hN
  go_enter Tryd.func31, Tryd.ntmps31
  go_wp2
  go_loopw [5, 6, 7, 10] (fun b _ _ i wr => ∃ k : Nat, k ≤ N ∧ i = .int .i64 (k : Int) ∧ b = .int .i64 (bstU ns t k) ∧ wr = w) (fun _ _ _ i _ => ((N : Int) - intOf i).toNat)
  case atStart => exact ⟨0, by omega, rfl, rfl, rfl⟩
  case round =>
    obtain ⟨k, hk, rfl, rfl, hwr⟩ := hrel
    subst hwr
    by_cases hlt : k < N
    · have hlt' : (k : Int) < (N : Int) := by omega
      have hk0 : (0 : Int) ≤ (k : Int) := by omega
      have hkl : k < ns.length := by rw [HN.out]; exact hlt
      obtain ⟨g, hg, hgl, hcel⟩ := HROW.out (by rw [HN.out]; omega)
      subst hg
      have c0 := hcel k hkl
      obtain ⟨h1, h2, _⟩ := bstU_range ns t k
      have HST : Hid (bstU ns t (k + 1) = bstS ns t (bstU ns t k) k) := rfl
      have hgd : ns.getD k [] = ns[k] := by simp [List.getD, hkl]
      have hp := fun w => hhp ns[k] w
      obtain ⟨x, hx⟩ : ∃ x, ns[k] = x := ⟨_, rfl⟩
      rw [hx] at c0 hgd
      simp only [hx] at hp
      have sx := sizeI x
      obtain ⟨b, hb⟩ : ∃ b, bstU ns t k = b := ⟨_, rfl⟩
      rw [hb] at h1 h2 HST ⊢
      unfold bstS at HST
      rw [hgd] at HST
      rcases hq : Lib.hasPrefix t x with _ | _
      · have HST : Hid (bstU ns t (k + 1) = b) := by rw [HST, if_neg (by rw [hq]; simp)]; rfl
        rw [hq] at hp
        clear hcel hgd hhp hx hq hb
        go_wp2_with (go_at_call 34; go_must (refine (hp _).mono ?_; rintro e w1 ⟨rfl, hw1⟩; rw [hw1]; clear hw1))
        go_roundw
        case rel => exact ⟨k + 1, by omega, by go_num, by rw [HST.out], by first | rfl | trivial⟩
        case measure => simp [intOf]; omega
      · rw [hq] at hp
        by_cases hneg : b < 0
        · have hbt : decide (b < 0) = true := decide_eq_true hneg
          have HST : Hid (bstU ns t (k + 1) = (k : Int)) := by rw [HST, if_pos ⟨hq, .inl hneg⟩]; rfl
          clear hcel hgd hhp hx hq hb
          go_wp2_with (go_at_call 34; go_must (refine (hp _).mono ?_; rintro e w1 ⟨rfl, hw1⟩; rw [hw1]; clear hw1))
          go_roundw
          case rel => exact ⟨k + 1, by omega, by go_num, by rw [HST.out], by first | rfl | trivial⟩
          case measure => simp [intOf]; omega
        · have hb0 : (0 : Int) ≤ b := by omega
          have hbl : b.toNat < ns.length := by rw [HN.out]; omega
          have c1 := hcel b.toNat hbl
          have hgb : ns.getD b.toNat [] = ns[b.toNat] := by simp [List.getD, hbl]
          rw [hgb] at HST
          obtain ⟨y, hy⟩ : ∃ y, ns[b.toNat] = y := ⟨_, rfl⟩
          rw [hy] at c1 HST
          have sy := sizeI y
          have hbn : ¬ b < 0 := hneg
          have hbN : b < (N : Int) := by omega
          by_cases hcmp : y.length < x.length
          · have hgt : ((mkB x).size : Int) > ((mkB y).size : Int) := by rw [sx, sy]; omega
            have HST : Hid (bstU ns t (k + 1) = (k : Int)) := by rw [HST, if_pos ⟨hq, .inr hcmp⟩]; rfl
            clear hcel hgd hhp hx hq hb hy hgb hcmp sx sy
            go_wp2_with (go_at_call 34; go_must (refine (hp _).mono ?_; rintro e w1 ⟨rfl, hw1⟩; rw [hw1]; clear hw1))
            go_roundw
            case rel => exact ⟨k + 1, by omega, by go_num, by rw [HST.out], by first | rfl | trivial⟩
            case measure => simp [intOf]; omega
          · have hgt : ¬ ((mkB x).size : Int) > ((mkB y).size : Int) := by rw [sx, sy]; omega
            have HST : Hid (bstU ns t (k + 1) = b) := by rw [HST, if_neg (fun h => h.2.elim hbn hcmp)]; rfl
            clear hcel hgd hhp hx hq hb hy hgb hcmp sx sy
            go_wp2_with (go_at_call 34; go_must (refine (hp _).mono ?_; rintro e w1 ⟨rfl, hw1⟩; rw [hw1]; clear hw1))
            go_roundw
            case rel => exact ⟨k + 1, by omega, by go_num, by rw [HST.out], by first | rfl | trivial⟩
            case measure => simp [intOf]; omega
    · have hlt' : ¬ (k : Int) < (N : Int) := by omega
      have e : k = N := by omega
      subst e
      go_wp2
      go_ret
      exact ⟨rfl, by first | rfl | trivial⟩
end Go.Proofs.YtjhofmmmlemfcaaDoor
