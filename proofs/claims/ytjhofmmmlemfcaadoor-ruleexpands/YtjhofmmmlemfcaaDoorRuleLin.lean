/- strings.Lines: the lines of a text, one by one, for whatever loop body leaves the text's own block as it is. -/
import Derived.Test.YtjhofmmmlemfcaaDoorRuleLaw
import Derived.Test.YtjhofmmmlemfcaaDoorStrA
import Derived.Test.YtjhofmmmlemfcaaDoorStrCut
import Derived.Test.YtjhofmmmlemfcaaDoorShelfC
import Derived.Sort.CutIn
namespace Go.Proofs.YtjhofmmmlemfcaaDoor
open Go.RowKit
set_option linter.unusedVariables false
set_option maxRecDepth 10000

/-- The lines of a text, each with its end. -/
def lnsF : Nat → List UInt8 → List (List UInt8)
  | 0, _ => []
  | k + 1, l => if l = [] then [] else if Lib.indexByte l 10 < 0 then [l] else l.take ((Lib.indexByte l 10).toNat + 1) :: lnsF k (l.drop ((Lib.indexByte l 10).toNat + 1))
def lnsL (l : List UInt8) : List (List UInt8) := lnsF l.length l
theorem lnsF_eq : ∀ (k j : Nat) (l : List UInt8), l.length ≤ k → l.length ≤ j → lnsF k l = lnsF j l
  | 0, 0, l, _, _ => rfl
  | 0, j + 1, l, h, _ => by
      have : l = [] := List.length_eq_zero_iff.1 (by omega)
      subst this; rfl
  | k + 1, 0, l, _, h => by
      have : l = [] := List.length_eq_zero_iff.1 (by omega)
      subst this; rfl
  | k + 1, j + 1, l, h1, h2 => by
      rw [lnsF, lnsF]
      by_cases h : l = []
      · rw [if_pos h, if_pos h]
      · rw [if_neg h, if_neg h]
        have hp : 0 < l.length := List.length_pos_iff.2 h
        rw [lnsF_eq k j _ (by rw [List.length_drop]; omega) (by rw [List.length_drop]; omega)]
theorem lnsL_nil : lnsL [] = [] := rfl
theorem lnsL_last {l : List UInt8} (h : l ≠ []) (hi : Lib.indexByte l 10 < 0) : lnsL l = [l] := by
  have hp : 0 < l.length := List.length_pos_iff.2 h
  unfold lnsL
  obtain ⟨k, hk⟩ : ∃ k, l.length = k + 1 := ⟨l.length - 1, by omega⟩
  rw [hk, lnsF, if_neg h, if_pos hi]
theorem lnsL_cut {l : List UInt8} {i : Nat} (h : l ≠ []) (hi : Lib.indexByte l 10 = (i : Int)) : lnsL l = l.take (i + 1) :: lnsL (l.drop (i + 1)) := by
  have hp : 0 < l.length := List.length_pos_iff.2 h
  unfold lnsL
  obtain ⟨k, hk⟩ : ∃ k, l.length = k + 1 := ⟨l.length - 1, by omega⟩
  rw [hk, lnsF, if_neg h, if_neg (by omega), hi, Int.toNat_natCast]
  congr 1
  exact lnsF_eq _ _ _ (by rw [List.length_drop]; omega) (Nat.le_refl _)
/-- How much text a block holds. -/
def strLen (g : Nat) (w : World) : Nat := match w.cell? ⟨g, 0, none⟩ with | some (.string s) => s.size | _ => 0
theorem strLen_at {w : World} {g : Nat} {l : List UInt8} (h : StrAt w g l) : strLen g w = l.length := by unfold strLen; rw [h.cell]; exact mkB_size l
theorem only_store {B : Nat} (A : World) (v : Value) : Only B A (A.setCell ⟨B, 0, none⟩ v) := (Only.refl _ _).setCell _ _
attribute [local go_sem] Oper.semAt_some
set_option maxHeartbeats 4000000 in
theorem lines_gives (n : Nat) (g : Nat) (text : List UInt8) (w : World) (hs : StrAt w g text) (hlen : text.length ≤ 140737488355328) : Gives Fence.wide n Tryd.prog 21 #[.pointer (some ⟨g, 0, none⟩)] (fun x : List UInt8 => #[.string (mkB x)]) g (lnsL text) w := by
  intro l J Jx W hW hJ hJx hY h0
  have hib := fun (s : ByteArray) w => Tryd.strings_IndexByte s 10 w
  have hsW : StrAt W g text := hs.keep hW
  refine callsIn_of_wp Tryd.func21 rfl trivial ?_ rfl
  simp only [Tryd.ntmps21, List.size_toArray, List.length_cons, List.length_nil, Nat.reduceAdd, Nat.reduceSub, Array.replicate_succ, Array.replicate_zero, List.push_toArray, List.append_toArray, List.nil_append, List.cons_append]
  gi_wp2
  gi_loopw [3, 4] (fun _ _ wr => ∃ (pre : List (List UInt8)) (rest : List UInt8), lnsL text = pre ++ lnsL rest ∧ StrAt wr g rest ∧ J pre wr ∧ rest.length ≤ 140737488355328) (fun _ _ wr => strLen g wr)
  case atStart => exact ⟨[], text, rfl, hsW, h0, hlen⟩
  case round =>
    obtain ⟨pre, rest, hl, hst, hj, hrl⟩ := hrel
    have c0 := hst.cell
    have fz := hst.free
    have hsz := mkB_size rest
    have HST : Hid (StrAt wr g rest) := hst
    have HJ : Hid (J pre wr) := hj
    have HL : Hid (lnsL text = pre ++ lnsL rest) := hl
    clear hst hj hl hsW h0
    by_cases hr0 : rest = []
    · subst hr0
      have hz : ¬ ((mkB []).size : Int) > 0 := by decide
      clear hsz
      gi_wp2
      go_end0
      have hl := HL.out
      rw [lnsL_nil, List.append_nil] at hl
      exact ⟨⟨_, rfl⟩, .inl (by rw [hl]; exact HJ.out)⟩
    · have hp : 0 < rest.length := List.length_pos_iff.2 hr0
      have hz : ((mkB rest).size : Int) > 0 := by rw [hsz]; omega
      have hb := hib (mkB rest)
      rw [mkB_toList, show (10 : Int).toNat.toUInt8 = 10 from rfl] at hb
      rcases splitC_index 10 rest with ⟨h1, _⟩ | ⟨i, hi, h1, _⟩
      · obtain ⟨W1, hW1, s1, o1⟩ := HST.out.store []
        have hl := HL.out
        rw [lnsL_last hr0 h1] at hl
        obtain ⟨fn, tmps, assign, body, hy, hR⟩ := hY pre rest W1 (hJ _ _ _ HJ.out o1) ⟨[], by rw [hl, List.append_nil]⟩
        have hn : ¬ Lib.indexByte rest 10 ≥ 0 := by omega
        generalize Lib.indexByte rest 10 = z at hb hn h1
        have HW1 : Hid (wr.setCell ⟨g, 0, none⟩ (.string (mkB [])) = W1) := hW1
        have HS1 : Hid (StrAt W1 g []) := s1
        have HLN : Hid (lnsL text = pre ++ [rest]) := hl
        have hlen1 : Hid (strLen g wr = rest.length) := strLen_at HST.out
        clear hW1 s1 o1 hl h1
        gi_upto_region 6 with (refine ⟨trivial, (fun h => by cases h), ?_⟩; refine (callsIn_wide.2 (hb _)).mono ?_; rintro e w' ⟨rfl, hw'⟩; rw [hw']; clear hw')
        rw [show (⟨#[]⟩ : ByteArray) = mkB [] from rfl, HW1.out]
        gi_wp2
        refine ⟨(fun h => by cases h), hR.mono ?_⟩
        rintro e W3 (⟨rfl, hJ3, hk3⟩ | ⟨rfl, hJx3⟩)
        · gi_wp2
          go_roundw
          case rel => exact ⟨pre ++ [rest], [], by rw [HLN.out, lnsL_nil, List.append_nil], HS1.out.keep hk3, hJ3, by simp⟩
          case measure => rw [strLen_at (HS1.out.keep hk3), hlen1.out]; simpa using hp
        · gi_wp2
          refine bodyPost_ret (results_none rfl _ _ _) rfl ?_
          exact ⟨⟨_, rfl⟩, .inr ⟨pre ++ [rest], ⟨[], by rw [HLN.out, List.append_nil]⟩, hJx3⟩⟩
      · obtain ⟨W1, hW1, s1, o1⟩ := HST.out.store (rest.drop (i + 1))
        have hl := HL.out
        rw [lnsL_cut hr0 h1] at hl
        have HLN : Hid (lnsL text = pre ++ rest.take (i + 1) :: lnsL (rest.drop (i + 1))) := hl
        rw [h1] at hb
        have hx1 := ext_take (mkB rest) (i + 1)
        have hx2 := ext_drop (mkB rest) (i + 1)
        rw [mkB_toList] at hx1 hx2
        obtain ⟨x, hx⟩ : ∃ x, rest.take (i + 1) = x := ⟨_, rfl⟩
        obtain ⟨m, hm⟩ : ∃ m, rest.drop (i + 1) = m := ⟨_, rfl⟩
        rw [hx] at hx1 HLN
        rw [hm] at hx2 HLN hW1 s1
        have hml : m.length < rest.length := by rw [← hm, List.length_drop]; omega
        obtain ⟨fn, tmps, assign, body, hy, hR⟩ := hY pre x W1.drew (hJ _ _ _ HJ.out (o1.drewN 1)) ⟨lnsL m, by rw [HLN.out]; simp⟩
        have HW1 : Hid (wr.setCell ⟨g, 0, none⟩ (.string (mkB m)) = W1) := hW1
        have HS1 : Hid (StrAt W1.drew g m) := s1
        have hlen1 : Hid (strLen g wr = rest.length) := strLen_at HST.out
        have HX1 : Hid ((mkB rest).extract 0 (i + 1) = mkB x) := hx1
        have HX2 : Hid ((mkB rest).extract (i + 1) (mkB rest).size = mkB m) := hx2
        obtain ⟨N, hN⟩ : ∃ N, rest.length = N := ⟨_, rfl⟩
        rw [hN] at hsz hrl hi hp
        rw [hsz] at HX2
        have HN : Hid (rest.length = N) := hN
        clear hW1 s1 o1 hl h1 hx1 hx2 hx hm hN
        gi_upto_region 4 with (refine ⟨trivial, (fun h => by cases h), ?_⟩; refine (callsIn_wide.2 (hb _)).mono ?_; rintro e w' ⟨rfl, hw'⟩; rw [hw']; clear hw')
        gi_region
        rw [HX2.out, HX1.out, HW1.out]
        gi_wp2
        refine ⟨(fun h => by cases h), hR.mono ?_⟩
        rintro e W3 (⟨rfl, hJ3, hk3⟩ | ⟨rfl, hJx3⟩)
        · gi_wp2
          go_roundw
          case rel => exact ⟨pre ++ [x], m, by rw [HLN.out]; simp, HS1.out.keep hk3, hJ3, by have := HN.out; omega⟩
          case measure => rw [strLen_at (HS1.out.keep hk3), hlen1.out]; exact hml
        · gi_wp2
          refine bodyPost_ret (results_none rfl _ _ _) rfl ?_
          exact ⟨⟨_, rfl⟩, .inr ⟨pre ++ [x], ⟨lnsL m, by rw [HLN.out]; simp⟩, hJx3⟩⟩
end Go.Proofs.YtjhofmmmlemfcaaDoor
