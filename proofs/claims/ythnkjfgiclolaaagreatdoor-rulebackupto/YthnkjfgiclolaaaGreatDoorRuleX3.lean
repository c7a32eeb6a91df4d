/- What fill and paired return (package rule) of a text with no sign in it; strings.Split at one byte; Builder.Len. -/
import Derived.Test.YthnkjfgiclolaaaGreatDoorRuleX2
import Derived.Test.YthnkjfgiclolaaaGreatDoorMgW
import Derived.Test.YthnkjfgiclolaaaGreatDoorMgV
namespace Go.Proofs.YthnkjfgiclolaaaGreatDoor
open Go.RowKit
set_option linter.unusedVariables false
set_option maxRecDepth 10000

/-- Builder.Len. -/
theorem bldLen (B bb : Nat) (bs : List UInt8) (w : World) (h : BldAt w B bb bs) : Calls Tryz.prog 68 #[.pointer (some ⟨bb, 0, none⟩)] w fun e w' => e = .returned (.int .i64 (bs.length : Int)) ∧ w' = w := by
  obtain ⟨p, v, hp, a, c, hv⟩ := h.at
  generalize bs.length = m at hv ⊢
  subst hv
  have c1 : w.cell? ⟨bb, 1, none⟩ = some (.slice a m c) := by rw [cell_of_row w bb _ _ _ _ hp]; rfl
  clear hp h
  go_enter Tryz.func68, Tryz.ntmps68
  go_wp2
  go_ret
  exact ⟨rfl, rfl⟩
set_option maxHeartbeats 4000000 in
theorem fill_plain (t : List UInt8) (w : World) (hl : t.length ≤ 2000) (hno : ∀ x ∈ t, x ≠ 36) :
    Calls Tryz.prog 28 #[.string (mkB t), .slice none 0 0, .slice none 0 0] w fun e w' => e = .returned (.tuple #[.string (mkB t), .nilIface]) ∧ Below w.heap.size w w' := by
  obtain ⟨Q, hQ⟩ : ∃ Q : Ending → World → Prop, Q = fun e w' => e = .returned (.tuple #[.string (mkB t), .nilIface]) ∧ Below w.heap.size w w' := ⟨_, rfl⟩
  have HQ : Hid (∀ w', Below w.heap.size w w' → Q (.returned (.tuple #[.string (mkB t), .nilIface])) w') := by rw [hQ]; exact fun w' h => ⟨rfl, h⟩
  rw [← hQ]
  clear hQ
  have hc := fun w => strCut_any (mkB t) 36 w (by rw [mkB_size]; unfold maxLen; omega)
  rw [mkB_toList, splitC_noneX hno] at hc
  simp only at hc
  have b1 : Below w.heap.size w (w.alloc (.cells #[.pointer none, .slice none 0 0] 53)) := (Below.refl _ _).alloc (Nat.le_refl _) _
  have n1 := BldAt.new w
  obtain ⟨S, hS⟩ : ∃ S, w.heap.size = S := ⟨_, rfl⟩
  have HS := hidE hS
  rw [hS] at b1 n1
  obtain ⟨W1, hW1⟩ : ∃ W1, w.alloc (.cells #[.pointer none, .slice none 0 0] 53) = W1 := ⟨_, rfl⟩
  have z1 : S ≤ W1.heap.size := by rw [← hW1, ← hS]; exact (World.size_alloc w _) ▸ Nat.le_succ _
  rw [hW1] at b1 n1
  have HW1 := hidE hW1
  have HB1 := hidE b1
  have HN1 := hidE n1
  have HL := hidE hl
  clear hW1 b1 n1 hno hl hS
  go_enter Tryz.func28, Tryz.ntmps28
  go_upto_region 2 with fail
  rw [HW1.out, HS.out]
  go_upto_region 3 with (go_at_call 59; go_must (refine (hc _).mono ?_; rintro e w2 ⟨rfl, d2⟩))
  have gb := bldW S S [] t w2 (HN1.out.keep (d2.below _)) (by have := HL.out; simp; omega) (by rw [d2.size]; exact z1)
  rw [List.nil_append] at gb
  have HB2 := hidE (HB1.out.trans (d2.below S))
  have hz2 : S ≤ w2.heap.size := by rw [d2.size]; exact z1
  clear hc d2 HN1 HB1 HW1 z1
  go_upto_region 4 with (go_at_call 20; go_must (refine gb.mono ?_; rintro e w3 ⟨rfl, k3, b3, o3⟩))
  have gl := bldLen S S t w3 k3
  have gs := bldS S S t w3 k3 (by have := b3.size; omega)
  have HB3 := hidE (HB2.out.trans b3)
  have hn : ¬ ((t.length : Int) > 2000) := by have := HL.out; omega
  generalize (t.length : Int) = m at gl hn
  clear gb k3 b3 o3 hz2 HB2
  go_loopw [9, 10, 11] (fun a b c wr => a = .string (mkB t) ∧ b = .string (mkB []) ∧ c = .bool false ∧ wr = w3) (fun _ _ _ _ => 0)
  case atStart => exact ⟨rfl, rfl, rfl, rfl⟩
  case round =>
    obtain ⟨rfl, rfl, rfl, rfl⟩ := hrel
    go_wp2_with (first | (go_at_call 68; go_must (refine gl.mono ?_; rintro e w4 ⟨rfl, hw4⟩; rw [hw4]; clear hw4)) | (go_at_call 21; go_must (refine gs.mono ?_; rintro e w5 ⟨rfl, b5⟩)))
    exact HQ.out _ (by rw [HS.out]; exact HB3.out.trans b5)
theorem indexB_one (c : UInt8) (s : ByteArray) : Lib.indexB s ⟨#[c]⟩ = Lib.indexByte s.data.toList c := by
  have e : Lib.indexB s ⟨#[c]⟩ = Lib.index s.data.toList [c] := rfl
  rw [e, Lib.index_one]
theorem words_cutC (c : UInt8) : ∀ (k : Nat) (s : ByteArray), Lib.countB s ⟨#[c]⟩ = k → (Lib.splitB ⟨#[c]⟩ 0 k s).map (fun x => x.data.toList) = cutL c s.data.toList
  | k, s, hk => by
      have hix := indexB_one c s
      rcases splitC_index c s.data.toList with ⟨h1, h2⟩ | ⟨i, hi, h1, h2⟩
      · have hm : Lib.indexB s ⟨#[c]⟩ = -1 := by rw [hix]; have := Lib.indexByte_ge s.data.toList c; omega
        rw [Lib.splitB_miss _ _ _ _ hm, cutL_splitX, h2]; rfl
      · have hh : Lib.indexB s ⟨#[c]⟩ = i := by rw [hix, h1]
        have hc := Lib.countB_hit s ⟨#[c]⟩ i (by show 1 ≤ 1; omega) hh
        match k, hk with
        | 0, hk => omega
        | k + 1, hk =>
          rw [Lib.splitB_hit _ _ _ _ i hh, List.map_cons, words_cutC c k _ (by omega), cutL_splitX c s.data.toList, h2]
          simp only [if_true]
          have e1 : (s.extract 0 (i + 0)).data.toList = s.data.toList.take i := by rw [Nat.add_zero, ext_take, mkB_toList]
          have e2 : (s.extract (i + (⟨#[c]⟩ : ByteArray).size) s.size).data.toList = s.data.toList.drop (i + 1) := by
            rw [show (⟨#[c]⟩ : ByteArray).size = 1 from rfl, ext_drop, mkB_toList]
          rw [e1, e2]
/-- strings.Split at one byte. -/
theorem split_any (c : UInt8) (l : List UInt8) (w : World) (htx : TxE w) (hl : l.length ≤ 1048576) :
    Calls Tryz.prog 70 #[.string (mkB l), .string ⟨#[c]⟩] w fun e w' => e = .returned (.slice (some ⟨w.heap.size, 0, none⟩) (cutL c l).length (cutL c l).length) ∧ w' = w.alloc (.cells ((cutL c l).map fun x => Value.string (mkB x)).toArray 9) := by
  obtain ⟨m, hm⟩ := htx.mx
  have hsp := Tryz.strings_Split (mkB l) ⟨#[c]⟩ m w (by rw [mkB_size]; omega) hm (by show 1 ≤ 1; omega)
  have hwc := words_cutC c _ (mkB l) rfl
  rw [mkB_toList] at hwc
  have hlen := Lib.splitB_all ⟨#[c]⟩ (by show 1 ≤ 1; omega) 0 (Lib.countB (mkB l) ⟨#[c]⟩) (mkB l) rfl
  have e1 : (cutL c l).length = Lib.countB (mkB l) ⟨#[c]⟩ + 1 := by rw [← hwc, List.length_map, hlen]
  have e2 : ((cutL c l).map fun x => Value.string (mkB x)) = (Lib.splitB ⟨#[c]⟩ 0 (Lib.countB (mkB l) ⟨#[c]⟩) (mkB l)).map Value.string := by
    rw [← hwc, List.map_map]
    apply List.map_congr_left
    intro x _
    simp [mkB_data]
  rw [e1, e2]
  exact hsp
set_option maxHeartbeats 4000000 in
theorem paired_plain (s : ByteArray) (w : World) (hs : s.size ≤ 1048576) (h : ∀ k (hk : k < s.size), ((s[k].toNat : Int) != 123) = true ∧ ((s[k].toNat : Int) != 125) = true) :
    Calls Tryz.prog 73 #[.string s] w fun e w' => e = .returned (.bool true) ∧ w' = w := by
  have HH := hidE h
  clear h
  go_enter Tryz.func73, Tryz.ntmps73
  go_wp2
  go_loop [3, 4, 7] (fun o j i => ∃ k : Nat, k ≤ s.size ∧ i = .int .i64 (k : Int) ∧ o = .bool false) (fun _ _ i => s.size - (intOf i).toNat)
  case atStart => exact ⟨0, by omega, rfl, rfl⟩
  case round =>
    obtain ⟨k, hk, rfl, rfl⟩ := hrel
    by_cases hlt : k < s.size
    · have hlt' : (k : Int) < (s.size : Int) := by omega
      obtain ⟨h1, h2⟩ := HH.out k hlt
      go_wp2
      go_round
      case rel => exact ⟨k + 1, by omega, by go_num, rfl⟩
      case measure => simp [intOf]; omega
    · have hlt' : ¬ (k : Int) < (s.size : Int) := by omega
      go_wp2
      go_ret
      exact ⟨rfl, rfl⟩
end Go.Proofs.YthnkjfgiclolaaaGreatDoor
