/- What the reference's ReadSeg returns, for every kind, bytes, source and destination (package portref1): the segment, and the fault. -/
import Derived.Test.YteijbohfakokfacDoorRefRs1
import Derived.Test.YteijbohfakokfacDoorRefRs2
import Derived.Test.YteijbohfakokfacDoorRefRs3
namespace Go.Proofs.YteijbohfakokfacDoor
open Go.RowKit
set_option linter.unusedVariables false

/-- What ReadSeg's answer is. -/
def RReads (k src dst : Int) (zs : List Int) (w : World) (e : Ending) (w' : World) : Prop :=
  ∃ bv, e = .returned (.tuple #[segV (rdS k zs src dst) bv, .int .i64 (rdErr k zs src dst)]) ∧ Bytes w' bv (rdS k zs src dst).body ∧ Below w.heap.size w w'
theorem rreads_no {k src dst : Int} {zs : List Int} {w w' : World} {n : Int} (hn : ¬ n = 0) (hE : rdErr k zs src dst = n) (hw : Below w.heap.size w w') :
    RReads k src dst zs w (.returned (.tuple #[segV zeroS (.slice none 0 0), .int .i64 n])) w' := by
  have e1 : rdS k zs src dst = zeroS := by unfold rdS; rw [if_neg (by rw [hE]; exact hn)]
  refine ⟨.slice none 0 0, ?_, ?_, hw⟩
  · rw [e1, hE]
  · rw [e1]; exact .inl ⟨rfl, _, _, rfl, fun _ => rfl⟩
theorem rreads_ok {k src dst : Int} {zs : List Int} {w w' : World} {bv : Value} (hE : rdErr k zs src dst = 0) (hb : Bytes w' bv (fldS k zs).body) (hw : Below w.heap.size w w') :
    RReads k src dst zs w (.returned (.tuple #[segV (fldS k zs) bv, .int .i64 0])) w' := by
  have e1 : rdS k zs src dst = fldS k zs := by unfold rdS; rw [if_pos hE]
  refine ⟨bv, ?_, ?_, hw⟩
  · rw [e1, hE]
  · rw [e1]; exact hb
theorem refReadSeg_any (k src dst : Int) (v : Value) (zs : List Int) (w : World) (h : Bytes w v zs) :
    Calls Tryd.prog 6 #[.int .i64 k, v, .int .i64 src, .int .i64 dst] w fun e w' => RReads k src dst zs w e w' := by
  rcases hr : (isK k && upB src 4294967295 && upB dst 4294967295) with _ | _
  · refine (refRead_range k src dst v w hr).mono ?_
    rintro e w' ⟨rfl, hw⟩
    exact rreads_no (by decide) (by unfold rdErr; rw [if_pos hr]) hw
  have hr' : isK k = true ∧ upB src 4294967295 = true ∧ upB dst 4294967295 = true := by
    revert hr
    cases isK k <;> cases upB src 4294967295 <;> cases upB dst 4294967295 <;> simp
  obtain ⟨hk, hs, hd⟩ := hr'
  have hrn : ¬ (isK k && upB src 4294967295 && upB dst 4294967295) = false := by rw [hr]; simp
  have hHb := hdN_ge hk
  by_cases hl : zs.length < hdN k ∨ (hdN k ≤ zs.length ∧ 4000 < zs.length)
  · have hlen : zs.length ≤ 9223372036854775807 := by
      rcases h with ⟨h, _⟩ | ⟨b, off, len, cap, _, h1, h2, h3, h4, _⟩
      · rw [h]; simp
      · rw [h4]; omega
    obtain ⟨a, c, rfl⟩ := len_body h
    refine (refRead_len k src dst a _ c w hk hs hd hlen hl).mono ?_
    rintro e w' ⟨rfl, hw⟩
    refine rreads_no (by split <;> decide) ?_ hw
    unfold rdErr
    rw [if_neg hrn]
    by_cases h1 : zs.length < hdN k
    · rw [if_pos h1, if_pos h1]
    · rw [if_neg h1, if_neg h1, if_pos (by omega)]
  have hl1 : ¬ zs.length < hdN k := by omega
  have hl2 : ¬ 4000 < zs.length := by omega
  rcases h with ⟨rfl, _⟩ | ⟨b, off, len, cap, rfl, h1, h2, h3, h4, h5⟩
  · simp at hl1; omega
  have hE : rdErr k zs src dst = if ¬ g2 zs (hdN k - 2) = psum k (zs.take (hdN k - 2)) (zs.drop (hdN k)) src dst then 9 else
      if (k = 3 ∧ 1 < zs.getD 0 0) ∨ (k = 1 ∧ 15 < zs.getD 12 0) then 1 else if k = 3 ∧ ¬ zs.getD 5 0 = 0 then 3 else 0 := by
    unfold rdErr; rw [if_neg hrn, if_neg hl1, if_neg hl2]
  rw [h4] at hl1 hl2
  rcases isK_of hk with rfl | rfl | rfl
  · rw [show hdN 1 = 17 from rfl] at hE hl1
    by_cases hx : g2 zs (17 - 2) = psum 1 (zs.take (17 - 2)) (zs.drop 17) src dst
    · rw [if_neg (by rw [Decidable.not_not]; exact hx)] at hE
      by_cases hy : 15 < zs.getD 12 0
      · rw [if_pos (.inr ⟨rfl, hy⟩)] at hE
        refine (refRead1_bad src dst b off len cap zs w hs hd h1 h2 h4 h5 (by omega) (by omega) hx hy).mono ?_
        rintro e w' ⟨rfl, hw⟩
        exact rreads_no (by decide) hE hw
      · rw [if_neg (by omega), if_neg (by omega)] at hE
        refine (refRead1_ok src dst b off len cap zs w hs hd h1 h2 h4 h5 (by omega) (by omega) hx hy).mono ?_
        rintro e w' ⟨bv, rfl, hb, hw⟩
        exact rreads_ok hE hb hw
    · rw [if_pos hx] at hE
      refine (refRead1_sum src dst b off len cap zs w hs hd h1 h2 h4 h5 (by omega) (by omega) hx).mono ?_
      rintro e w' ⟨rfl, hw⟩
      exact rreads_no (by decide) hE hw
  · rw [show hdN 2 = 6 from rfl] at hE hl1
    by_cases hx : g2 zs (6 - 2) = psum 2 (zs.take (6 - 2)) (zs.drop 6) src dst
    · rw [if_neg (by rw [Decidable.not_not]; exact hx), if_neg (by omega), if_neg (by omega)] at hE
      refine (refRead2_ok src dst b off len cap zs w hs hd h1 h2 h4 h5 (by omega) (by omega) hx).mono ?_
      rintro e w' ⟨bv, rfl, hb, hw⟩
      exact rreads_ok hE hb hw
    · rw [if_pos hx] at hE
      refine (refRead2_sum src dst b off len cap zs w hs hd h1 h2 h4 h5 (by omega) (by omega) hx).mono ?_
      rintro e w' ⟨rfl, hw⟩
      exact rreads_no (by decide) hE hw
  · rw [show hdN 3 = 8 from rfl] at hE hl1
    by_cases hx : g2 zs (8 - 2) = psum 3 (zs.take (8 - 2)) (zs.drop 8) src dst
    · rw [if_neg (by rw [Decidable.not_not]; exact hx)] at hE
      by_cases hy : 1 < zs.getD 0 0
      · rw [if_pos (.inl ⟨rfl, hy⟩)] at hE
        refine (refRead3_bad src dst b off len cap zs w hs hd h1 h2 h4 h5 (by omega) (by omega) hx hy).mono ?_
        rintro e w' ⟨rfl, hw⟩
        exact rreads_no (by decide) hE hw
      · rw [if_neg (by omega)] at hE
        by_cases hg : zs.getD 5 0 = 0
        · rw [if_neg (by omega)] at hE
          refine (refRead3_ok src dst b off len cap zs w hs hd h1 h2 h4 h5 (by omega) (by omega) hx hy hg).mono ?_
          rintro e w' ⟨bv, rfl, hb, hw⟩
          exact rreads_ok hE hb hw
        · rw [if_pos ⟨rfl, hg⟩] at hE
          refine (refRead3_gap src dst b off len cap zs w hs hd h1 h2 h4 h5 (by omega) (by omega) hx hy hg).mono ?_
          rintro e w' ⟨rfl, hw⟩
          exact rreads_no (by decide) hE hw
    · rw [if_pos hx] at hE
      refine (refRead3_sum src dst b off len cap zs w hs hd h1 h2 h4 h5 (by omega) (by omega) hx).mono ?_
      rintro e w' ⟨rfl, hw⟩
      exact rreads_no (by decide) hE hw
end Go.Proofs.YteijbohfakokfacDoor
