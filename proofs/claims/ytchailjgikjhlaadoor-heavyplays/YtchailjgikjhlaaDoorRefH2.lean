/- What take of the reference's counts leaves. -/
import Derived.Test.YtchailjgikjhlaaDoorRefH1
namespace Go.Proofs.YtchailjgikjhlaaDoor
open Go.RowKit Go.Maps
set_option linter.unusedVariables false

theorem take_snoc (part : Int) (l : Cs) (i : Nat) (h : i < l.length) : takeL part (l.take (i + 1)) = takeL part (l.take i) ++ (if part < l[i].2 then [(l[i].1, l[i].2 - part)] else []) := by
  rw [List.take_succ_eq_append_getElem h]
  unfold takeL takeW
  rw [List.filterMap_append]
  congr 1
  simp only [List.filterMap_cons, List.filterMap_nil, tkO]
  by_cases e : part < l[i].2
  · simp [e]
  · simp [e]
/-- Where take stands. -/
structure TkS (w : World) (part : Int) (l : Cs) (i : Nat) (v : Value) (X : World) : Prop where
  own : OwnCt X w.heap.size v ((takeL part (l.take i)).map (ctOf 0))
  bel : Below w.heap.size w X
set_option maxRecDepth 100000 in
set_option maxHeartbeats 16000000 in
theorem rtake_any (base b : Nat) (h : Hv) (v : Value) (part : Int) (w : World) (k : RfAt w base b h v) (hb : base ≤ w.heap.size) (hl : h.l.length ≤ 1000) (h0 : 0 ≤ part) (h1 : part ≤ 4398046511104) (hp : PosC h.l) (hs : sumC h.l ≤ 4398046511104) (hl0 : 0 ≤ h.less) (hl1 : h.less ≤ 4398046511104) :
    Calls Tryd.prog 21 #[.pointer (some ⟨b, 0, none⟩), .int .i64 part] w fun e w' => e = .returned (.tuple #[]) ∧ ∃ v', RfAt w' base b { n := h.n, less := h.less + part, all := h.all, l := takeL part h.l } v' ∧ (∀ g, v'.ownBlock = some g → w.heap.size ≤ g) ∧ Turn (fun i => i = b) w w' := by
  obtain ⟨Q, hQ⟩ : ∃ Q : Ending → World → Prop, Q = fun e w' => e = .returned (.tuple #[]) ∧ ∃ v', RfAt w' base b { n := h.n, less := h.less + part, all := h.all, l := takeL part h.l } v' ∧ (∀ g, v'.ownBlock = some g → w.heap.size ≤ g) ∧ Turn (fun i => i = b) w w' := ⟨_, rfl⟩
  have HQ := hidE hQ
  rw [← hQ]
  clear hQ
  have HR := hidE k.row
  have HK := hidE k
  have hblt := k.lt
  have c3 := (rf_cells k.blk).2.2.2
  have HM : Hid (∀ i (hi : i < h.l.length), 1 ≤ h.l[i].2 ∧ h.l[i].2 ≤ 4398046511104) := fun i hi => ⟨hp _ (List.getElem_mem hi), Int.le_trans (mem_sum hp _ (List.getElem_mem hi)) hs⟩
  obtain ⟨a, c, rfl⟩ := k.at
  obtain ⟨l, hll⟩ : ∃ l, h.l = l := ⟨_, rfl⟩
  have HLL := hidE hll
  obtain ⟨less, hless⟩ : ∃ less, h.less = less := ⟨_, rfl⟩
  have HLS := hidE hless
  rw [hll] at HR HM hl c3
  rw [hless] at hl0 hl1
  have HB0 : Hid (TkS w part l 0 (.slice none 0 0) w) := ⟨OwnN.nil _ _, Below.refl _ _⟩
  clear k hp hs hll hless
  go_enter Tryd.func21, Tryd.ntmps21
  go_wp2_with fail
  go_loopw [4, 5] (fun v4 v5 wr => ∃ i : Nat, v5 = .int .i64 (i : Int) ∧ i ≤ l.length ∧ Hid (TkS w part l i v4 wr)) (fun _ v5 _ => ((l.length : Int) - intOf v5).toNat)
  case atStart => exact ⟨0, rfl, Nat.zero_le _, HB0⟩
  case round =>
    clear HB0
    obtain ⟨i, rfl, hi, HT⟩ := hrel
    have hT := HT.out
    have c3 := (hT.bel.cell (p := ⟨b, 3, none⟩) hblt).trans c3
    by_cases hlt : i < l.length
    · have hi1 : (i : Int) < (l.length : Int) := by omega
      obtain ⟨g, cap, e, g1, g2, g3, g4, hc⟩ := HR.out (by omega)
      simp only [Value.slice.injEq, true_and] at e
      obtain ⟨rfl, rfl⟩ := e
      obtain ⟨d0, d1, d2⟩ := hc i hlt
      have d0 := (hT.bel.cell (p := ⟨g, i * 3, none⟩) g2).trans d0
      have d1 := (hT.bel.cell (p := ⟨g, i * 3 + 1, none⟩) g2).trans d1
      have d2 := (hT.bel.cell (p := ⟨g, i * 3 + 2, none⟩) g2).trans d2
      obtain ⟨m1, m2⟩ := HM.out i hlt
      have HSN := hidE (take_snoc part l i hlt)
      obtain ⟨lk, hlk⟩ : ∃ z, l[i].1 = z := ⟨_, rfl⟩
      obtain ⟨lm, hlm⟩ : ∃ z, l[i].2 = z := ⟨_, rfl⟩
      rw [hlk, hlm] at HSN
      rw [hlk] at d0
      rw [hlm] at d1 m1 m2
      clear hc hlk hlm hT
      go_upto_region 6 with fail
      have T5 : TkS w part l i u4 (wr.alloc (.cells #[.int .i64 lk, .int .i64 (lm - part), .int .i64 0] 37)) := ⟨OwnN.alloc HT.out.own _, HT.out.bel.alloc HT.out.bel.size _⟩
      have x5 := heap_alloc_new wr (.cells #[.int .i64 lk, .int .i64 (lm - part), .int .i64 0] 37)
      obtain ⟨W5, hW5⟩ : ∃ W5, wr.alloc (.cells #[.int .i64 lk, .int .i64 (lm - part), .int .i64 0] 37) = W5 := ⟨_, rfl⟩
      rw [hW5] at T5 x5 ⊢
      obtain ⟨f0, f1, f2⟩ := ct_cells x5
      have HT5 := hidE T5
      have hown5 := T5.own
      have hsz5 := T5.bel.size
      have hlen5 : ((takeL part (l.take i)).map (ctOf 0)).length ≤ 1000 := by
        rw [List.length_map]
        have q1 := take_len (l.take i) part
        have q2 : (l.take i).length ≤ l.length := by rw [List.length_take]; omega
        omega
      clear hW5 T5 x5 d0 d1 d2 c3 HT
      by_cases hpt : part < lm
      · have hgt : lm - part > 0 := by omega
        rw [if_pos hpt] at HSN
        go_wp2_with (first
          | (at_builtin; refine wpList_append_ct rfl (.tmp 31) (.tmp 33) rfl w.heap.size u4 _ rfl hown5 { key := lk, many := lm - part, less := 0 } rfl (by omega) hsz5 ?_; intro v6 W6 hown6 hg6; go_frame)
          | go_in)
        have HT6 : Hid (TkS w part l (i + 1) v6 W6) := by
          refine ⟨?_, ?_⟩
          · rw [HSN.out, List.map_append]
            exact hown6
          · have bA := HT5.out.bel.alloc HT5.out.bel.size (.cells #[.int .i64 lk, .int .i64 (lm - part), .int .i64 0] 37)
            refine ⟨hg6.os.trans bA.os, hg6.tape.trans bA.tape, hg6.output.trans bA.output, Nat.le_trans bA.size hg6.size, fun q hq => (hg6.block q (Nat.lt_of_lt_of_le hq bA.size) (fun e => ?_)).trans (bA.block q hq)⟩
            have := (OwnN.block HT5.out.own q e.symm).1
            omega
        clear hown5 hown6 hg6
        go_roundw
        case rel => exact ⟨i + 1, by simp, by omega, HT6⟩
        case measure => simp only [intOf]; omega
      · have hgt : decide (lm - part > 0) = false := decide_eq_false (by omega)
        have hgt' : ¬ lm - part > 0 := by omega
        rw [if_neg hpt, List.append_nil] at HSN
        have HT6 : Hid (TkS w part l (i + 1) u4 W5) := ⟨by rw [HSN.out]; exact HT5.out.own, HT5.out.bel⟩
        clear hown5
        go_wp2_with fail
        go_roundw
        case rel => exact ⟨i + 1, by simp, by omega, HT6⟩
        case measure => simp only [intOf]; omega
    · have hi1 : ¬ (i : Int) < (l.length : Int) := by omega
      have ei : i = l.length := by omega
      subst ei
      have hown := hT.own
      rw [List.take_length] at hown
      obtain ⟨a4, c4, e4⟩ := OwnN.len hown
      rw [List.length_map] at e4
      subst e4
      have kw := HK.out.below hT.bel
      obtain ⟨W5, hW5, x5, o5⟩ := rf_set3 kw.blk (.slice a4 (takeL part l).length c4)
      obtain ⟨y0, y1, y2, y3⟩ := rf_frees kw.blk
      obtain ⟨W6, hW6, x6, o6⟩ := rf_set1 x5 (.int .i64 (less + part))
      obtain ⟨z0, z1, z2, z3⟩ := rf_frees x5
      obtain ⟨_, e1, _, _⟩ := rf_cells x5
      rw [HLS.out] at e1
      have HFIN : Hid (Q (.returned (.tuple #[])) W6) := by
        show Q _ _
        rw [HQ.out]
        refine ⟨rfl, _, ⟨?_, ?_, kw.bb⟩, fun g hg => (OwnN.block hown g hg).1, ?_⟩
        · rw [HLS.out]; exact x6
        · rw [HLL.out]
          refine OwnN.rebase (OwnN.blk (OwnN.blk hown (fun q hq => o5.block q (fun e => ?_))) (fun q hq => o6.block q (fun e => ?_))) hb
          · have := (OwnN.block hown q hq).1; omega
          · have := (OwnN.block hown q hq).1; omega
        · exact ((Turn.of_below hT.bel (fun i => i = b)).trans (Turn.of_only (F := fun i => i = b) o5 rfl)).trans (Turn.of_only (F := fun i => i = b) o6 rfl)
      have HW6 := hidE hW6
      have c3' := (rf_cells kw.blk).2.2.2
      clear hown kw x5 x6 o5 o6 hT HT c3'
      go_wp2_with fail
      go_end0
      exact HFIN.out
end Go.Proofs.YtchailjgikjhlaaDoor
