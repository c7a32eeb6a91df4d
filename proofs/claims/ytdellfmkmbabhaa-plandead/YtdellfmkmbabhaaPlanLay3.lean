/- What 'lay' returns (package plan): the walk. -/
import Derived.Test.YtdellfmkmbabhaaPlanLay2
import Derived.Deep.RegionLaw
namespace Go.Proofs.Ytdellfmkmbabhaa
open Go.RowKit
set_option linter.unusedVariables false
set_option maxRecDepth 10000

theorem whole_at {W : World} {B k : Nat} {t : TypeId} (h : W.heap[B]? = some (.cells wholeA t (0, 0))) (hk : k < 6) : W.cell? ⟨B, k * 2, none⟩ = some (.int .i64 (sideLo k)) ∧ W.cell? ⟨B, k * 2 + 1, none⟩ = some (.int .i64 (sideHi k)) := by
  match k, hk with
  | 0, _ => exact ⟨by rw [cell_of_row _ _ _ _ _ _ h]; rfl, by rw [cell_of_row _ _ _ _ _ _ h]; rfl⟩
  | 1, _ => exact ⟨by rw [cell_of_row _ _ _ _ _ _ h]; rfl, by rw [cell_of_row _ _ _ _ _ _ h]; rfl⟩
  | 2, _ => exact ⟨by rw [cell_of_row _ _ _ _ _ _ h]; rfl, by rw [cell_of_row _ _ _ _ _ _ h]; rfl⟩
  | 3, _ => exact ⟨by rw [cell_of_row _ _ _ _ _ _ h]; rfl, by rw [cell_of_row _ _ _ _ _ _ h]; rfl⟩
  | 4, _ => exact ⟨by rw [cell_of_row _ _ _ _ _ _ h]; rfl, by rw [cell_of_row _ _ _ _ _ _ h]; rfl⟩
  | 5, _ => exact ⟨by rw [cell_of_row _ _ _ _ _ _ h]; rfl, by rw [cell_of_row _ _ _ _ _ _ h]; rfl⟩
theorem Try.infoSpans : (Try.prog.info? 83).map (fun i => (i.zero, i.size, i.bytes)) = some (some .nilFunc, 1, 8) := by kernel_rfl
theorem asked_idx {k : Nat} (hk : k < 6) (W : World) : (Instr.index 84 (.agg askedA) (.int .i64 (k : Int))).run Try.prog W = .ok (.func (.func (askF k)) #[] #[]) W := by
  obtain ⟨i0, hi, hz0, hz1, hz2⟩ := info_parts Try.infoSpans
  unfold askedA
  match k, hk with
  | 0, _ => simp [Instr.index, asIntOf, run_underlying Try.underlying84, run_underlying Try.underlying83, sizeOf, typeInfo, hi, hz1, part, isAgg]
  | 1, _ => simp [Instr.index, asIntOf, run_underlying Try.underlying84, run_underlying Try.underlying83, sizeOf, typeInfo, hi, hz1, part, isAgg]
  | 2, _ => simp [Instr.index, asIntOf, run_underlying Try.underlying84, run_underlying Try.underlying83, sizeOf, typeInfo, hi, hz1, part, isAgg]
  | 3, _ => simp [Instr.index, asIntOf, run_underlying Try.underlying84, run_underlying Try.underlying83, sizeOf, typeInfo, hi, hz1, part, isAgg]
  | 4, _ => simp [Instr.index, asIntOf, run_underlying Try.underlying84, run_underlying Try.underlying83, sizeOf, typeInfo, hi, hz1, part, isAgg]
  | 5, _ => simp [Instr.index, asIntOf, run_underlying Try.underlying84, run_underlying Try.underlying83, sizeOf, typeInfo, hi, hz1, part, isAgg]
theorem LaySt.of {w W : World} {P : Nat} {v : Value} {RS : List Rl} (h : DdSt w W P v RS) : LaySt w W P 0 RS v (fun _ => .slice none 0 0) (fun _ => []) :=
  ⟨h.box, h.own, fun i hi => absurd hi (Nat.not_lt_zero _), fun i _ => rfl, h.bel, h.sz⟩
theorem LaySt.at {w W : World} {P k : Nat} {RS : List Rl} {v : Value} {cv : Nat → Value} {Cs : Nat → List St} (h : LaySt w W P k RS v cv Cs) {i : Nat} (hi : i < 6) : W.cell? ⟨P, 1 + i, none⟩ = some (cv i) ∧ W.frozen? ⟨P, 1 + i, none⟩ = false := by
  refine ⟨?_, frozen_of_row _ _ _ _ _ h.box⟩
  rw [cell_of_row _ _ _ _ _ _ h.box]
  match i, hi with
  | 0, _ => rfl
  | 1, _ => rfl
  | 2, _ => rfl
  | 3, _ => rfl
  | 4, _ => rfl
  | 5, _ => rfl
set_option maxHeartbeats 16000000 in
theorem lay_any (v : Value) (rs : List Rx) (w : World) (hv : Rls w v rs) (hr : ∀ r ∈ rs.map Prod.fst, ruE r = 0) (hn : rs.length ≤ 20) :
    Calls Try.prog 12 #[v] w fun e w' => ∃ dv cv Cs, e = .returned (.pointer (some ⟨w.heap.size, 0, none⟩)) ∧ LaySt w w' w.heap.size 6 (rs.map Prod.fst) dv cv Cs := by
  obtain ⟨ao, co, hve⟩ := hv.len
  obtain ⟨N, hN⟩ : ∃ N, rs.length = N := ⟨_, rfl⟩
  rw [hN] at hve
  subst hve
  obtain ⟨P, hP⟩ : ∃ P, w.heap.size = P := ⟨_, rfl⟩
  have HCT := hidE (fun k (hk : k < 6) W (hb : Below w.heap.size w W) => cut_any k (.slice ao N co) rs W (hv.below hb) hr hn (askF k) (askF_asks hk) (askF_enters hk))
  obtain ⟨RS, hRS⟩ : ∃ RS, rs.map Prod.fst = RS := ⟨_, rfl⟩
  rw [hRS] at HCT ⊢
  obtain ⟨Q, hQ⟩ : ∃ Q : Ending → World → Prop, Q = fun e w' => ∃ dv cv Cs, e = .returned (.pointer (some ⟨w.heap.size, 0, none⟩)) ∧ LaySt w w' w.heap.size 6 RS dv cv Cs := ⟨_, rfl⟩
  have HQ : Hid (∀ w' dv cv Cs, LaySt w w' w.heap.size 6 RS dv cv Cs → Q (.returned (.pointer (some ⟨w.heap.size, 0, none⟩))) w') := by rw [hQ]; exact fun w' dv cv Cs h => ⟨dv, cv, Cs, rfl, h⟩
  rw [← hQ]
  clear hQ
  have D0 := DdSt.new w
  obtain ⟨W0, hW0⟩ : ∃ W0, w.alloc (.cells #[.slice none 0 0, .slice none 0 0, .slice none 0 0, .slice none 0 0, .slice none 0 0, .slice none 0 0, .slice none 0 0] 61) = W0 := ⟨_, rfl⟩
  rw [hW0, hP] at D0
  rw [hP] at HQ HCT
  have HP := hidE hP
  have HW0 := hidE hW0
  have HD0 := hidE D0
  have HV := hidE hv
  have HNN := hidE hN
  have HRS := hidE hRS
  have hN20 : N ≤ 20 := by omega
  clear hv hr hn hN hRS hW0 D0 hP
  go_enter Try.func12, Try.ntmps12
  go_upto_region 2 with fail
  rw [HW0.out, HP.out]
  go_upto_region 3 with fail
  go_loopw [5, 13] (fun _ i wr => ∃ (k : Nat) (dv : Value), k ≤ N ∧ i = .int .i64 (k : Int) ∧ Hid (DdSt w wr P dv (RS.take k))) (fun _ i _ => ((N : Int) - intOf i).toNat)
  case atStart => exact ⟨0, .slice none 0 0, by omega, rfl, HD0.out⟩
  case round =>
    clear HD0 HW0
    obtain ⟨k, dv, hk, rfl, HD⟩ := hrel
    by_cases hkn : k < N
    · have j1 : (k : Int) < (N : Int) := by omega
      have j2 : (0 : Int) ≤ (k : Int) := by omega
      have hkl : k < rs.length := by have := HNN.out; omega
      have hkR : k < RS.length := by rw [← HRS.out, List.length_map]; exact hkl
      obtain ⟨b1, o1, e1, hb1, hl1, hx1, hc1⟩ := HV.out.shape (by omega)
      subst e1
      have hx1' : co ≤ 9223372036854775807 := by unfold maxLen at hx1; omega
      have hC := (hc1 k hkl).below hb1 (by rw [HP.out]; exact HD.out.bel)
      have HT := hidE (List.take_succ_eq_append_getElem hkR)
      have hRk : RS[k] = rs[k].1 := by
        have := HRS.out
        subst this
        rw [List.getElem_map]
      rw [hRk] at HT
      generalize rs[k].1 = r at hC HT
      generalize rs[k].2.1 = fv at hC
      generalize rs[k].2.2 = tv at hC
      obtain ⟨af, cf, hfe⟩ := hC.2.1.len
      obtain ⟨at', ct, hte⟩ := hC.2.2.1.len
      generalize hnf : r.fr.length = nf at hfe
      generalize hnt : r.tl.length = nt at hte
      subst hfe hte
      clear hc1 hx1 hRk
      obtain ⟨⟨c0, c1, c2, c3, c4, c5, c6, c7, c8, c9, c10⟩, _, _, s3, s4⟩ := hC
      have b2 : Below wr.heap.size wr (wr.alloc (.cells #[.bool r.pass, .bool r.quick, .bool r.keep, .int .i64 r.way, .int .i64 r.kind, .int .i64 r.sa, .int .i64 r.sl, .int .i64 r.da, .int .i64 r.dl, .slice af nf cf, .slice at' nt ct] 34)) := (Below.refl _ _).alloc (Nat.le_refl _) _
      have hR2 := RlAt.new wr r (.slice af nf cf) (.slice at' nt ct)
      have hD2 := HD.out.below b2
      obtain ⟨W2, hW2⟩ : ∃ W2, wr.alloc (.cells #[.bool r.pass, .bool r.quick, .bool r.keep, .int .i64 r.way, .int .i64 r.kind, .int .i64 r.sa, .int .i64 r.sl, .int .i64 r.da, .int .i64 r.dl, .slice af nf cf, .slice at' nt ct] 34) = W2 := ⟨_, rfl⟩
      have HW2 := hidE hW2
      rw [hW2] at hR2 hD2
      obtain ⟨d0, d1, d2, d3, d4, d5, d6, d7, d8, d9, d10⟩ := hR2.cells
      obtain ⟨X, hX⟩ : ∃ X, wr.heap.size = X := ⟨_, rfl⟩
      rw [hX] at d0 d1 d2 d3 d4 d5 d6 d7 d8 d9 d10
      have HX := hidE hX
      have e0 : W2.cell? ⟨P, 0, none⟩ = some dv := by rw [cell_of_row _ _ _ _ _ _ hD2.box]; rfl
      have ownW : OwnD W2.drew (P + 1) dv (RS.take k) := hD2.own
      have hbW : P + 1 ≤ W2.drew.heap.size := hD2.sz
      have hlW : (RS.take k).length ≤ 1000000 := by rw [List.length_take]; omega
      obtain ⟨ad, cd, hdv⟩ := OwnN.len hD2.own
      generalize (RS.take k).length = nd at hdv
      subst hdv
      have HD2 := hidE hD2
      have e1 : (W2.alloc (.cells #[.bool r.pass, .bool r.quick, .bool r.keep] 64)).cell? ⟨P, 0, none⟩ = some (.slice ad nd cd) := by
        have bz : Below W2.heap.size W2 (W2.alloc (.cells #[.bool r.pass, .bool r.quick, .bool r.keep] 64)) := (Below.refl _ _).alloc (Nat.le_refl _) _
        rw [bz.cell (p := ⟨P, 0, none⟩) (by have := hD2.sz; show P < _; omega)]; exact e0
      clear s3 s4 b2 hR2 hD2 hW2 hX HD hnf hnt hkR hkl
      go_upto_region 5 with fail
      rw [HW2.out, HX.out]
      clear c0 c1 c2 c3 c4 c5 c6 c7 c8 c9 c10 d3 d4 d5 d6 d7 d8 d9 d10 HW2
      go_region_law (refine step_append_d (.tmp 21) (.tmp 29) rfl rfl ownW r rfl hlW hbW ?_; intro v6 w6 own6 gr6 lie6; obtain ⟨R6, c6, f6, _⟩ := DdSt.append (W := W2.drew) ⟨HD2.out.box, HD2.out.own, HD2.out.bel.drew, HD2.out.sz⟩ own6 gr6; obtain ⟨a6, k6, hv6⟩ := OwnN.len own6; generalize (RS.take k ++ [r]).length = n6 at hv6; subst hv6; have HR6 := hidE R6; clear R6 own6 gr6 lie6)
      all_goals
        go_wp2_with fail
        go_roundw
        case rel => exact ⟨k + 1, _, by omega, by go_num, by rw [Hid, HT.out]; exact HR6.out⟩
        case measure => simp [intOf]; omega
    · have j1 : ¬ (k : Int) < (N : Int) := by omega
      have e : RS.take k = RS := List.take_of_length_le (by rw [← HRS.out, List.length_map, HNN.out]; omega)
      rw [e] at HD
      clear e HV
      obtain ⟨ad, cd, hdv⟩ := OwnN.len HD.out.own
      have hwh := whole_plan wr
      unfold wholeA at hwh
      go_upto_region 8 with (go_at_call 24; go_must (refine hwh.mono ?_; rintro e w3 ⟨rfl, b3⟩))
      have b4 : Below w3.heap.size w3 (w3.alloc (.cells wholeA 74)) := (Below.refl _ _).alloc (Nat.le_refl _) _
      have n4 := heap_alloc_new w3 (.cells wholeA 74)
      have L4 := (LaySt.of ((HD.out.below b3).below b4))
      obtain ⟨B, hB⟩ : ∃ B, w3.heap.size = B := ⟨_, rfl⟩
      have hPB : P < B := by have := HD.out.sz; have := b3.size; omega
      have hzB : B < (w3.alloc (.cells wholeA 74)).heap.size := by rw [← hB]; simp
      unfold wholeA at b4 n4 L4 hzB
      obtain ⟨W4, hW4⟩ : ∃ W4, w3.alloc (.cells #[.int .i64 1, .int .i64 2, .int .i64 0, .int .i64 15, .int .i64 0, .int .i64 4294967295, .int .i64 0, .int .i64 65535, .int .i64 0, .int .i64 4294967295, .int .i64 0, .int .i64 65535] 74) = W4 := ⟨_, rfl⟩
      rw [hW4] at n4 L4 hzB ⊢
      rw [hB] at n4 ⊢
      have hn4 : W4.heap[B]? = some (.cells wholeA 74 (0, 0)) := n4
      have has := asked_plan W4
      have HN4 := hidE hn4
      have HL4 := hidE L4
      clear hwh b3 b4 n4 L4 hW4 hB HD hn4 hdv
      go_upto_region 9 with (go_at_call 25; go_must (refine has.mono ?_; rintro e w5 ⟨rfl, b5⟩))
      have HL5 := hidE (HL4.out.below b5)
      have HN5 := hidE ((b5.block B hzB).trans HN4.out)
      have hz5 : B < w5.heap.size := Nat.lt_of_lt_of_le hzB b5.size
      have hidx := fun k (hk : k < 6) W => asked_idx hk W
      generalize hAA : (Value.agg askedA) = AA at hidx ⊢
      clear has b5 HL4 HN4 hzB hAA
      have HIX := hidE hidx
      clear hidx
      go_loopw [7, 8, 36] (fun _ _ i wr => ∃ (k : Nat) (cv : Nat → Value) (Cs : Nat → List St), k ≤ 6 ∧ i = .int .i64 (k : Int) ∧ Hid (LaySt w wr P k RS dv cv Cs) ∧ Hid (wr.heap[B]? = some (.cells wholeA 74 (0, 0))) ∧ Hid (B < wr.heap.size)) (fun _ _ i _ => ((6 : Int) - intOf i).toNat)
      case atStart => exact ⟨0, _, _, by omega, rfl, HL5.out, HN5.out, hz5⟩
      case round =>
        clear HL5 HN5 hz5
        obtain ⟨i, cv, Cs, hi6, rfl, HL, HN, HZ⟩ := hrel
        by_cases hlt : i < 6
        · have j3 : (i : Int) < 6 := by omega
          have j4 : (0 : Int) ≤ (i : Int) := by omega
          have hix := HIX.out i hlt
          obtain ⟨c0, c1⟩ := whole_at HN.out hlt
          have hct := HCT.out i hlt wr.drew HL.out.bel.drew
          have HOK := hidE (fun W (h : LaySt w W P i RS dv cv Cs) => h.at hlt)
          have HSTO := hidE (fun W v' C (h : LaySt w W P i RS dv cv Cs) (h2 : OwnSt W (P + 1) v' C) h3 h4 => h.store hlt h2 h3 h4)
          generalize sideLo i = lo at c0 hct HSTO
          generalize sideHi i = hi at c1 hct HSTO
          clear HIX
          go_upto_region 11 with fail
          go_region_with (go_at_call 26; refine hct.mono ?_; rintro e w6 ⟨v6, C6, rfl, own6, ok6, hl6, b6⟩; have b6' : Below _ wr w6 := ⟨b6.os, b6.tape, b6.output, b6.size, b6.block⟩; have L6 := HL.out.below b6'; have own6' := OwnN.rebase own6 (b' := P + 1) (by have := HL.out.sz; exact this); obtain ⟨c6, f6⟩ := HOK.out w6 L6; have S6 := HSTO.out w6 v6 C6 L6 own6' ok6 hl6; obtain ⟨a6, k6, hv6⟩ := OwnN.len own6; generalize C6.length = n6 at hv6; subst hv6)
          all_goals
            have hB6 : (w6.setCell ⟨P, 1 + i, none⟩ (.slice a6 n6 k6)).heap[B]? = some (.cells wholeA 74 (0, 0)) := (heap_setCell_other w6 ⟨P, 1 + i, none⟩ B _ (show B ≠ P by omega)).trans ((b6'.block B HZ.out).trans HN.out)
            have hz6 : B < (w6.setCell ⟨P, 1 + i, none⟩ (.slice a6 n6 k6)).heap.size := by
              have e : (w6.setCell ⟨P, 1 + i, none⟩ (.slice a6 n6 k6)).heap.size = w6.heap.size := by simp [World.setCell]
              rw [e]
              exact Nat.lt_of_lt_of_le HZ.out b6'.size
            have HS6 := hidE S6
            have HB6 := hidE hB6
            have HZ6 := hidE hz6
            clear hB6 hz6 S6 own6 own6' ok6 b6 b6' L6 c6 f6 HSTO HOK hct
            go_wp2_with fail
            go_roundw
            case rel => exact ⟨i + 1, _, _, by omega, by go_num, HS6.out, HB6.out, HZ6.out⟩
            case measure => simp [intOf]; omega
        · have j3 : ¬ (i : Int) < 6 := by omega
          have e6 : i = 6 := by omega
          subst e6
          have HF := hidE (HQ.out wr dv cv Cs HL.out)
          clear HL HN HZ HIX HCT HQ
          go_wp2
          exact HF.out
end Go.Proofs.Ytdellfmkmbabhaa
