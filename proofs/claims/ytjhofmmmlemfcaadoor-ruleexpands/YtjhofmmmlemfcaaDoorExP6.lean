/- What spread returns (package rule): 'sprO'. -/
import Derived.Test.YtjhofmmmlemfcaaDoorExP5
namespace Go.Proofs.YtjhofmmmlemfcaaDoor
open Go.RowKit
set_option linter.unusedVariables false
set_option maxRecDepth 10000

def erO (E : Int) : Value := if E = 0 then .nilIface else .iface 37 (.int .i64 E)
def exV (p : List UInt8 × Int) : Value := .tuple #[.string (mkB p.1), erO p.2]
theorem exV_bad (E : Int) (h : E ≠ 0) : exV ([], E) = .tuple #[.string ⟨#[]⟩, .iface 37 (.int .i64 E)] := by
  unfold exV erO; rw [if_neg h]; rfl
theorem exV_ok (l : List UInt8) : exV (l, 0) = .tuple #[.string (mkB l), .nilIface] := by
  unfold exV erO; rw [if_pos rfl]
theorem ysL_nil (t : List UInt8) : ysL [] t = expL t := by unfold ysL; simp
theorem maxl_lt {w : World} (h : MxL w) : 1 < w.heap.size := by
  obtain ⟨m, e⟩ := h
  rcases Nat.lt_or_ge 1 w.heap.size with h1 | h1
  · exact h1
  · simp [World.cell?, Array.getElem?_eq_none h1] at e
set_option maxHeartbeats 16000000 in
theorem spread_any (t : List UInt8) (w : World) (htx : MxL w) (hl : t.length ≤ 2000) :
    Calls Tryd.prog 20 #[.string (mkB t)] w fun e w' => e = .returned (exV (sprO t)) ∧ Below w.heap.size w w' := by
  obtain ⟨Q, hQ⟩ : ∃ Q : Ending → World → Prop, Q = fun e w' => e = .returned (exV (sprO t)) ∧ Below w.heap.size w w' := ⟨_, rfl⟩
  have HQ : Hid (∀ x w', x = exV (sprO t) → Below w.heap.size w w' → Q (.returned x) w') := by rw [hQ]; exact fun x w' e h => ⟨by rw [e], h⟩
  rw [← hQ]
  clear hQ
  have hsp := splitM_any 10 t w htx (by omega)
  have HSP : Hid (sprO t = if (cutL 10 t).all (pairB false) = true then (if 2001 < sumL ((cutL 10 t).flatMap expL) then ([], 4) else (Lib.join ((cutL 10 t).flatMap expL) [10], 0)) else ([], 2)) := rfl
  have hlen := cut_len 10 t
  have hcnt := cut_cnt 10 t
  have hne := cut_ne 10 t
  generalize cutL 10 t = ls at hsp HSP hlen hcnt hne
  have hS0 := maxl_lt htx
  have b1 : Below w.heap.size w (w.alloc (.cells (ls.map fun x => Value.string (mkB x)).toArray 9)) := (Below.refl _ _).alloc (Nat.le_refl _) _
  have z1 : (w.alloc (.cells (ls.map fun x => Value.string (mkB x)).toArray 9)).heap.size = w.heap.size + 1 := by simp
  have hcel : ∀ j (hj : j < ls.length), (w.alloc (.cells (ls.map fun x => Value.string (mkB x)).toArray 9)).cell? ⟨w.heap.size, j, none⟩ = some (.string (mkB ls[j])) := fun j hj => by
    simp [World.cell?_alloc_new, hj]
  obtain ⟨W1, hW1⟩ : ∃ W1, w.alloc (.cells (ls.map fun x => Value.string (mkB x)).toArray 9) = W1 := ⟨_, rfl⟩
  rw [hW1] at b1 z1 hcel hsp
  have hmx1 := mxl_below htx hS0 b1
  obtain ⟨S, hS⟩ : ∃ S, w.heap.size = S := ⟨_, rfl⟩
  rw [hS] at b1 z1 hcel hsp hS0
  have hcf := conF_any S ls W1 hcel (fun x hx => by have := hlen x hx; omega) (by omega)
  have T0 := TeAt.new W1
  rw [z1] at T0
  obtain ⟨N, hN⟩ : ∃ N, ls.length = N := ⟨_, rfl⟩
  rw [hN] at hsp hcf hcnt
  have HN := hidR hN
  have HS := hidR hS
  have HB1 := hidR b1
  have HZ1 := hidR z1
  have HC := hidR hcel
  have HT0 := hidR T0
  have HF := hidR (And.intro hne (And.intro hlen (And.intro hl (And.intro hmx1 hS0))))
  rcases hall : ls.all (pairB false) with _ | _
  · have hq := HQ.out (.tuple #[.string ⟨#[]⟩, .iface 37 (.int .i64 2)]) W1 (by rw [HSP.out, if_neg (by rw [hall]; simp), exV_bad 2 (by decide)]) (by rw [HS.out]; exact HB1.out)
    have HQQ := hidR hq
    rw [hall] at hcf
    clear hq hne hlen hl htx b1 T0 hcel hW1 hN hS hmx1 hS0 hcnt hall
    go_enter Tryd.func20, Tryd.ntmps20
    go_wp2_with (first | (go_at_call 35; go_must (refine hsp.mono ?_; rintro e w2 ⟨rfl, hw2⟩; rw [hw2]; clear hw2)) | (go_at_call 36; go_must (refine hcf.mono ?_; rintro e w3 ⟨rfl, hw3⟩; rw [hw3]; clear hw3)))
    exact HQQ.out
  have hN2 : N ≤ 2001 := by omega
  have HPA : Hid (∀ x ∈ ls, pairB false x = true) := List.all_eq_true.1 hall
  rw [hall] at hcf
  have HSP2 : Hid (sprO t = if 2001 < sumL (ls.flatMap expL) then ([], 4) else (Lib.join (ls.flatMap expL) [10], 0)) := by rw [Hid, HSP.out, if_pos hall]
  clear hne hlen hl htx b1 T0 hcel hW1 hN hS hmx1 hS0 hall HSP
  go_enter Tryd.func20, Tryd.ntmps20
  go_upto_region 4 with (first | (go_at_call 35; go_must (refine hsp.mono ?_; rintro e w2 ⟨rfl, hw2⟩; rw [hw2]; clear hw2)) | (go_at_call 36; go_must (refine hcf.mono ?_; rintro e w3 ⟨rfl, hw3⟩; rw [hw3]; clear hw3)))
  clear hsp hcf
  go_upto_region 7 with fail
  rw [show S + 1 + 1 = S + 2 from rfl]
  obtain ⟨W3, hW3⟩ : ∃ W3, (W1.alloc (.cells #[.slice none 0 0] 22)).alloc (.cells #[.int .i64 (-1)] 3) = W3 := ⟨_, rfl⟩
  rw [hW3] at HT0 ⊢
  clear hW3
  go_upto_region 8 with fail
  go_loopw [9, 18] (fun _ i wr => ∃ (k : Nat) (v : Value), k ≤ N ∧ i = .int .i64 (k : Int) ∧ Hid (TeF (S + 1) (.slice none 0 0) v W3 wr) ∧ Hid (sumL ((ls.take k).flatMap expL) ≤ 2001) ∧ Hid (TeAt wr (S + 1) v (((ls.take k).flatMap expL).map mkB) ((sumL ((ls.take k).flatMap expL) : Int) - 1))) (fun _ i _ => ((N : Int) - intOf i).toNat)
  case atStart => exact ⟨0, .slice none 0 0, by omega, rfl, TeF.refl _ _ _, by simp [Hid, sumL], by have := HT0.out.1; simpa [Hid, sumL] using this⟩
  case round =>
    obtain ⟨k, v, hk, rfl, HFR, HSU, HT⟩ := hrel
    have HB3 : Hid (Below w.heap.size w wr) := by
      rw [HS.out]
      have h2 := HT0.out.2
      exact (HB1.out.trans (h2.mono (by omega))).trans (HFR.out.bel.mono (by omega))
    by_cases hlt : k < N
    · as_aux_lemma =>
      have hlt' : (k : Int) < (N : Int) := by omega
      have hk0 : (0 : Int) ≤ (k : Int) := by omega
      have hkl : k < ls.length := by rw [HN.out]; exact hlt
      obtain ⟨hne, hlen, hl, hmx1, hS0⟩ := HF.out
      have hbm : ls[k] ∈ ls := List.getElem_mem hkl
      have c0 : wr.cell? ⟨S, k, none⟩ = some (.string (mkB ls[k])) := by
        rw [HFR.out.bel.cell (p := ⟨S, k, none⟩) (show S < S + 1 by omega)]
        have h2 := HT0.out.2
        rw [h2.cell (p := ⟨S, k, none⟩) (show S < S + 1 by omega)]
        exact HC.out k hkl
      have hM5 : MxL wr := by
        have h2 := HT0.out.2
        exact mxl_below (mxl_below hmx1 (B := S + 1) (by omega) h2) (B := S + 1) (by omega) HFR.out.bel
      have hch := choose_any (S + 1) (by omega) _ ls[k] (Nat.le_refl _) (HPA.out _ hbm) [] wr v _ _ HT.out hM5 (by have := hlen _ hbm; simp; omega) (by omega) (by have := HSU.out; omega)
      rw [ysL_nil] at hch
      have e1 := flat_take expL ls k hkl
      have e3 := sum_take expL ls (k + 1)
      rw [show mkB [] = (⟨#[]⟩ : ByteArray) from rfl] at hch
      rw [show S + 1 + 1 = S + 2 from rfl] at hch
      obtain ⟨x, hx⟩ : ∃ x, ls[k] = x := ⟨_, rfl⟩
      rw [hx] at c0 hch e1
      have e2 : sumL ((ls.take (k + 1)).flatMap expL) = sumL ((ls.take k).flatMap expL) + sumL (expL x) := by rw [e1, sumL_append]
      have HG : Hid (∀ e w', ChoP (S + 1) v (((ls.take k).flatMap expL).map mkB) ((sumL ((ls.take k).flatMap expL) : Int) - 1) (expL x) wr e w' → (∃ v5, e = .returned (.bool true) ∧ TeF (S + 1) (.slice none 0 0) v5 W3 w' ∧ sumL ((ls.take (k + 1)).flatMap expL) ≤ 2001 ∧ TeAt w' (S + 1) v5 (((ls.take (k + 1)).flatMap expL).map mkB) ((sumL ((ls.take (k + 1)).flatMap expL) : Int) - 1)) ∨ (e = .returned (.bool false) ∧ Q (.returned (.tuple #[.string ⟨#[]⟩, .iface 37 (.int .i64 4)])) w')) := by
        intro e w' hcp
        obtain ⟨v5, f5, ⟨g1, g2, g3⟩ | ⟨g1, g2⟩⟩ := hcp.go
        · have e9 : sumL ((ls.take (k + 1)).flatMap expL) ≤ 2001 := by omega
          refine .inl ⟨v5, g2, HFR.out.trans f5, e9, ?_⟩
          rw [e1, List.map_append, sumL_append, show (((sumL ((ls.take k).flatMap expL) + sumL (expL x) : Nat) : Int)) - 1 = (sumL ((ls.take k).flatMap expL) : Int) - 1 + (sumL (expL x) : Int) by omega]
          exact g3
        · refine .inr ⟨g2, HQ.out _ _ ?_ (HB3.out.trans (f5.bel.mono (by rw [HS.out]; omega)))⟩
          rw [HSP2.out, if_pos (by omega), exV_bad 4 (by decide)]
      clear e1 e2 e3 hx HFR HSU HT HB3 hM5 hbm hkl hne hlen hl hmx1 hS0
      go_wp2_with (go_at_call 40; go_must (refine hch.mono ?_; intro e w5 hcp; rcases HG.out e w5 hcp with ⟨v5, rfl, r1, r2, r3⟩ | ⟨rfl, q5⟩))
      · go_roundw
        case rel => exact ⟨k + 1, v5, by omega, by go_num, r1, r2, r3⟩
        case measure => simp [intOf]; omega
      · exact q5
    · as_aux_lemma =>
      have hlt' : ¬ (k : Int) < (N : Int) := by omega
      obtain ⟨hne, hlen, hl, hmx1, hS0⟩ := HF.out
      have htk : ls.take k = ls := List.take_of_length_le (by rw [HN.out]; omega)
      have hR := HT.out
      have hsu := HSU.out
      rw [htk] at hR hsu
      have hyne : ls.flatMap expL ≠ [] := by
        cases ls with
        | nil => exact absurd rfl hne
        | cons x r =>
          rw [List.flatMap_cons]
          intro e0
          exact expL_ne _ x (Nat.le_refl _) (List.append_eq_nil_iff.1 e0).1
      have HSP3 : Hid (sprO t = (Lib.join (ls.flatMap expL) [10], 0)) := by rw [Hid, HSP2.out, if_neg (by omega)]
      have hjl := sumL_join 10 (ls.flatMap expL) hyne
      have hyl := sumL_len (ls.flatMap expL)
      generalize ls.flatMap expL = ys at hR hsu hyne HSP3 hjl hyl
      have hpos : 0 < (ys.map mkB).length := by rw [List.length_map]; exact List.length_pos_iff.2 hyne
      obtain ⟨g, cap, hv, hg1, hg2, hg3, hg4⟩ := hR.own.shape hpos
      have hmm : (ys.map mkB).map (·.data.toList) = ys := by
        rw [List.map_map]
        conv => rhs; rw [← List.map_id ys]
        apply List.map_congr_left
        intro x _
        exact mkB_toList x
      have hjo := Tryd.strings_Join g 0 cap (ys.map mkB) ⟨#[10]⟩ wr (fun j x hx => by
        rw [Nat.zero_add]
        obtain ⟨hj, rfl⟩ := List.getElem?_eq_some_iff.1 hx
        have ho := hR.own
        rw [hv] at ho
        exact ho.cell rfl j hj) hg2 (by rw [List.length_map]; omega) hg3 (by rw [hmm]; show (Lib.join ys [10]).length ≤ _; omega)
      rw [hmm] at hjo
      rw [show (⟨#[10]⟩ : ByteArray).data.toList = [10] from rfl] at hjo
      rw [show (⟨(Lib.join ys [10]).toArray⟩ : ByteArray) = mkB (Lib.join ys [10]) from rfl] at hjo
      obtain ⟨c0, f0⟩ := cell1 hR.c0
      rw [hv] at c0
      have hq := fun w5 (b5 : Below wr.heap.size wr w5) => HQ.out (.tuple #[.string (mkB (Lib.join ys [10])), .nilIface]) w5 (by rw [HSP3.out, exV_ok]) (HB3.out.trans (b5.mono HB3.out.size))
      have HQQ := hidR hq
      generalize (ys.map mkB).length = M at hjo c0
      generalize Lib.join ys [10] = jn at hjo HQQ
      clear hR hv hg1 hg2 hg3 hg4 hmm hpos hne hlen hl hmx1 hS0 HT htk hsu hyne hjl hyl hq HFR HSU HB3
      go_wp2_with (go_at_call 41; go_must (refine hjo.mono ?_; rintro e w5 ⟨rfl, b5⟩))
      exact HQQ.out _ b5
end Go.Proofs.YtjhofmmmlemfcaaDoor
