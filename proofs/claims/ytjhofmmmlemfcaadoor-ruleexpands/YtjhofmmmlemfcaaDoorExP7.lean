/- What Names and Expand return (package rule) of any text: 'nmAll', 'expS'. -/
import Derived.Test.YtjhofmmmlemfcaaDoorExN2
import Derived.Test.YtjhofmmmlemfcaaDoorExP2
import Derived.Test.YtjhofmmmlemfcaaDoorExFul
namespace Go.Proofs.YtjhofmmmlemfcaaDoor
open Go.RowKit
set_option linter.unusedVariables false
set_option maxRecDepth 10000

def nmAll (s : List UInt8) : List (List UInt8) × List (List UInt8) × Int := if 2000 < s.length then ([], [], 4) else nmP [] [] (lnsL s)
structure NmR (w : World) (s : List UInt8) (v u : Value) (w' : World) : Prop where
  o1 : OwnS w' w.heap.size v ((nmAll s).1.map mkB)
  o2 : OwnS w' w.heap.size u ((nmAll s).2.1.map mkB)
  bel : Below w.heap.size w w'
theorem names_all (s : List UInt8) (w : World) (hM : MxL w) :
    Calls Tryd.prog 5 #[.string (mkB s)] w fun e w' => ∃ v u, e = .returned (.tuple #[v, u, erO (nmAll s).2.2]) ∧ NmR w s v u w' := by
  by_cases hl : 2000 < s.length
  · refine (names_full s w hl).mono ?_
    rintro e w' ⟨rfl, hb⟩
    have e1 : nmAll s = ([], [], 4) := by unfold nmAll; rw [if_pos hl]
    refine ⟨_, _, ?_, ⟨by rw [e1]; exact OwnS.nil _ _, by rw [e1]; exact OwnS.nil _ _, hb⟩⟩
    rw [e1]
    unfold erO
    rw [if_neg (by decide)]
  · refine (names_any s w hM (by omega)).mono ?_
    rintro e w' ⟨v, u, rfl, h1, h2, h3⟩
    have e1 : nmAll s = nmP [] [] (lnsL s) := by unfold nmAll; rw [if_neg hl]
    exact ⟨v, u, by rw [e1], ⟨by rw [e1]; exact h1, by rw [e1]; exact h2, h3⟩⟩
theorem nmAll_len (s : List UInt8) : (nmAll s).1.length = (nmAll s).2.1.length ∧ (nmAll s).1.length ≤ 2000 ∧ (∀ t ∈ (nmAll s).2.1, t.length ≤ 2000) ∧ ∀ t ∈ (nmAll s).1, t.length ≤ 8 := by
  unfold nmAll
  split
  · exact ⟨rfl, by simp, (fun t ht => absurd ht (by simp)), (fun t ht => absurd ht (by simp))⟩
  · rename_i hl
    by_cases h0 : (nmP [] [] (lnsL s)).2.2 = 0
    · obtain ⟨g1, g2, g3, g4⟩ := nmP_len (lnsL s) [] [] 2000 h0 rfl (fun x hx => Nat.le_trans (lns_len hx) (by omega)) (fun t ht => absurd ht (by simp)) (fun t ht => absurd ht (by simp))
      exact ⟨g1, by have := lns_cnt s; simp at g2; omega, g3, g4⟩
    · have key : ∀ (ls ns ts : List (List UInt8)), (nmP ns ts ls).2.2 ≠ 0 → (nmP ns ts ls).1 = [] ∧ (nmP ns ts ls).2.1 = [] := by
        intro ls
        induction ls with
        | nil => intro ns ts h; rw [nmP] at h; exact absurd rfl h
        | cons x r ih =>
          intro ns ts h
          rw [nmP] at h ⊢
          by_cases hp : Lib.hasPrefix x letP = true
          · rw [if_pos hp] at h ⊢
            rcases hsx : sayO x with _ | ⟨a, b⟩
            · exact ⟨rfl, rfl⟩
            · rw [hsx] at h
              by_cases hm : a ∈ ns
              · show (if a ∈ ns then ([], [], 7) else nmP (ns ++ [a]) (ts ++ [b]) r).1 = [] ∧ (if a ∈ ns then ([], [], 7) else nmP (ns ++ [a]) (ts ++ [b]) r).2.1 = []
                rw [if_pos hm]; exact ⟨rfl, rfl⟩
              · have h' : (if a ∈ ns then ([], [], 7) else nmP (ns ++ [a]) (ts ++ [b]) r).2.2 ≠ (0 : Int) := h
                show (if a ∈ ns then ([], [], 7) else nmP (ns ++ [a]) (ts ++ [b]) r).1 = [] ∧ (if a ∈ ns then ([], [], 7) else nmP (ns ++ [a]) (ts ++ [b]) r).2.1 = []
                rw [if_neg hm] at h' ⊢; exact ih _ _ h'
          · rw [if_neg hp] at h ⊢; exact ih _ _ h
      obtain ⟨k1, k2⟩ := key _ _ _ h0
      rw [k1, k2]
      exact ⟨rfl, by simp, (fun t ht => absurd ht (by simp)), (fun t ht => absurd ht (by simp))⟩
theorem expS_eq (s : List UInt8) : expS s = if (nmAll s).2.2 ≠ 0 then ([], (nmAll s).2.2) else match filO (nmAll s).1 (nmAll s).2.1 (outL (lnsL s)) with
    | none => ([], 5)
    | some t => if 2000 < t.length then ([], 4) else sprO t := by
  unfold expS nmAll
  by_cases h : 2000 < s.length
  · rw [if_pos h, if_pos h]; rfl
  · rw [if_neg h, if_neg h]; rfl
theorem erV_split (E : Int) : (E = 0 ∧ erO E = .nilIface) ∨ (E ≠ 0 ∧ erO E = .iface 37 (.int .i64 E)) := by
  unfold erO
  by_cases h : E = 0
  · exact .inl ⟨h, by rw [if_pos h]⟩
  · exact .inr ⟨h, by rw [if_neg h]⟩
set_option maxHeartbeats 4000000 in
theorem expand_any (s : List UInt8) (w : World) (hM : MxL w) :
    Calls Tryd.prog 8 #[.string (mkB s)] w fun e w' => e = .returned (exV (expS s)) ∧ Below w.heap.size w w' := by
  obtain ⟨Q, hQ⟩ : ∃ Q : Ending → World → Prop, Q = fun e w' => e = .returned (exV (expS s)) ∧ Below w.heap.size w w' := ⟨_, rfl⟩
  have HQ : Hid (∀ x w', x = exV (expS s) → Below w.heap.size w w' → Q (.returned x) w') := by rw [hQ]; exact fun x w' e h => ⟨by rw [e], h⟩
  rw [← hQ]
  clear hQ
  have h1 := names_all s w hM
  have hE := expS_eq s
  have hL := nmAll_len s
  have hM0 := maxl_lt hM
  rcases erV_split (nmAll s).2.2 with ⟨h0, h0v⟩ | ⟨h0, h0v⟩
  · have hs : s.length ≤ 2000 := by
      unfold nmAll at h0
      split at h0
      · exact absurd h0 (by decide)
      · omega
    have hol : (outL (lnsL s)).length ≤ 2000 := by
      have := outL_len (lnsL s) (lnsL s) (List.prefix_refl _)
      rw [lnsL_flat] at this; omega
    have h2 := fun w => without_any s w (by omega) (by rw [lnsL_flat]; omega)
    rw [h0v] at h1
    rw [if_neg (by rw [h0]; simp)] at hE
    have h3 := fun (v u : Value) w (hv : RowT w v (nmAll s).1) (hu : RowT w u (nmAll s).2.1) => fill_any (nmAll s).1 (nmAll s).2.1 (outL (lnsL s)) v u w hv hu hL.1 (by have := hL.2.1; omega) hL.2.2.1 hol
    generalize outL (lnsL s) = os at h2 h3 hE
    have HE := hidR hE
    have HM := hidR (And.intro hM hM0)
    have H3 := hidR h3
    clear hE hL hM hM0 h0 h0v hs hol h3
    rcases hf : filO (nmAll s).1 (nmAll s).2.1 os with _ | t
    · as_aux_lemma =>
      have HF := hidR hf
      rw [hf] at H3
      clear hf
      have HQ2 : Hid (∀ w', Below w.heap.size w w' → Q (.returned (.tuple #[.string ⟨#[]⟩, .iface 37 (.int .i64 5)])) w') := fun w' hb => HQ.out _ w' (by rw [HE.out, HF.out, exV_bad 5 (by decide)]) hb
      have H4 : Hid (∀ v u w, RowT w v (nmAll s).1 → RowT w u (nmAll s).2.1 → Calls Tryd.prog 18 #[.string (mkB os), v, u] w fun e w' => e = .returned (.tuple #[.string ⟨#[]⟩, .iface 37 (.int .i64 5)]) ∧ Below w.heap.size w w') := H3.out
      clear HE H3 HQ HF
      go_enter Tryd.func8, Tryd.ntmps8
      go_upto_region 2 with (go_at_call 5; go_must (refine h1.mono ?_; rintro e w1 ⟨v, u, rfl, r1⟩))
      have HR1 := hidR r1
      clear h1 r1
      go_wp2_with (first | (go_at_call 19; go_must (refine (h2 _).mono ?_; rintro e w2 ⟨rfl, b2⟩; have h3 := H4.out v u w2 (HR1.out.o1.rowT.below b2) (HR1.out.o2.rowT.below b2); have HB2 := hidR b2; clear b2)) | (go_at_call 18; go_must (refine h3.mono ?_; rintro e w3 ⟨rfl, b3⟩)))
      exact HQ2.out _ ((HR1.out.bel.trans (HB2.out.mono HR1.out.bel.size)).trans (b3.mono (Nat.le_trans HR1.out.bel.size HB2.out.size)))
    by_cases hb : 2000 < t.length
    · as_aux_lemma =>
      have HF : Hid (filV (some t) = .tuple #[.string ⟨#[]⟩, .iface 37 (.int .i64 4)]) := by show filV (some t) = _; unfold filV; simp only; rw [if_pos hb]
      have HE : Hid (expS s = ([], 4)) := by rw [Hid, HE.out, hf]; simp only; rw [if_pos hb]
      rw [hf, HF.out] at H3
      clear hf hb
      have HQ2 : Hid (∀ w', Below w.heap.size w w' → Q (.returned (.tuple #[.string ⟨#[]⟩, .iface 37 (.int .i64 4)])) w') := fun w' hb => HQ.out _ w' (by rw [HE.out, exV_bad 4 (by decide)]) hb
      have H4 : Hid (∀ v u w, RowT w v (nmAll s).1 → RowT w u (nmAll s).2.1 → Calls Tryd.prog 18 #[.string (mkB os), v, u] w fun e w' => e = .returned (.tuple #[.string ⟨#[]⟩, .iface 37 (.int .i64 4)]) ∧ Below w.heap.size w w') := H3.out
      clear HE H3 HQ HF
      go_enter Tryd.func8, Tryd.ntmps8
      go_upto_region 2 with (go_at_call 5; go_must (refine h1.mono ?_; rintro e w1 ⟨v, u, rfl, r1⟩))
      have HR1 := hidR r1
      clear h1 r1
      go_wp2_with (first | (go_at_call 19; go_must (refine (h2 _).mono ?_; rintro e w2 ⟨rfl, b2⟩; have h3 := H4.out v u w2 (HR1.out.o1.rowT.below b2) (HR1.out.o2.rowT.below b2); have HB2 := hidR b2; clear b2)) | (go_at_call 18; go_must (refine h3.mono ?_; rintro e w3 ⟨rfl, b3⟩)))
      exact HQ2.out _ ((HR1.out.bel.trans (HB2.out.mono HR1.out.bel.size)).trans (b3.mono (Nat.le_trans HR1.out.bel.size HB2.out.size)))
    · as_aux_lemma =>
      have HF : Hid (filV (some t) = .tuple #[.string (mkB t), .nilIface]) := by show filV (some t) = _; unfold filV; simp only; rw [if_neg hb]
      have HE : Hid (expS s = sprO t) := by rw [Hid, HE.out, hf]; simp only; rw [if_neg hb]
      rw [hf, HF.out] at H3
      have HSP : Hid (∀ w, MxL w → Calls Tryd.prog 20 #[.string (mkB t)] w fun e w' => e = .returned (exV (expS s)) ∧ Below w.heap.size w w') := fun w hM => by rw [HE.out]; exact spread_any t w hM (by omega)
      have H4 : Hid (∀ v u w, RowT w v (nmAll s).1 → RowT w u (nmAll s).2.1 → Calls Tryd.prog 18 #[.string (mkB os), v, u] w fun e w' => e = .returned (.tuple #[.string (mkB t), .nilIface]) ∧ Below w.heap.size w w') := H3.out
      have HXV : Hid (∃ l er, exV (expS s) = .tuple #[.string l, er]) := ⟨_, _, rfl⟩
      obtain ⟨xl, xe, hxv⟩ := HXV.out
      rw [hxv] at HSP HQ
      clear HE H3 HF hf hb HXV hxv
      go_enter Tryd.func8, Tryd.ntmps8
      go_upto_region 2 with (go_at_call 5; go_must (refine h1.mono ?_; rintro e w1 ⟨v, u, rfl, r1⟩))
      have HR1 := hidR r1
      clear h1 r1
      go_upto_region 5 with (first | (go_at_call 19; go_must (refine (h2 _).mono ?_; rintro e w2 ⟨rfl, b2⟩; have h3 := H4.out v u w2 (HR1.out.o1.rowT.below b2) (HR1.out.o2.rowT.below b2); have HB2 := hidR b2; clear b2)) | (go_at_call 18; go_must (refine h3.mono ?_; rintro e w3 ⟨rfl, b3⟩)))
      have HB3 : Hid (Below w.heap.size w w3) := (HR1.out.bel.trans (HB2.out.mono HR1.out.bel.size)).trans (b3.mono (Nat.le_trans HR1.out.bel.size HB2.out.size))
      have h5 := HSP.out w3 (mxl_below HM.out.1 HM.out.2 HB3.out)
      clear h3 b3 HB2 HR1 H4 h2
      go_wp2_with (go_at_call 20; go_must (refine h5.mono ?_; rintro e w5 ⟨rfl, b5⟩))
      exact HQ.out _ _ rfl (HB3.out.trans (b5.mono HB3.out.size))
  · have HE2 := hidR (HQ.out (exV ([], (nmAll s).2.2)))
    rw [h0v] at h1
    rw [if_pos h0] at hE
    have HQ2 : Hid (∀ w', Below w.heap.size w w' → Q (.returned (.tuple #[.string ⟨#[]⟩, .iface 37 (.int .i64 (nmAll s).2.2)])) w') := fun w' hb => by
      have := HQ.out (exV ([], (nmAll s).2.2)) w' (by rw [hE]) hb
      rw [exV_bad _ h0] at this; exact this
    generalize (nmAll s).2.2 = E at h1 HQ2
    clear hE hL hM hM0 h0 h0v HE2 HQ
    go_enter Tryd.func8, Tryd.ntmps8
    go_wp2_with (go_at_call 5; go_must (refine h1.mono ?_; rintro e w1 ⟨v, u, rfl, r1⟩))
    exact HQ2.out _ r1.bel
end Go.Proofs.YtjhofmmmlemfcaaDoor
