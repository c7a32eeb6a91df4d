/- What the program's 'choose' returns (package span), whatever it is told to choose. -/
import Derived.Test.YtdellfmkmbabhaaSpnEnds
import Derived.Test.YtdellfmkmbabhaaSpnSet
namespace Go.Proofs.Ytdellfmkmbabhaa
open Go.RowKit
set_option linter.unusedVariables false

def chE (a b : List Sp) : Int := if spE a = 0 then spE b else spE a
def resL (e : Int) (p : Int → Bool) : List Sp := if e = 0 then setP p else []
theorem resL_0 (p : Int → Bool) : resL 0 p = setP p := by unfold resL; rw [if_pos rfl]
theorem erV_0 : erV 0 = .nilIface := rfl
theorem erV_n {n : Int} (h : ¬ n = 0) : erV n = .iface 62 (.int .i64 n) := by unfold erV; rw [if_neg h]
theorem extendL_bd {l : List Sp} {low high : Int} (h : ∀ s ∈ l, 0 ≤ s.2 ∧ s.2 ≤ 70000) (h0 : 0 ≤ high) (h1 : high ≤ 70000) : ∀ s ∈ extendL l low high, 0 ≤ s.2 ∧ s.2 ≤ 70000 := by
  rcases List.eq_nil_or_concat l with rfl | ⟨i, s, rfl⟩
  · intro s hs; rw [extendL_nil, List.mem_singleton] at hs; subst hs; exact ⟨h0, h1⟩
  · rw [List.concat_eq_append] at h ⊢
    rw [extendL_snoc]
    intro t ht
    split at ht
    · rcases List.mem_append.1 ht with ht | ht
      · exact h t (by simp [ht])
      · rw [List.mem_singleton] at ht; subst ht; exact ⟨h0, h1⟩
    · rcases List.mem_append.1 ht with ht | ht
      · exact h t ht
      · rw [List.mem_singleton] at ht; subst ht; exact ⟨h0, h1⟩
set_option maxHeartbeats 8000000 in
theorem choose_any (g : Nat) (f : Bool → Bool → Bool) (eg : ∀ args w, (callFunc g args).run Try.prog w = .ok (.enter g args) w) (hf : ∀ (x y : Bool) (W : World), Calls Try.prog g #[.bool x, .bool y] W fun e w' => e = .returned (.bool (f x y)) ∧ w' = W)
    (va vb : Value) (a b : List Sp) (w : World) (ha : Spns w va a) (hb : Spns w vb b) (hna : a.length ≤ 140737488355328) (hnb : b.length ≤ 140737488355328) :
    Calls Try.prog 66 #[va, vb, .func (.func g) #[] #[]] w fun e w' => ∃ v, e = .returned (.tuple #[v, erV (chE a b)]) ∧ OwnSp w' w.heap.size v (resL (chE a b) fun n => f (inB a n) (inB b n)) ∧ Below w.heap.size w w' := by
  have hca := fun W (h : Below w.heap.size w W) => spCheck_any va a W (ha.below h) hna
  have hcb := fun W (h : Below w.heap.size w W) => spCheck_any vb b W (hb.below h) hnb
  by_cases h1 : spE a = 0
  case neg =>
    have e1 : chE a b = spE a := by unfold chE; rw [if_neg h1]
    rw [e1]
    have e2 : resL (spE a) (fun n => f (inB a n) (inB b n)) = [] := by unfold resL; rw [if_neg h1]
    rw [e2]
    have hc := hca w (Below.refl _ _)
    rw [erV_n h1] at hc ⊢
    generalize spE a = z at hc ⊢
    clear hca hcb ha hb e1 e2 h1
    go_enter Try.func66, Try.ntmps66
    go_wp2_with (go_at_call 34; refine hc.mono ?_; rintro e w1 ⟨rfl, b1⟩)
    go_ret2
    exact ⟨_, rfl, OwnSp.nil _ _, b1⟩
  case pos =>
  by_cases h2 : spE b = 0
  case neg =>
    have e1 : chE a b = spE b := by unfold chE; rw [if_pos h1]
    rw [e1]
    have e2 : resL (spE b) (fun n => f (inB a n) (inB b n)) = [] := by unfold resL; rw [if_neg h2]
    rw [e2]
    have hc := hca w (Below.refl _ _)
    rw [h1, erV_0] at hc
    rw [erV_n h2] at hcb ⊢
    have HCB : Hid (∀ W, Below w.heap.size w W → Calls Try.prog 34 #[vb] W fun e w' => e = .returned (.iface 62 (.int .i64 (spE b))) ∧ Below W.heap.size W w') := hcb
    generalize spE b = z at HCB ⊢
    clear hca hcb ha hb e1 e2 h1 h2
    go_enter Try.func66, Try.ntmps66
    go_upto_region 4 with (go_at_call 34; refine hc.mono ?_; rintro e w1 ⟨rfl, b1⟩)
    have hc2 := HCB.out w1 b1
    clear hc
    go_wp2_with (go_at_call 34; refine hc2.mono ?_; rintro e w2 ⟨rfl, b2⟩)
    go_ret2
    exact ⟨_, rfl, OwnSp.nil _ _, b1.trans (b2.mono b1.size)⟩
  case pos =>
  obtain ⟨la, oka⟩ := of_spE h1
  obtain ⟨lb, okb⟩ := of_spE h2
  have e1 : chE a b = 0 := by unfold chE; rw [if_pos h1, h2]
  rw [e1, resL_0, erV_0]
  obtain ⟨p, hp⟩ : ∃ p : Int → Bool, (fun n => f (inB a n) (inB b n)) = p := ⟨_, rfl⟩
  have HP : Hid (∀ n, p n = f (inB a n) (inB b n)) := fun n => by rw [← hp]
  rw [hp]
  have HPE : Hid ((fun n => f (inB a n) (inB b n)) = p) := hp
  clear hp
  have hc := hca w (Below.refl _ _)
  rw [h1, erV_0] at hc
  rw [h2, erV_0] at hcb
  have HCB : Hid (∀ W, Below w.heap.size w W → Calls Try.prog 34 #[vb] W fun e w' => e = .returned .nilIface ∧ Below W.heap.size W w') := hcb
  have HA : Hid (Spns w va a) := ha
  have HB : Hid (Spns w vb b) := hb
  have HAB : Hid (a.length ≤ 200 ∧ b.length ≤ 200 ∧ OkS a ∧ OkS b) := ⟨la, lb, oka, okb⟩
  clear hca hcb ha hb e1 h1 h2 la lb oka okb hna hnb
  go_enter Try.func66, Try.ntmps66
  go_upto_region 4 with (go_at_call 34; refine hc.mono ?_; rintro e w1 ⟨rfl, b1⟩)
  have hc2 := HCB.out w1 b1
  clear hc
  go_upto_region 7 with (go_at_call 34; refine hc2.mono ?_; rintro e w2 ⟨rfl, b2⟩)
  have b2 := b1.trans (b2.mono b1.size)
  have hen := ends_any va vb a b w2 (HA.out.below b2) (HB.out.below b2) HAB.out.2.2.1 HAB.out.2.2.2 HAB.out.1 HAB.out.2.1
  have hen := hen.mono (R' := fun e w' => ∃ gE cE E, e = .returned (.slice (some ⟨gE, 0, none⟩) E.length cE) ∧ E.length ≤ cE ∧ cE ≤ 9223372036854775807 ∧ gE < w'.heap.size ∧ (∀ i (h : i < E.length), w'.cell? ⟨gE, i, none⟩ = some (.int .i64 E[i])) ∧ EndsIs a b E ∧ Below w2.heap.size w2 w') (fun e w' h => by
    obtain ⟨v, E, rfl, hI, hE, hb⟩ := h
    obtain ⟨gE, cE, rfl, _, h1, h2, h3⟩ := hI.shape hE.1
    unfold maxLen at h3
    exact ⟨gE, cE, E, rfl, h2, by omega, h1, fun i h => hI.cell rfl i h, hE, hb⟩)
  clear hc2 HCB
  go_wp2_with (go_at_call 72; refine hen.mono ?_; rintro e w3 ⟨gE, cE, E, rfl, hcE, hcE2, hgE, hcl, hEi, b3⟩)
  have b3 := b2.trans (b3.mono b2.size)
  have HR : Hid (chooseL p E 0 [] = setP p) := by
    obtain ⟨_, _, e1, e2, e3⟩ := hEi
    have := choose_is (f := f) (a := a) (b := b) e1 e2 e3
    rw [HPE.out] at this
    have e : ∀ n, f (inB a n) (inB b n) = p n := fun n => (HP.out n).symm
    exact setP_unique this.1 (fun n => by rw [this.2, e])
  have HE : Hid (∀ e ∈ E, 0 < e ∧ e ≤ 65536) := hEi.2.2.1
  obtain ⟨M, hM⟩ : ∃ M, E.length = M := ⟨_, rfl⟩
  have HM : Hid (E.length = M) := hM
  have hM2 : M ≤ 1000 := by rw [← hM]; exact hEi.2.1
  have HCL : Hid (∀ i (h : i < E.length), w3.cell? ⟨gE, i, none⟩ = some (.int .i64 E[i])) := hcl
  rw [hM] at hcE ⊢
  clear hM hEi hcl hen
  go_loopw [10, 11, 28] (fun v10 lv i wr => ∃ (k : Nat) (low : Int) (acc : List Sp), k ≤ M ∧ i = .int .i64 (k : Int) ∧ lv = .int .i64 low ∧ 0 ≤ low ∧ low ≤ 65536 ∧ OwnSp wr w3.heap.size v10 acc ∧ acc.length ≤ k ∧ Below w3.heap.size w3 wr ∧ Hid ((∀ s ∈ acc, 0 ≤ s.2 ∧ s.2 ≤ 70000) ∧ chooseL p (E.drop k) low acc = setP p)) (fun _ _ i _ => ((M : Int) - intOf i).toNat)
  case atStart => exact ⟨0, 0, [], by omega, rfl, rfl, by omega, by omega, OwnSp.nil _ _, by simp, Below.refl _ _, fun s hs => (by cases hs), HR.out⟩
  case round =>
    obtain ⟨k, low, acc, hk, rfl, rfl, hl0, hl1, hown, hal, hbw, hH⟩ := hrel
    have bw := b3.trans (hbw.mono b3.size)
    by_cases hlt : k < M
    · have hlt' : (k : Int) < (M : Int) := by omega
      have hkl : k < E.length := by rw [HM.out]; exact hlt
      have hnx := HE.out E[k] (List.getElem_mem _)
      have hc := (hbw.cell (p := ⟨gE, k, none⟩) hgE).trans (HCL.out k hkl)
      have HD : Hid (E.drop k = E[k] :: E.drop (k + 1)) := List.drop_eq_getElem_cons hkl
      obtain ⟨nx, hn⟩ : ∃ nx, E[k] = nx := ⟨_, rfl⟩
      rw [hn] at hnx hc HD
      have hha := lowHas_any va a low wr (HA.out.below bw) (by have := HAB.out.1; omega)
      have HHB : Hid (∀ W, Below w.heap.size w W → Calls Try.prog 73 #[vb, .int .i64 low] W fun e w' => e = .returned (.bool (inB b low)) ∧ Below W.heap.size W w') := fun W hW => lowHas_any vb b low W (HB.out.below hW) (by have := HAB.out.2.1; omega)
      have HPL : Hid (p low = f (inB a low) (inB b low)) := HP.out low
      generalize inB a low = xa at hha HPL
      generalize inB b low = xb at HHB HPL
      have hff := hf xa xb
      rw [← HPL.out] at hff
      have HSL : Hid (chooseL p (nx :: E.drop (k + 1)) low acc = chooseL p (E.drop (k + 1)) nx (if p low = true then extendL acc low (nx - 1) else acc)) := rfl
      have HOW : Hid (OwnSp wr w3.heap.size u10 acc) := hown
      have hwn : wrap64 (nx - 1) = nx - 1 := by unfold wrap64; omega
      obtain ⟨hnx0, hnx1⟩ := hnx
      clear hn hf
      obtain ⟨t, ht⟩ : ∃ t, p low = t := ⟨_, rfl⟩
      rw [ht] at hff HSL
      have HF : Hid (∀ s ∈ acc, 0 ≤ s.2 ∧ s.2 ≤ 70000) := hH.out.1
      have HG : Hid (chooseL p (E.drop (k + 1)) nx (if t = true then extendL acc low (nx - 1) else acc) = setP p) := by rw [Hid, ← HSL.out, ← HD.out]; exact hH.out.2
      clear ht HPL HSL
      cases t with
      | true =>
        rw [if_pos rfl] at HG
        go_upto_region 12 with fail
        go_upto_region 13 with (first
          | (go_at_fn g; refine (hff _).mono ?_; rintro e w7 ⟨rfl, rfl⟩)
          | (go_at_call_of 73 (va); refine hha.mono ?_; rintro e w5 ⟨rfl, b5⟩)
          | (go_at_call_of 73 (vb); refine (HHB.out _ (bw.trans (b5.mono bw.size))).mono ?_; rintro e w6 ⟨rfl, b6⟩))
        have b56 : Below wr.heap.size wr w7 := b5.trans (b6.mono b5.size)
        have bw7 : Below w3.heap.size w3 w7 := hbw.trans (b56.mono hbw.size)
        have hex := extend_any w3.heap.size u10 acc low (nx - 1) w7 (HOW.out.below b56) (by omega) bw7.size hl0 (by omega) HF.out
        clear hff hha HHB hown
        go_wp2_with (go_at_call 74; refine hex.mono ?_; rintro e w8 ⟨v8, rfl, own8, b8⟩)
        go_roundw
        case rel => exact ⟨k + 1, nx, extendL acc low (nx - 1), by omega, by go_num, rfl, by omega, by omega, own8, by have := extendL_len acc low (nx - 1); omega, bw7.trans b8, extendL_bd HF.out (by omega) (by omega), HG.out⟩
        case measure => simp [intOf]; omega
      | false =>
        rw [if_neg (by simp)] at HG
        go_upto_region 12 with fail
        go_upto_region 14 with (first
          | (go_at_fn g; refine (hff _).mono ?_; rintro e w7 ⟨rfl, rfl⟩)
          | (go_at_call_of 73 (va); refine hha.mono ?_; rintro e w5 ⟨rfl, b5⟩)
          | (go_at_call_of 73 (vb); refine (HHB.out _ (bw.trans (b5.mono bw.size))).mono ?_; rintro e w6 ⟨rfl, b6⟩))
        have b56 : Below wr.heap.size wr w7 := b5.trans (b6.mono b5.size)
        have bw7 : Below w3.heap.size w3 w7 := hbw.trans (b56.mono hbw.size)
        have own7 := HOW.out.below b56
        clear hff hha HHB hown
        go_wp2_with fail
        go_roundw
        case rel => exact ⟨k + 1, nx, acc, by omega, by go_num, rfl, by omega, by omega, own7, by omega, bw7, HF.out, HG.out⟩
        case measure => simp [intOf]; omega
    · have hlt' : ¬ (k : Int) < (M : Int) := by omega
      have hR := hH.out.2
      rw [List.drop_of_length_le (by rw [HM.out]; omega)] at hR
      have hR' : acc = setP p := hR
      rw [hR'] at hown
      have own9 := hown.base (b' := w.heap.size) b3.size
      clear hR hR' hown hf
      go_wp2_with fail
      go_ret2
      exact ⟨_, rfl, own9, bw⟩
end Go.Proofs.Ytdellfmkmbabhaa
