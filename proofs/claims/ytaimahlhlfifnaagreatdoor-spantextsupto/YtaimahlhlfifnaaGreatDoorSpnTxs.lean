/- SpanTexts: the law's walk. -/
import Derived.Test.YtaimahlhlfifnaaGreatDoorRefRdS
import Derived.Test.YtaimahlhlfifnaaGreatDoorRefNrm
import Derived.Test.YtaimahlhlfifnaaGreatDoorEqSp
import Derived.Test.YtaimahlhlfifnaaGreatDoorTold
import Derived.Deep.DeepMust
namespace Go.Proofs.YtaimahlhlfifnaaGreatDoor
open Go.RowKit
set_option linter.unusedVariables false
set_option maxRecDepth 4000

theorem erV_valT (n : Int) : ErrVal (erV n) n := by
  unfold erV
  by_cases h : n = 0
  · subst h; exact .inl ⟨rfl, rfl⟩
  · rw [if_neg h]; exact .inr rfl
theorem erV_sameT (n : Int) (w : World) (hg : ErrLaid w) : Calls Tryz.prog 9 #[erV n, .int .i64 n] w fun e w' => e = .returned (.bool true) ∧ Below w.heap.size w w' := by
  refine (error_val (erV_valT n) n w hg).mono ?_
  rintro e w' ⟨rfl, hb⟩
  exact ⟨by rw [beq_self_eq_true], hb⟩
/-- Rows of spans that the law holds, through worlds. -/
structure STt (w W : World) (L : List (Value × List Sp)) : Prop where
  rows : ∀ x ∈ L, Spns W x.1 x.2
  er : ErrLaid W
  tx : TxE W
  bel : Below w.heap.size w W
theorem STt.below {w W W' : World} {L : List (Value × List Sp)} (h : STt w W L) (hb : Below W.heap.size W W') : STt w W' L :=
  ⟨fun x hx => (h.rows x hx).below hb, h.er.below hb, h.tx.below hb, h.bel.trans (hb.mono h.bel.size)⟩
theorem STt.add {w W W' : World} {L : List (Value × List Sp)} {v : Value} {l : List Sp} (h : STt w W L) (hb : Below W.heap.size W W') (hv : Spns W' v l) : STt w W' ((v, l) :: L) :=
  ⟨fun x hx => by
    rcases List.mem_cons.1 hx with rfl | hx
    · exact hv
    · exact (h.rows x hx).below hb, h.er.below hb, h.tx.below hb, h.bel.trans (hb.mono h.bel.size)⟩
theorem STt.get {w W : World} {L : List (Value × List Sp)} {v : Value} {l : List Sp} (h : STt w W L) (hx : (v, l) ∈ L) : Spns W v l := h.rows _ hx
theorem normR_setT {l : List Sp} (h : OkS l) : normR l = setP (inB l) := nrm_unique _ _ (normR_is l h).1 (setP_is _).1 (fun n => by rw [(normR_is l h).2.1, setP_in h])
/-- What is read of a text, on both sides: the spans r and no error, or none and the error 2. -/
def ReadsBoth (s : ByteArray) (b : Bool) (n : Int) (r : List Sp) : Prop :=
  Hid (∀ W, Calls Tryz.prog 10 #[.string s] W fun e w' => ∃ v, e = .returned (.tuple #[v, .bool b]) ∧ Spns w' v r ∧ Below W.heap.size W w')
  ∧ Hid (∀ W, TxE W → Calls Tryz.prog 11 #[.string s] W fun e w' => ∃ v, e = .returned (.tuple #[v, erV n]) ∧ Spns w' v r ∧ Below W.heap.size W w')
  ∧ Hid (∀ W, ErrLaid W → Calls Tryz.prog 9 #[erV n, .int .i64 n] W fun e w' => e = .returned (.bool true) ∧ Below W.heap.size W w')
theorem reads_both (s : ByteArray) (hs : s.size ≤ 1048576) : (∃ r, ReadsBoth s true 0 r) ∨ ∃ r, ReadsBoth s false 2 r := by
  cases hr : readR s.data.toList with
  | some r =>
    refine .inl ⟨r, fun W => (refReadS_any s W hs).mono ?_, fun W ht => (parse_any s W hs ht).mono ?_, fun W h => erV_sameT 0 W h⟩
    · rintro e w' ⟨v, b, rfl, h, hb⟩
      rcases h with ⟨r', h1, rfl, h3⟩ | ⟨h1, _⟩
      · rw [hr] at h1; cases h1; exact ⟨v, rfl, h3, hb⟩
      · rw [hr] at h1; cases h1
    · rintro e w' ⟨v, er, rfl, h, hb⟩
      rw [parse_is, hr] at h
      rcases h with ⟨r', h1, rfl, h3, _⟩ | ⟨h1, _⟩
      · cases h1; exact ⟨v, rfl, h3, hb⟩
      · cases h1
  | none =>
    refine .inr ⟨[], fun W => (refReadS_any s W hs).mono ?_, fun W ht => (parse_any s W hs ht).mono ?_, fun W h => erV_sameT 2 W h⟩
    · rintro e w' ⟨v, b, rfl, h, hb⟩
      rcases h with ⟨r', h1, _⟩ | ⟨h1, rfl, rfl⟩
      · rw [hr] at h1; cases h1
      · exact ⟨_, rfl, Spns.nil _ _ _, hb⟩
    · rintro e w' ⟨v, er, rfl, h, hb⟩
      rw [parse_is, hr] at h
      rcases h with ⟨r', h1, _⟩ | ⟨h1, rfl, rfl⟩
      · cases h1
      · exact ⟨_, rfl, Spns.nil _ _ _, hb⟩
set_option maxHeartbeats 32000000 in
theorem texts_walk (va : Value) (a : List Sp) (s : ByteArray) (w : World) (ha : Spns w va a) (hna : a.length ≤ 140737488355328) (hs : s.size ≤ 1048576) (hL : ErrLaid w) (ht : TxE w) :
    Calls Tryz.prog 3 #[va, .string s] w fun e w' => e = .returned (.bool true) ∧ Below w.heap.size w w' := by
  have HRA := hid (fun W (h : Spns W va a) => refSpans_any va a W h hna)
  have HPR := hid (fun W (h : Spns W va a) (t : TxE W) => spPrint_any va a W h hna t)
  have HER := hid (fun W (h : ErrLaid W) => erV_sameT (spE a) W h)
  have HCS := hid (reads_both s hs)
  unfold ReadsBoth at HCS
  have T0 : Hid (STt w w [(va, a)]) := ⟨fun x hx => by rw [List.mem_singleton] at hx; subst hx; exact ha, hL, ht, Below.refl _ _⟩
  by_cases h0 : spE a = 0
  · as_aux_lemma =>
    obtain ⟨hlen, hok⟩ := of_spE h0
    have hnr := normR_setT hok
    have hnl : (normR a).length ≤ 200 := Nat.le_trans (normR_is a hok).2.2 hlen
    have hnk : OkS (normR a) := (normR_is a hok).1.1
    rw [if_pos h0, h0] at HPR
    rw [h0] at HER HRA
    unfold printL at HPR
    rw [← hnr] at HPR
    have HNM := hid (fun W (h : Spns W va a) => (refNorm_any va a W h (by omega) hok).mono (R' := fun e w' => ∃ v', e = .returned v' ∧ Spns w' v' (normR a) ∧ Below W.heap.size W w') (fun e w' h => by obtain ⟨v', h1, h2, h3⟩ := h; exact ⟨v', h1, h2.spns, h3⟩))
    have HSH := hid (fun W v (h : Spns W v (normR a)) => refShow_any v (normR a) W h hnl hnk)
    obtain ⟨tx, htx⟩ : ∃ tx, mkB (textL (normR a)) = tx := ⟨_, rfl⟩
    rw [htx] at HSH HPR
    generalize normR a = R at HNM HSH
    generalize erV 0 = ev at HPR HER
    have HSQ := hid (str_eq (rfl : tx = tx))
    have k0 : Hid (Spns w va a) := ha
    clear h0 hlen hok hnr hnl hnk htx ha hna hs hL ht
    have kc := HRA.out _ k0.out
    go_enter Tryz.func3, Tryz.ntmps3
    go_upto_region 4 with (go_at_call 5; go_must (refine kc.mono ?_; rintro e w1 ⟨rfl, b1⟩))
    have T1 : Hid (STt w w1 _) := T0.out.below b1
    clear kc k0 b1 T0 HRA
    have k0 : Hid (Spns w1 va a) := T1.out.get (by simp)
    have kc := HNM.out _ k0.out
    have kd := fun W v (h : Spns W v R) => HSH.out W v h
    go_upto_region 5 with (first | (go_at_call 7; go_must (refine kc.mono ?_; rintro e w2 ⟨v2, rfl, s2, b2⟩)) | (go_at_call 6; go_must (refine (kd w2 v2 s2).mono ?_; rintro e w3 ⟨rfl, b3⟩)))
    have T3 : Hid (STt w w3 _) := (T1.out.below b2).below b3
    clear kc kd k0 b2 b3 s2 T1 HNM HSH
    rcases HCS.out with ⟨r, HRD, HPA, HEP⟩ | ⟨r, HRD, HPA, HEP⟩
    · as_aux_lemma =>
      clear HCS
      generalize erV 0 = ep at HPA HEP
      have k0 : Hid (Spns w3 va a) := T3.out.get (by simp)
      have kc := HPR.out w3 k0.out T3.out.tx
      go_upto_region 6 with (go_at_call 8; go_must (refine kc.mono ?_; rintro e z1 ⟨rfl, bz1⟩))
      have U1 : Hid (STt w z1 _) := T3.out.below bz1
      clear kc k0 bz1 T3 HPR
      have kc := HER.out z1 U1.out.er
      go_upto_region 7 with (go_at_call 9; go_must (refine kc.mono ?_; rintro e z2 ⟨rfl, bz2⟩))
      have U2 : Hid (STt w z2 _) := U1.out.below bz2
      clear kc bz2 U1 HER
      have kc := HRD.out z2
      go_upto_region 8 with (go_at_call 10; go_must (refine kc.mono ?_; rintro e z3 ⟨y1, rfl, sy1, bz3⟩))
      have U3 : Hid (STt w z3 _) := U2.out.add bz3 sy1
      clear kc bz3 U2 HRD sy1
      go_upto_region 11 with fail
      have kc := HPA.out z3 U3.out.tx
      go_upto_region 12 with (go_at_call 11; go_must (refine kc.mono ?_; rintro e z4 ⟨y2, rfl, sy2, bz4⟩))
      have U4 : Hid (STt w z4 _) := U3.out.add bz4 sy2
      clear kc bz4 U3 HPA sy2
      have kc := HEP.out z4 U4.out.er
      go_upto_region 13 with (go_at_call 9; go_must (refine kc.mono ?_; rintro e z5 ⟨rfl, bz5⟩))
      have U5 : Hid (STt w z5 _) := U4.out.below bz5
      clear kc bz5 U4 HEP
      have k0 : Hid (Spns z5 y2 r) := U5.out.get (by simp)
      have k1 : Hid (Spns z5 y1 r) := U5.out.get (by simp)
      have kc := sameSp y2 y1 r _ k0.out k1.out
      go_upto_region 14 with (go_at_call 12; go_must (refine kc.mono ?_; rintro e z6 ⟨rfl, bz6⟩))
      have HBB : Hid (Below w.heap.size w z6) := U5.out.bel.trans (bz6.mono U5.out.bel.size)
      have hsq := HSQ.out
      clear kc k0 k1 bz6 U5
      go_wp2_with fail
      go_ret
      exact ⟨rfl, HBB.out⟩
    · as_aux_lemma =>
      clear HCS
      generalize erV 2 = ep at HPA HEP
      have k0 : Hid (Spns w3 va a) := T3.out.get (by simp)
      have kc := HPR.out w3 k0.out T3.out.tx
      go_upto_region 6 with (go_at_call 8; go_must (refine kc.mono ?_; rintro e z1 ⟨rfl, bz1⟩))
      have U1 : Hid (STt w z1 _) := T3.out.below bz1
      clear kc k0 bz1 T3 HPR
      have kc := HER.out z1 U1.out.er
      go_upto_region 7 with (go_at_call 9; go_must (refine kc.mono ?_; rintro e z2 ⟨rfl, bz2⟩))
      have U2 : Hid (STt w z2 _) := U1.out.below bz2
      clear kc bz2 U1 HER
      have kc := HRD.out z2
      go_upto_region 8 with (go_at_call 10; go_must (refine kc.mono ?_; rintro e z3 ⟨y1, rfl, sy1, bz3⟩))
      have U3 : Hid (STt w z3 _) := U2.out.add bz3 sy1
      clear kc bz3 U2 HRD sy1
      go_upto_region 11 with fail
      have kc := HPA.out z3 U3.out.tx
      go_upto_region 12 with (go_at_call 11; go_must (refine kc.mono ?_; rintro e z4 ⟨y2, rfl, sy2, bz4⟩))
      have U4 : Hid (STt w z4 _) := U3.out.add bz4 sy2
      clear kc bz4 U3 HPA sy2
      have kc := HEP.out z4 U4.out.er
      go_upto_region 13 with (go_at_call 9; go_must (refine kc.mono ?_; rintro e z5 ⟨rfl, bz5⟩))
      have U5 : Hid (STt w z5 _) := U4.out.below bz5
      clear kc bz5 U4 HEP
      have k0 : Hid (Spns z5 y2 r) := U5.out.get (by simp)
      have k1 : Hid (Spns z5 y1 r) := U5.out.get (by simp)
      have kc := sameSp y2 y1 r _ k0.out k1.out
      go_upto_region 14 with (go_at_call 12; go_must (refine kc.mono ?_; rintro e z6 ⟨rfl, bz6⟩))
      have HBB : Hid (Below w.heap.size w z6) := U5.out.bel.trans (bz6.mono U5.out.bel.size)
      have hsq := HSQ.out
      clear kc k0 k1 bz6 U5
      go_wp2_with fail
      go_ret
      exact ⟨rfl, HBB.out⟩
  · as_aux_lemma =>
    rw [if_neg h0] at HPR
    have hne : (spE a == 0) = false := by simpa using h0
    generalize erV (spE a) = ev at HPR HER
    generalize spE a = z at HRA HER hne h0
    obtain ⟨tx, htx⟩ : ∃ tx, (⟨#[]⟩ : ByteArray) = tx := ⟨_, rfl⟩
    have HSQ := hid (str_eq (rfl : (⟨#[]⟩ : ByteArray) = ⟨#[]⟩))
    have k0 : Hid (Spns w va a) := ha
    clear h0 ha hna hs hL ht htx
    have kc := HRA.out _ k0.out
    go_enter Tryz.func3, Tryz.ntmps3
    go_upto_region 5 with (go_at_call 5; go_must (refine kc.mono ?_; rintro e w1 ⟨rfl, b1⟩))
    have T3 : Hid (STt w w1 _) := T0.out.below b1
    clear kc k0 b1 T0 HRA
    rcases HCS.out with ⟨r, HRD, HPA, HEP⟩ | ⟨r, HRD, HPA, HEP⟩
    · as_aux_lemma =>
      clear HCS
      generalize erV 0 = ep at HPA HEP
      have k0 : Hid (Spns w1 va a) := T3.out.get (by simp)
      have kc := HPR.out w1 k0.out T3.out.tx
      go_upto_region 6 with (go_at_call 8; go_must (refine kc.mono ?_; rintro e z1 ⟨rfl, bz1⟩))
      have U1 : Hid (STt w z1 _) := T3.out.below bz1
      clear kc k0 bz1 T3 HPR
      have kc := HER.out z1 U1.out.er
      go_upto_region 7 with (go_at_call 9; go_must (refine kc.mono ?_; rintro e z2 ⟨rfl, bz2⟩))
      have U2 : Hid (STt w z2 _) := U1.out.below bz2
      clear kc bz2 U1 HER
      have kc := HRD.out z2
      go_upto_region 8 with (go_at_call 10; go_must (refine kc.mono ?_; rintro e z3 ⟨y1, rfl, sy1, bz3⟩))
      have U3 : Hid (STt w z3 _) := U2.out.add bz3 sy1
      clear kc bz3 U2 HRD sy1
      go_upto_region 11 with fail
      have kc := HPA.out z3 U3.out.tx
      go_upto_region 12 with (go_at_call 11; go_must (refine kc.mono ?_; rintro e z4 ⟨y2, rfl, sy2, bz4⟩))
      have U4 : Hid (STt w z4 _) := U3.out.add bz4 sy2
      clear kc bz4 U3 HPA sy2
      have kc := HEP.out z4 U4.out.er
      go_upto_region 13 with (go_at_call 9; go_must (refine kc.mono ?_; rintro e z5 ⟨rfl, bz5⟩))
      have U5 : Hid (STt w z5 _) := U4.out.below bz5
      clear kc bz5 U4 HEP
      have k0 : Hid (Spns z5 y2 r) := U5.out.get (by simp)
      have k1 : Hid (Spns z5 y1 r) := U5.out.get (by simp)
      have kc := sameSp y2 y1 r _ k0.out k1.out
      go_upto_region 14 with (go_at_call 12; go_must (refine kc.mono ?_; rintro e z6 ⟨rfl, bz6⟩))
      have HBB : Hid (Below w.heap.size w z6) := U5.out.bel.trans (bz6.mono U5.out.bel.size)
      have hsq := HSQ.out
      clear kc k0 k1 bz6 U5
      go_wp2_with fail
      go_ret
      exact ⟨rfl, HBB.out⟩
    · as_aux_lemma =>
      clear HCS
      generalize erV 2 = ep at HPA HEP
      have k0 : Hid (Spns w1 va a) := T3.out.get (by simp)
      have kc := HPR.out w1 k0.out T3.out.tx
      go_upto_region 6 with (go_at_call 8; go_must (refine kc.mono ?_; rintro e z1 ⟨rfl, bz1⟩))
      have U1 : Hid (STt w z1 _) := T3.out.below bz1
      clear kc k0 bz1 T3 HPR
      have kc := HER.out z1 U1.out.er
      go_upto_region 7 with (go_at_call 9; go_must (refine kc.mono ?_; rintro e z2 ⟨rfl, bz2⟩))
      have U2 : Hid (STt w z2 _) := U1.out.below bz2
      clear kc bz2 U1 HER
      have kc := HRD.out z2
      go_upto_region 8 with (go_at_call 10; go_must (refine kc.mono ?_; rintro e z3 ⟨y1, rfl, sy1, bz3⟩))
      have U3 : Hid (STt w z3 _) := U2.out.add bz3 sy1
      clear kc bz3 U2 HRD sy1
      go_upto_region 11 with fail
      have kc := HPA.out z3 U3.out.tx
      go_upto_region 12 with (go_at_call 11; go_must (refine kc.mono ?_; rintro e z4 ⟨y2, rfl, sy2, bz4⟩))
      have U4 : Hid (STt w z4 _) := U3.out.add bz4 sy2
      clear kc bz4 U3 HPA sy2
      have kc := HEP.out z4 U4.out.er
      go_upto_region 13 with (go_at_call 9; go_must (refine kc.mono ?_; rintro e z5 ⟨rfl, bz5⟩))
      have U5 : Hid (STt w z5 _) := U4.out.below bz5
      clear kc bz5 U4 HEP
      have k0 : Hid (Spns z5 y2 r) := U5.out.get (by simp)
      have k1 : Hid (Spns z5 y1 r) := U5.out.get (by simp)
      have kc := sameSp y2 y1 r _ k0.out k1.out
      go_upto_region 14 with (go_at_call 12; go_must (refine kc.mono ?_; rintro e z6 ⟨rfl, bz6⟩))
      have HBB : Hid (Below w.heap.size w z6) := U5.out.bel.trans (bz6.mono U5.out.bel.size)
      have hsq := HSQ.out
      clear kc k0 k1 bz6 U5
      go_wp2_with fail
      go_ret
      exact ⟨rfl, HBB.out⟩
end Go.Proofs.YtaimahlhlfifnaaGreatDoor
