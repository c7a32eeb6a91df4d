/- SpanSets: the law's walk. -/
import Derived.Test.YtplpdaojoilnaaaDoorSpnMore
import Derived.Test.YtplpdaojoilnaaaDoorEqSp
import Derived.Test.YtplpdaojoilnaaaDoorRefPick
import Derived.Test.YtplpdaojoilnaaaDoorTold
import Derived.Deep.DeepMust
namespace Go.Proofs.YtplpdaojoilnaaaDoor
open Go.RowKit
set_option linter.unusedVariables false
set_option maxRecDepth 4000

theorem hid {p : Prop} (h : p) : Hid p := h
theorem erV_val (n : Int) : ErrVal (erV n) n := by
  unfold erV
  by_cases h : n = 0
  · subst h; exact .inl ⟨rfl, rfl⟩
  · rw [if_neg h]; exact .inr rfl
theorem erV_same (n : Int) (w : World) (hg : ErrLaid w) : Calls Tryd.prog 5 #[erV n, .int .i64 n] w fun e w' => e = .returned (.bool true) ∧ Below w.heap.size w w' := by
  refine (error_val (erV_val n) n w hg).mono ?_
  rintro e w' ⟨rfl, hb⟩
  exact ⟨by rw [beq_self_eq_true], hb⟩
/-- Rows of spans that a law holds, through worlds. -/
structure SSt (w W : World) (L : List (Value × List Sp)) : Prop where
  rows : ∀ x ∈ L, Spns W x.1 x.2
  er : ErrLaid W
  bel : Below w.heap.size w W
theorem SSt.below {w W W' : World} {L : List (Value × List Sp)} (h : SSt w W L) (hb : Below W.heap.size W W') : SSt w W' L :=
  ⟨fun x hx => (h.rows x hx).below hb, h.er.below hb, h.bel.trans (hb.mono h.bel.size)⟩
theorem SSt.add {w W W' : World} {L : List (Value × List Sp)} {v : Value} {l : List Sp} (h : SSt w W L) (hb : Below W.heap.size W W') (hv : Spns W' v l) : SSt w W' ((v, l) :: L) :=
  ⟨fun x hx => by
    rcases List.mem_cons.1 hx with rfl | hx
    · exact hv
    · exact (h.rows x hx).below hb, h.er.below hb, h.bel.trans (hb.mono h.bel.size)⟩
theorem SSt.get {w W : World} {L : List (Value × List Sp)} {v : Value} {l : List Sp} (h : SSt w W L) (hx : (v, l) ∈ L) : Spns W v l := h.rows _ hx
theorem SSt.ext {w W : World} {L : List (Value × List Sp)} {v : Value} {l : List Sp} (h : SSt w W L) (hv : Spns W v l) : SSt w W ((v, l) :: L) :=
  h.add (Below.refl _ _) hv
theorem all_spns (w : World) : Spns (w.alloc (.cells #[.int .i64 0, .int .i64 65535] 29)) (.slice (some ⟨w.heap.size, 0, none⟩) 1 1) [(0, 65535)] := by
  refine .inr ⟨w.heap.size, 0, 1, 1, rfl, by omega, by unfold maxLen; omega, rfl, by simp, fun i hi => ?_⟩
  match i, hi with
  | 0, _ => exact ⟨by simp, by simp⟩
theorem all_in {n : Int} (h0 : 0 ≤ n) (h1 : n ≤ 65535) : inB [(0, 65535)] n = true := inB_iff.2 ⟨(0, 65535), by simp, h0, h1⟩
theorem normR_set {l : List Sp} (h : OkS l) : normR l = setP (inB l) := nrm_unique _ _ (normR_is l h).1 (setP_is _).1 (fun n => by rw [(normR_is l h).2.1, setP_in h])
set_option maxHeartbeats 64000000 in
theorem sets_walk (va : Value) (a : List Sp) (vb : Value) (b : List Sp) (n : Int) (w : World) {q : Prop} (ha : Spns w va a) (hna : a.length ≤ 140737488355328) (hb : Spns w vb b) (hnb : b.length ≤ 140737488355328) (hq : q) (hL : ErrLaid w) :
    Calls Tryd.prog 3 #[va, vb, .int .i64 n] w fun e w' => e = .returned (.bool true) ∧ Below w.heap.size w w' := by
  obtain ⟨ao, ca, hva⟩ := ha.len
  obtain ⟨bo, cb, hvb⟩ := hb.len
  have HRA := hid (fun W (h : Spns W va a) => refSpans_any va a W h hna)
  have HRB := hid (fun W (h : Spns W vb b) => refSpans_any vb b W h hnb)
  have HCH := hid (fun W (h : Spns W va a) => spCheck_any va a W h hna)
  have HE1 := hid (fun W (h : ErrLaid W) => erV_same (spE a) W h)
  have HE2 := hid (fun W (h : ErrLaid W) => erV_same (chE a b) W h)
  have spn : ∀ {f : FuncId} {args : Array Value} {W : World} {er : Value} {R : List Sp}, Calls Tryd.prog f args W (fun e w' => ∃ v', e = .returned (.tuple #[v', er]) ∧ OwnSp w' W.heap.size v' R ∧ Below W.heap.size W w') → Calls Tryd.prog f args W (fun e w' => ∃ v', e = .returned (.tuple #[v', er]) ∧ Spns w' v' R ∧ Below W.heap.size W w') := fun h => h.mono (fun e w' ⟨v', h1, h2, h3⟩ => ⟨v', h1, h2.spns, h3⟩)
  have HNO := hid (fun W (h : Spns W va a) => spn (norm_any va a W h hna))
  have HNT := hid (fun W (h : Spns W va a) => spn (not_any va a W h hna))
  have HJO := hid (fun W (h : Spns W va a) (k : Spns W vb b) => spn (join_any va vb a b W h k hna hnb))
  have HME := hid (fun W (h : Spns W va a) (k : Spns W vb b) => spn (meet_any va vb a b W h k hna hnb))
  have HLE := hid (fun W (h : Spns W va a) (k : Spns W vb b) => spn (less_any va vb a b W h k hna hnb))
  have HHA := hid (fun W (h : Spns W va a) => Has_any va a n W h hna)
  have HMA := hid (fun W (h : Spns W va a) => many_any va a W h hna)
  have T0 : Hid (SSt w w [(va, a), (vb, b)]) := ⟨fun x hx => by
    simp at hx
    rcases hx with rfl | rfl
    · exact ha
    · exact hb, hL, Below.refl _ _⟩
  obtain ⟨L1, hL1⟩ : ∃ L, resL (spE a) (inB a) = L := ⟨_, rfl⟩
  obtain ⟨L2, hL2⟩ : ∃ L, resL (spE a) (fun n => !inB a n) = L := ⟨_, rfl⟩
  obtain ⟨L3, hL3⟩ : ∃ L, resL (chE a b) (fun n => inB a n || inB b n) = L := ⟨_, rfl⟩
  obtain ⟨L4, hL4⟩ : ∃ L, resL (chE a b) (fun n => inB a n && inB b n) = L := ⟨_, rfl⟩
  obtain ⟨L5, hL5⟩ : ∃ L, resL (chE a b) (fun n => inB a n && !inB b n) = L := ⟨_, rfl⟩
  rw [hL1] at HNO
  rw [hL2] at HNT
  rw [hL3] at HJO
  rw [hL4] at HME
  rw [hL5] at HLE
  clear spn ha hb hL
  by_cases h1 : spE a = 0
  case neg =>
    as_aux_lemma =>
    have e1 : chE a b = spE a := by unfold chE; rw [if_neg h1]
    rw [e1] at HE2 HJO HME HLE hL3 hL4 hL5
    have z : ∀ p, resL (spE a) p = [] := fun p => by unfold resL; rw [if_neg h1]
    rw [z] at hL1 hL2 hL3 hL4 hL5
    subst hL1 hL2 hL3 hL4 hL5
    have hh : (decide (spE a = 0) && inB a n) = false := by rw [decide_eq_false h1, Bool.false_and]
    have hm : manyE a = 0 := by unfold manyE; rw [if_neg h1]
    rw [hh] at HHA
    rw [hm] at HMA
    have hne : (spE a == 0) = false := by simpa using h1
    have T0 := T0
    generalize erV (spE a) = ev at HE1 HE2 HCH HNO HNT HJO HME HLE
    generalize spE a = z1 at HRA HE1 HE2 hne h1
    have T1 : Hid (SSt w w [(.slice none 0 0, []), (va, a), (vb, b)]) := T0.out.ext (Spns.nil _ _ _)
    clear z hh hm e1 h1 HRB hva hvb
    go_enter Tryd.func3, Tryd.ntmps3
    have k0 : Hid (Spns w va a) := T1.out.get (by simp)
    have kc := HRA.out _ k0.out
    go_upto_region 5 with (go_at_call 4; go_must (refine kc.mono ?_; rintro e w1 ⟨rfl, b1⟩))
    have T2 : Hid (SSt w w1 _) := T1.out.below b1
    have k1 : Hid (Spns w1 va a) := T2.out.get (by simp)
    have kd := HCH.out _ k1.out
    have ke : Hid (∀ W, Below w1.heap.size w1 W → ErrLaid W) := fun W hW => T2.out.er.below hW
    have kf := fun W (hW : Below w1.heap.size w1 W) => HE1.out W (ke.out W hW)
    clear b1 kc k0
    go_upto_region 6 with (first | (go_at_call 6; go_must (refine kd.mono ?_; rintro e w2 ⟨rfl, b2⟩)) | (go_at_call 5; go_must (refine (kf w2 b2).mono ?_; rintro e w3 ⟨rfl, b3⟩)))
    have S0 : Hid (SSt w w3 _) := (T2.out.below b2).below b3
    clear b2 b3 kd ke kf k1 T1 T2
    go_upto_region 24 with fail
    have k0 : Hid (Spns w3 va a) := S0.out.get (by simp)
    have kc := HNO.out _ k0.out
    go_upto_region 25 with (go_at_call 10; go_must (refine kc.mono ?_; rintro e z1 ⟨y1, rfl, sy1, bz1⟩))
    have T1 : Hid (SSt w z1 _) := S0.out.add bz1 sy1
    clear kc k0 bz1 S0 sy1
    have ke : Hid (ErrLaid z1) := T1.out.er
    have kc := HE1.out _ ke.out
    go_upto_region 26 with (go_at_call 5; go_must (refine kc.mono ?_; rintro e z2 ⟨rfl, bz2⟩))
    have T2 : Hid (SSt w z2 _) := T1.out.below bz2
    clear kc ke bz2 T1
    have k0 : Hid (Spns z2 va a) := T2.out.get (by simp)
    have kc := HNT.out _ k0.out
    go_upto_region 27 with (go_at_call 11; go_must (refine kc.mono ?_; rintro e z3 ⟨y2, rfl, sy2, bz3⟩))
    have T3 : Hid (SSt w z3 _) := T2.out.add bz3 sy2
    clear kc k0 bz3 T2 sy2
    have ke : Hid (ErrLaid z3) := T3.out.er
    have kc := HE1.out _ ke.out
    go_upto_region 28 with (go_at_call 5; go_must (refine kc.mono ?_; rintro e z4 ⟨rfl, bz4⟩))
    have T4 : Hid (SSt w z4 _) := T3.out.below bz4
    clear kc ke bz4 T3
    have k0 : Hid (Spns z4 va a) := T4.out.get (by simp)
    have k1 : Hid (Spns z4 vb b) := T4.out.get (by simp)
    have kc := HJO.out _ k0.out k1.out
    go_upto_region 29 with (go_at_call 12; go_must (refine kc.mono ?_; rintro e z5 ⟨y3, rfl, sy3, bz5⟩))
    have T5 : Hid (SSt w z5 _) := T4.out.add bz5 sy3
    clear kc k0 k1 bz5 T4 sy3
    have ke : Hid (ErrLaid z5) := T5.out.er
    have kc := HE2.out _ ke.out
    go_upto_region 30 with (go_at_call 5; go_must (refine kc.mono ?_; rintro e z6 ⟨rfl, bz6⟩))
    have T6 : Hid (SSt w z6 _) := T5.out.below bz6
    clear kc ke bz6 T5
    have k0 : Hid (Spns z6 va a) := T6.out.get (by simp)
    have k1 : Hid (Spns z6 vb b) := T6.out.get (by simp)
    have kc := HME.out _ k0.out k1.out
    go_upto_region 31 with (go_at_call 13; go_must (refine kc.mono ?_; rintro e z7 ⟨y4, rfl, sy4, bz7⟩))
    have T7 : Hid (SSt w z7 _) := T6.out.add bz7 sy4
    clear kc k0 k1 bz7 T6 sy4
    have ke : Hid (ErrLaid z7) := T7.out.er
    have kc := HE2.out _ ke.out
    go_upto_region 32 with (go_at_call 5; go_must (refine kc.mono ?_; rintro e z8 ⟨rfl, bz8⟩))
    have T8 : Hid (SSt w z8 _) := T7.out.below bz8
    clear kc ke bz8 T7
    have k0 : Hid (Spns z8 va a) := T8.out.get (by simp)
    have k1 : Hid (Spns z8 vb b) := T8.out.get (by simp)
    have kc := HLE.out _ k0.out k1.out
    go_upto_region 33 with (go_at_call 14; go_must (refine kc.mono ?_; rintro e z9 ⟨y5, rfl, sy5, bz9⟩))
    have T9 : Hid (SSt w z9 _) := T8.out.add bz9 sy5
    clear kc k0 k1 bz9 T8 sy5
    have ke : Hid (ErrLaid z9) := T9.out.er
    have kc := HE2.out _ ke.out
    go_upto_region 34 with (go_at_call 5; go_must (refine kc.mono ?_; rintro e z10 ⟨rfl, bz10⟩))
    have T10 : Hid (SSt w z10 _) := T9.out.below bz10
    clear kc ke bz10 T9
    have k0 : Hid (Spns z10 y1 []) := T10.out.get (by simp)
    have k1 : Hid (Spns z10 (.slice none 0 0) []) := T10.out.get (by simp)
    have kc := sameSp y1 (.slice none 0 0) [] _ k0.out k1.out
    go_upto_region 35 with (go_at_call 15; go_must (refine kc.mono ?_; rintro e z11 ⟨rfl, bz11⟩))
    have T11 : Hid (SSt w z11 _) := T10.out.below bz11
    clear kc k0 k1 bz11 T10
    have k0 : Hid (Spns z11 y2 []) := T11.out.get (by simp)
    have k1 : Hid (Spns z11 (.slice none 0 0) []) := T11.out.get (by simp)
    have kc := sameSp y2 (.slice none 0 0) [] _ k0.out k1.out
    go_upto_region 36 with (go_at_call 15; go_must (refine kc.mono ?_; rintro e z12 ⟨rfl, bz12⟩))
    have T12 : Hid (SSt w z12 _) := T11.out.below bz12
    clear kc k0 k1 bz12 T11
    have k0 : Hid (Spns z12 y3 []) := T12.out.get (by simp)
    have k1 : Hid (Spns z12 (.slice none 0 0) []) := T12.out.get (by simp)
    have kc := sameSp y3 (.slice none 0 0) [] _ k0.out k1.out
    go_upto_region 37 with (go_at_call 15; go_must (refine kc.mono ?_; rintro e z13 ⟨rfl, bz13⟩))
    have T13 : Hid (SSt w z13 _) := T12.out.below bz13
    clear kc k0 k1 bz13 T12
    have k0 : Hid (Spns z13 y4 []) := T13.out.get (by simp)
    have k1 : Hid (Spns z13 (.slice none 0 0) []) := T13.out.get (by simp)
    have kc := sameSp y4 (.slice none 0 0) [] _ k0.out k1.out
    go_upto_region 38 with (go_at_call 15; go_must (refine kc.mono ?_; rintro e z14 ⟨rfl, bz14⟩))
    have T14 : Hid (SSt w z14 _) := T13.out.below bz14
    clear kc k0 k1 bz14 T13
    have k0 : Hid (Spns z14 y5 []) := T14.out.get (by simp)
    have k1 : Hid (Spns z14 (.slice none 0 0) []) := T14.out.get (by simp)
    have kc := sameSp y5 (.slice none 0 0) [] _ k0.out k1.out
    go_upto_region 39 with (go_at_call 15; go_must (refine kc.mono ?_; rintro e z15 ⟨rfl, bz15⟩))
    have T15 : Hid (SSt w z15 _) := T14.out.below bz15
    clear kc k0 k1 bz15 T14
    have k0 : Hid (Spns z15 va a) := T15.out.get (by simp)
    have KM : Hid (∀ W, Below z15.heap.size z15 W → SSt w W [(va, a)]) := fun W hW => ⟨fun x hx => by rw [List.mem_singleton] at hx; subst hx; exact k0.out.below hW, T15.out.er.below hW, T15.out.bel.trans (hW.mono T15.out.bel.size)⟩
    have kh := HHA.out _ k0.out
    have km := fun W (hW : Below z15.heap.size z15 W) => HMA.out W (k0.out.below hW)
    go_wp2_with (first | (go_at_call 16; go_must (refine kh.mono ?_; rintro e x1 ⟨rfl, bx1⟩)) | (go_at_call 17; go_must (refine (km x1 bx1).mono ?_; rintro e x2 ⟨rfl, bx2⟩)))
    go_ret
    exact ⟨rfl, (KM.out x2 (bx1.trans (bx2.mono bx1.size))).bel⟩
  case pos =>
  as_aux_lemma =>
  obtain ⟨la, oka⟩ := of_spE h1
  have e1 : chE a b = spE b := by unfold chE; rw [if_pos h1]
  rw [e1] at HE2 HJO HME HLE hL3 hL4 hL5
  rw [h1, resL_0] at hL1 hL2
  have hh : (decide (spE a = 0) && inB a n) = inB a n := by rw [decide_eq_true h1, Bool.true_and]
  have hm : manyE a = manyL L1 := by unfold manyE; rw [if_pos h1, ← setP_many, hL1]
  rw [hh] at HHA
  rw [hm] at HMA
  have hn1 : Nrm L1 := by rw [← hL1]; exact (setP_is _).1
  have hi1 : ∀ n, inB L1 n = inB a n := fun n => by rw [← hL1]; exact setP_in oka n
  have hl1 : L1.length ≤ 200 := by rw [← hL1]; exact Nat.le_trans (setP_few oka) la
  have hrn := fun W (h : Spns W va a) => refNorm_any va a W h (by omega) oka
  rw [normR_set oka, hL1] at hrn
  obtain ⟨N, hN⟩ : ∃ N, L1.length = N := ⟨_, rfl⟩
  have HRN := hid (fun W (h : Spns W va a) => (hrn W h).mono (R' := fun e w' => ∃ a1 c1, e = .returned (.slice a1 N c1) ∧ Spns w' (.slice a1 N c1) L1 ∧ Below W.heap.size W w') (fun e w' h => by
    obtain ⟨v1, rfl, own1, b1⟩ := h
    obtain ⟨a1, c1, rfl⟩ := own1.len
    rw [hN] at own1 ⊢
    exact ⟨a1, c1, rfl, own1.spns, b1⟩))
  have spr : ∀ {f : FuncId} {args : Array Value} {W : World} {R : List Sp}, Calls Tryd.prog f args W (fun e w' => ∃ v', e = .returned v' ∧ OwnSp w' W.heap.size v' R ∧ Below W.heap.size W w') → Calls Tryd.prog f args W (fun e w' => ∃ v', e = .returned v' ∧ Spns w' v' R ∧ Below W.heap.size W w') := fun h => h.mono (fun e w' ⟨v', h1, h2, h3⟩ => ⟨v', h1, h2.spns, h3⟩)
  have HPN := hid (fun vx vl W (h : Spns W vl [(0, 65535)]) (k : Spns W vx L1) => spr (refPick_any vl vx [(0, 65535)] L1 false true W h k (OkS.one (by simp)) hn1.1 (by simp) (by omega)))
  have hpn : (setP fun n => pickB false true (inB [(0, 65535)] n) (inB L1 n)) = L2 := by
    rw [← hL2]
    refine setP_congr (fun m h0 h2 => ?_)
    rw [all_in h0 h2, hi1]; rfl
  rw [hpn] at HPN
  have HIN := hid (fun vx W (k : Spns W vx L1) => refIn_any vx L1 n W k (by omega))
  rw [hi1] at HIN
  have HLB : Hid (spE b = 0 → (∀ W, Spns W vb b → Calls Tryd.prog 7 #[vb] W fun e w' => ∃ v', e = .returned v' ∧ Spns w' v' (setP (inB b)) ∧ Below W.heap.size W w')
      ∧ (∀ vx vy W, Spns W vx L1 → Spns W vy (setP (inB b)) → Calls Tryd.prog 8 #[vx, vy, .bool false, .bool false] W fun e w' => ∃ v', e = .returned v' ∧ Spns w' v' L3 ∧ Below W.heap.size W w')
      ∧ (∀ vx vy W, Spns W vx L1 → Spns W vy (setP (inB b)) → Calls Tryd.prog 8 #[vx, vy, .bool true, .bool false] W fun e w' => ∃ v', e = .returned v' ∧ Spns w' v' L4 ∧ Below W.heap.size W w')
      ∧ (∀ vx vy W, Spns W vx L1 → Spns W vy (setP (inB b)) → Calls Tryd.prog 8 #[vx, vy, .bool false, .bool true] W fun e w' => ∃ v', e = .returned v' ∧ Spns w' v' L5 ∧ Below W.heap.size W w')) := fun h2 => by
    obtain ⟨lb, okb⟩ := of_spE h2
    have hn2 := (setP_is (inB b)).1
    have hi2 := fun m => setP_in okb m
    have hl2 : (setP (inB b)).length ≤ 200 := Nat.le_trans (setP_few okb) lb
    rw [h2, resL_0] at hL3 hL4 hL5
    refine ⟨fun W h => ?_, fun vx vy W h k => ?_, fun vx vy W h k => ?_, fun vx vy W h k => ?_⟩
    · have := spr (refNorm_any vb b W h (by omega) okb)
      rw [normR_set okb] at this; exact this
    · have := spr (refPick_any vx vy L1 (setP (inB b)) false false W h k hn1.1 hn2.1 (by omega) (by omega))
      rw [show (setP fun m => pickB false false (inB L1 m) (inB (setP (inB b)) m)) = L3 from by rw [← hL3]; exact setP_congr (fun m _ _ => by rw [hi1, hi2]; rfl)] at this
      exact this
    · have := spr (refPick_any vx vy L1 (setP (inB b)) true false W h k hn1.1 hn2.1 (by omega) (by omega))
      rw [show (setP fun m => pickB true false (inB L1 m) (inB (setP (inB b)) m)) = L4 from by rw [← hL4]; exact setP_congr (fun m _ _ => by rw [hi1, hi2]; rfl)] at this
      exact this
    · have := spr (refPick_any vx vy L1 (setP (inB b)) false true W h k hn1.1 hn2.1 (by omega) (by omega))
      rw [show (setP fun m => pickB false true (inB L1 m) (inB (setP (inB b)) m)) = L5 from by rw [← hL5]; exact setP_congr (fun m _ _ => by rw [hi1, hi2]; rfl)] at this
      exact this
  have HLN : Hid (¬ spE b = 0 → L3 = [] ∧ L4 = [] ∧ L5 = []) := fun h2 => by
    have z : ∀ p, resL (spE b) p = [] := fun p => by unfold resL; rw [if_neg h2]
    rw [z] at hL3 hL4 hL5
    exact ⟨hL3.symm, hL4.symm, hL5.symm⟩
  generalize setP (inB b) = LB at HLB
  rw [h1] at HRA
  rw [h1, erV_0] at HE1 HCH HNO HNT
  have HN : Hid (L1.length = N) := hN
  have HNR : Hid (Nrm L1) := hn1
  rw [hN] at hl1
  generalize inB a n = r at HHA HIN
  obtain ⟨mm, hmm⟩ : ∃ mm, manyL L1 = mm := ⟨_, rfl⟩
  rw [hmm] at HMA
  have HMM : Hid (manyL L1 = mm) := hmm
  obtain ⟨ev2, hev2⟩ : ∃ ev, erV (spE b) = ev := ⟨_, rfl⟩
  rw [hev2] at HE2 HJO HME HLE
  generalize spE b = z2 at HRB HE2 HLB HLN
  clear hL1 hL2 hL3 hL4 hL5 hpn hrn spr hn1 hi1 hN hmm hev2 hh hm e1 h1 la oka hva hvb
  have k0 : Hid (Spns w va a) := T0.out.get (by simp)
  have kc := HRA.out _ k0.out
  go_enter Tryd.func3, Tryd.ntmps3
  go_upto_region 4 with (go_at_call 4; go_must (refine kc.mono ?_; rintro e w1 ⟨rfl, b1⟩))
  have T1 : Hid (SSt w w1 _) := T0.out.below b1
  have k1 : Hid (Spns w1 vb b) := T1.out.get (by simp)
  have kd := HRB.out _ k1.out
  clear b1 kc k0 T0
  go_upto_region 5 with (go_at_call 4; go_must (refine kd.mono ?_; rintro e w2 ⟨rfl, b2⟩))
  have T2 : Hid (SSt w w2 _) := T1.out.below b2
  have k2 : Hid (Spns w2 va a) := T2.out.get (by simp)
  have ke := HCH.out _ k2.out
  have kg : Hid (∀ W, Below w2.heap.size w2 W → ErrLaid W) := fun W hW => T2.out.er.below hW
  have kf := fun W (hW : Below w2.heap.size w2 W) => HE1.out W (kg.out W hW)
  clear b2 kd k1 T1
  go_upto_region 6 with (first | (go_at_call 6; go_must (refine ke.mono ?_; rintro e w3 ⟨rfl, b3⟩)) | (go_at_call 5; go_must (refine (kf w3 b3).mono ?_; rintro e w4 ⟨rfl, b4⟩)))
  have T4 : Hid (SSt w w4 _) := (T2.out.below b3).below b4
  clear b3 b4 ke kg kf k2 T2
  have k0 : Hid (Spns w4 va a) := T4.out.get (by simp)
  have kc := HRN.out _ k0.out
  go_upto_region 12 with (go_at_call 7; go_must (refine kc.mono ?_; rintro e w5 ⟨xs1, xs2, rfl, sx, b5⟩))
  have T5 : Hid (SSt w w5 _) := T4.out.add b5 sx
  clear b5 sx kc k0 T4
  have hal := all_spns w5
  have hb6 := (Below.refl w5.heap.size w5).alloc (Nat.le_refl _) (.cells #[.int .i64 0, .int .i64 65535] 29)
  have T6 : Hid (SSt w (w5.alloc (.cells #[.int .i64 0, .int .i64 65535] 29)) _) := T5.out.add hb6 hal
  clear hb6 hal T5
  go_upto_region 13 with fail
  generalize w5.alloc (.cells #[.int .i64 0, .int .i64 65535] 29) = w6 at T6 ⊢
  generalize w5.heap.size = g6 at T6 ⊢
  have k0 : Hid (Spns w6 (.slice (some ⟨g6, 0, none⟩) 1 1) [(0, 65535)]) := T6.out.get (by simp)
  have k1 : Hid (Spns w6 (.slice xs1 N xs2) L1) := T6.out.get (by simp)
  have kc := HPN.out _ _ _ k0.out k1.out
  go_upto_region 14 with (go_at_call 8; go_must (refine kc.mono ?_; rintro e w7 ⟨v16, rfl, s16, b7⟩))
  have T7 : Hid (SSt w w7 _) := T6.out.add b7 s16
  clear b7 s16 kc k0 k1 T6
  have k1 : Hid (Spns w7 (.slice xs1 N xs2) L1) := T7.out.get (by simp)
  have kc := HIN.out _ _ k1.out
  go_upto_region 15 with (go_at_call 9; go_must (refine kc.mono ?_; rintro e w8 ⟨rfl, b8⟩))
  have T8 : Hid (SSt w w8 _) := T7.out.below b8
  have K8 : Hid (Spns w8 (.slice xs1 N xs2) L1) := T8.out.get (by simp)
  clear b8 kc k1 T7
  go_wp2_with fail
  go_loopw [17, 20] (fun m i wr => ∃ k : Nat, k ≤ N ∧ i = .int .i64 (k : Int) ∧ m = .int .i64 (manyL (L1.take k)) ∧ Below w8.heap.size w8 wr) (fun _ i _ => ((N : Int) - intOf i).toNat)
  case atStart => exact ⟨0, by omega, rfl, rfl, Below.refl _ _⟩
  case round =>
    obtain ⟨k, hk, rfl, rfl, hb⟩ := hrel
    by_cases hlt : k < N
    · as_aux_lemma =>
      have hlt' : (k : Int) < (N : Int) := by omega
      have hk0 : (0 : Int) ≤ (k : Int) := by omega
      have hkl : k < L1.length := by rw [HN.out]; exact hlt
      obtain ⟨bl, off, rfl, hbl, hcc, hcm, hcs⟩ := K8.out.shape (by omega)
      obtain ⟨d0, d1⟩ := (hcs k hkl).keep (hb.block bl hbl)
      unfold maxLen at hcm
      have hm0 := manyL_bd HNR.out k
      have HM : Hid (manyL (L1.take (k + 1)) = manyL (L1.take k) + (L1[k].2 - L1[k].1 + 1)) := manyL_take hkl
      have hok := HNR.out.1 L1[k] (List.getElem_mem _)
      generalize L1[k] = s at d0 d1 HM hok
      obtain ⟨p, q⟩ := s
      simp only at d0 d1 hok
      generalize manyL (L1.take k) = m at hm0 HM ⊢
      obtain ⟨m0, m1⟩ := hm0
      obtain ⟨o0, o1, o2⟩ := hok
      have HB : Hid (Below w8.heap.size w8 wr) := hb
      clear hcs hb
      go_upto_region 18 with fail
      go_big_quiet (fail)
      go_wp2_with fail
      go_roundw
      case rel => exact ⟨k + 1, by omega, by go_num, by rw [HM.out]; simp only; congr 1; omega, below_drewN HB.out _⟩
      case measure => simp [intOf]; omega
    · have hlt' : ¬ (k : Int) < (N : Int) := by omega
      have hT : manyL (L1.take k) = mm := by rw [List.take_of_length_le (by rw [HN.out]; omega)]; exact HMM.out
      rw [hT]
      have T9 : Hid (SSt w wr _) := T8.out.below hb
      clear hT hb T8 K8 hlt hk
      by_cases h2 : z2 = 0
      · as_aux_lemma =>
        obtain ⟨q1, q2, q3, q4⟩ := HLB.out h2
        have HQ2 := hid q2
        have HQ3 := hid q3
        have HQ4 := hid q4
        subst h2
        have k0 : Hid (Spns wr vb b) := T9.out.get (by simp)
        have kc := q1 _ k0.out
        clear q1 q2 q3 q4 HLB HLN
        go_upto_region 21 with (go_at_call 7; go_must (refine kc.mono ?_; rintro e wa ⟨v11, rfl, s11, ba⟩))
        have Ta : Hid (SSt w wa _) := T9.out.add ba s11
        clear ba s11 kc k0 T9
        have k0 : Hid (Spns wa (.slice xs1 N xs2) L1) := Ta.out.get (by simp)
        have k1 : Hid (Spns wa v11 LB) := Ta.out.get (by simp)
        have kc := HQ2.out _ _ _ k0.out k1.out
        go_upto_region 22 with (go_at_call 8; go_must (refine kc.mono ?_; rintro e wb ⟨v13, rfl, s13, bb⟩))
        have Tb : Hid (SSt w wb _) := Ta.out.add bb s13
        clear bb s13 kc k0 k1 Ta
        have k0 : Hid (Spns wb (.slice xs1 N xs2) L1) := Tb.out.get (by simp)
        have k1 : Hid (Spns wb v11 LB) := Tb.out.get (by simp)
        have kc := HQ3.out _ _ _ k0.out k1.out
        go_upto_region 23 with (go_at_call 8; go_must (refine kc.mono ?_; rintro e wc ⟨v14, rfl, s14, bc⟩))
        have Tc : Hid (SSt w wc _) := Tb.out.add bc s14
        clear bc s14 kc k0 k1 Tb
        have k0 : Hid (Spns wc (.slice xs1 N xs2) L1) := Tc.out.get (by simp)
        have k1 : Hid (Spns wc v11 LB) := Tc.out.get (by simp)
        have kc := HQ4.out _ _ _ k0.out k1.out
        go_upto_region 24 with (go_at_call 8; go_must (refine kc.mono ?_; rintro e wd ⟨v15, rfl, s15, bd⟩))
        have Td : Hid (SSt w wd _) := Tc.out.add bd s15
        clear bd s15 kc k0 k1 Tc
        have k0 : Hid (Spns wd va a) := Td.out.get (by simp)
        have kc := HNO.out _ k0.out
        go_upto_region 25 with (go_at_call 10; go_must (refine kc.mono ?_; rintro e z1 ⟨y1, rfl, sy1, bz1⟩))
        have T1 : Hid (SSt w z1 _) := Td.out.add bz1 sy1
        clear kc k0 bz1 Td sy1
        have ke : Hid (ErrLaid z1) := T1.out.er
        have kc := HE1.out _ ke.out
        go_upto_region 26 with (go_at_call 5; go_must (refine kc.mono ?_; rintro e z2 ⟨rfl, bz2⟩))
        have T2 : Hid (SSt w z2 _) := T1.out.below bz2
        clear kc ke bz2 T1
        have k0 : Hid (Spns z2 va a) := T2.out.get (by simp)
        have kc := HNT.out _ k0.out
        go_upto_region 27 with (go_at_call 11; go_must (refine kc.mono ?_; rintro e z3 ⟨y2, rfl, sy2, bz3⟩))
        have T3 : Hid (SSt w z3 _) := T2.out.add bz3 sy2
        clear kc k0 bz3 T2 sy2
        have ke : Hid (ErrLaid z3) := T3.out.er
        have kc := HE1.out _ ke.out
        go_upto_region 28 with (go_at_call 5; go_must (refine kc.mono ?_; rintro e z4 ⟨rfl, bz4⟩))
        have T4 : Hid (SSt w z4 _) := T3.out.below bz4
        clear kc ke bz4 T3
        have k0 : Hid (Spns z4 va a) := T4.out.get (by simp)
        have k1 : Hid (Spns z4 vb b) := T4.out.get (by simp)
        have kc := HJO.out _ k0.out k1.out
        go_upto_region 29 with (go_at_call 12; go_must (refine kc.mono ?_; rintro e z5 ⟨y3, rfl, sy3, bz5⟩))
        have T5 : Hid (SSt w z5 _) := T4.out.add bz5 sy3
        clear kc k0 k1 bz5 T4 sy3
        have ke : Hid (ErrLaid z5) := T5.out.er
        have kc := HE2.out _ ke.out
        go_upto_region 30 with (go_at_call 5; go_must (refine kc.mono ?_; rintro e z6 ⟨rfl, bz6⟩))
        have T6 : Hid (SSt w z6 _) := T5.out.below bz6
        clear kc ke bz6 T5
        have k0 : Hid (Spns z6 va a) := T6.out.get (by simp)
        have k1 : Hid (Spns z6 vb b) := T6.out.get (by simp)
        have kc := HME.out _ k0.out k1.out
        go_upto_region 31 with (go_at_call 13; go_must (refine kc.mono ?_; rintro e z7 ⟨y4, rfl, sy4, bz7⟩))
        have T7 : Hid (SSt w z7 _) := T6.out.add bz7 sy4
        clear kc k0 k1 bz7 T6 sy4
        have ke : Hid (ErrLaid z7) := T7.out.er
        have kc := HE2.out _ ke.out
        go_upto_region 32 with (go_at_call 5; go_must (refine kc.mono ?_; rintro e z8 ⟨rfl, bz8⟩))
        have T8 : Hid (SSt w z8 _) := T7.out.below bz8
        clear kc ke bz8 T7
        have k0 : Hid (Spns z8 va a) := T8.out.get (by simp)
        have k1 : Hid (Spns z8 vb b) := T8.out.get (by simp)
        have kc := HLE.out _ k0.out k1.out
        go_upto_region 33 with (go_at_call 14; go_must (refine kc.mono ?_; rintro e z9 ⟨y5, rfl, sy5, bz9⟩))
        have T9 : Hid (SSt w z9 _) := T8.out.add bz9 sy5
        clear kc k0 k1 bz9 T8 sy5
        have ke : Hid (ErrLaid z9) := T9.out.er
        have kc := HE2.out _ ke.out
        go_upto_region 34 with (go_at_call 5; go_must (refine kc.mono ?_; rintro e z10 ⟨rfl, bz10⟩))
        have T10 : Hid (SSt w z10 _) := T9.out.below bz10
        clear kc ke bz10 T9
        have k0 : Hid (Spns z10 y1 L1) := T10.out.get (by simp)
        have k1 : Hid (Spns z10 (.slice xs1 N xs2) L1) := T10.out.get (by simp)
        have kc := sameSp y1 (.slice xs1 N xs2) L1 _ k0.out k1.out
        go_upto_region 35 with (go_at_call 15; go_must (refine kc.mono ?_; rintro e z11 ⟨rfl, bz11⟩))
        have T11 : Hid (SSt w z11 _) := T10.out.below bz11
        clear kc k0 k1 bz11 T10
        have k0 : Hid (Spns z11 y2 L2) := T11.out.get (by simp)
        have k1 : Hid (Spns z11 v16 L2) := T11.out.get (by simp)
        have kc := sameSp y2 v16 L2 _ k0.out k1.out
        go_upto_region 36 with (go_at_call 15; go_must (refine kc.mono ?_; rintro e z12 ⟨rfl, bz12⟩))
        have T12 : Hid (SSt w z12 _) := T11.out.below bz12
        clear kc k0 k1 bz12 T11
        have k0 : Hid (Spns z12 y3 L3) := T12.out.get (by simp)
        have k1 : Hid (Spns z12 v13 L3) := T12.out.get (by simp)
        have kc := sameSp y3 v13 L3 _ k0.out k1.out
        go_upto_region 37 with (go_at_call 15; go_must (refine kc.mono ?_; rintro e z13 ⟨rfl, bz13⟩))
        have T13 : Hid (SSt w z13 _) := T12.out.below bz13
        clear kc k0 k1 bz13 T12
        have k0 : Hid (Spns z13 y4 L4) := T13.out.get (by simp)
        have k1 : Hid (Spns z13 v14 L4) := T13.out.get (by simp)
        have kc := sameSp y4 v14 L4 _ k0.out k1.out
        go_upto_region 38 with (go_at_call 15; go_must (refine kc.mono ?_; rintro e z14 ⟨rfl, bz14⟩))
        have T14 : Hid (SSt w z14 _) := T13.out.below bz14
        clear kc k0 k1 bz14 T13
        have k0 : Hid (Spns z14 y5 L5) := T14.out.get (by simp)
        have k1 : Hid (Spns z14 v15 L5) := T14.out.get (by simp)
        have kc := sameSp y5 v15 L5 _ k0.out k1.out
        go_upto_region 39 with (go_at_call 15; go_must (refine kc.mono ?_; rintro e z15 ⟨rfl, bz15⟩))
        have T15 : Hid (SSt w z15 _) := T14.out.below bz15
        clear kc k0 k1 bz15 T14
        have k0 : Hid (Spns z15 va a) := T15.out.get (by simp)
        have KM : Hid (∀ W, Below z15.heap.size z15 W → SSt w W [(va, a)]) := fun W hW => ⟨fun x hx => by rw [List.mem_singleton] at hx; subst hx; exact k0.out.below hW, T15.out.er.below hW, T15.out.bel.trans (hW.mono T15.out.bel.size)⟩
        have kh := HHA.out _ k0.out
        have km := fun W (hW : Below z15.heap.size z15 W) => HMA.out W (k0.out.below hW)
        have hrr : (r == r) = true := by cases r <;> rfl
        have hmm : (mm == mm) = true := by simp
        go_wp2_with (first | (go_at_call 16; go_must (refine kh.mono ?_; rintro e x1 ⟨rfl, bx1⟩)) | (go_at_call 17; go_must (refine (km x1 bx1).mono ?_; rintro e x2 ⟨rfl, bx2⟩)))
        go_ret
        exact ⟨rfl, (KM.out x2 (bx1.trans (bx2.mono bx1.size))).bel⟩
      · as_aux_lemma =>
        obtain ⟨rfl, rfl, rfl⟩ := HLN.out h2
        have hz2 : (z2 == 0) = false := by simpa using h2
        have Td : Hid (SSt w wr _) := T9.out.ext (Spns.nil _ none 0)
        clear HLB HLN h2 T9
        go_upto_region 24 with fail
        have k0 : Hid (Spns wr va a) := Td.out.get (by simp)
        have kc := HNO.out _ k0.out
        go_upto_region 25 with (go_at_call 10; go_must (refine kc.mono ?_; rintro e z1 ⟨y1, rfl, sy1, bz1⟩))
        have T1 : Hid (SSt w z1 _) := Td.out.add bz1 sy1
        clear kc k0 bz1 Td sy1
        have ke : Hid (ErrLaid z1) := T1.out.er
        have kc := HE1.out _ ke.out
        go_upto_region 26 with (go_at_call 5; go_must (refine kc.mono ?_; rintro e z2 ⟨rfl, bz2⟩))
        have T2 : Hid (SSt w z2 _) := T1.out.below bz2
        clear kc ke bz2 T1
        have k0 : Hid (Spns z2 va a) := T2.out.get (by simp)
        have kc := HNT.out _ k0.out
        go_upto_region 27 with (go_at_call 11; go_must (refine kc.mono ?_; rintro e z3 ⟨y2, rfl, sy2, bz3⟩))
        have T3 : Hid (SSt w z3 _) := T2.out.add bz3 sy2
        clear kc k0 bz3 T2 sy2
        have ke : Hid (ErrLaid z3) := T3.out.er
        have kc := HE1.out _ ke.out
        go_upto_region 28 with (go_at_call 5; go_must (refine kc.mono ?_; rintro e z4 ⟨rfl, bz4⟩))
        have T4 : Hid (SSt w z4 _) := T3.out.below bz4
        clear kc ke bz4 T3
        have k0 : Hid (Spns z4 va a) := T4.out.get (by simp)
        have k1 : Hid (Spns z4 vb b) := T4.out.get (by simp)
        have kc := HJO.out _ k0.out k1.out
        go_upto_region 29 with (go_at_call 12; go_must (refine kc.mono ?_; rintro e z5 ⟨y3, rfl, sy3, bz5⟩))
        have T5 : Hid (SSt w z5 _) := T4.out.add bz5 sy3
        clear kc k0 k1 bz5 T4 sy3
        have ke : Hid (ErrLaid z5) := T5.out.er
        have kc := HE2.out _ ke.out
        go_upto_region 30 with (go_at_call 5; go_must (refine kc.mono ?_; rintro e z6 ⟨rfl, bz6⟩))
        have T6 : Hid (SSt w z6 _) := T5.out.below bz6
        clear kc ke bz6 T5
        have k0 : Hid (Spns z6 va a) := T6.out.get (by simp)
        have k1 : Hid (Spns z6 vb b) := T6.out.get (by simp)
        have kc := HME.out _ k0.out k1.out
        go_upto_region 31 with (go_at_call 13; go_must (refine kc.mono ?_; rintro e z7 ⟨y4, rfl, sy4, bz7⟩))
        have T7 : Hid (SSt w z7 _) := T6.out.add bz7 sy4
        clear kc k0 k1 bz7 T6 sy4
        have ke : Hid (ErrLaid z7) := T7.out.er
        have kc := HE2.out _ ke.out
        go_upto_region 32 with (go_at_call 5; go_must (refine kc.mono ?_; rintro e z8 ⟨rfl, bz8⟩))
        have T8 : Hid (SSt w z8 _) := T7.out.below bz8
        clear kc ke bz8 T7
        have k0 : Hid (Spns z8 va a) := T8.out.get (by simp)
        have k1 : Hid (Spns z8 vb b) := T8.out.get (by simp)
        have kc := HLE.out _ k0.out k1.out
        go_upto_region 33 with (go_at_call 14; go_must (refine kc.mono ?_; rintro e z9 ⟨y5, rfl, sy5, bz9⟩))
        have T9 : Hid (SSt w z9 _) := T8.out.add bz9 sy5
        clear kc k0 k1 bz9 T8 sy5
        have ke : Hid (ErrLaid z9) := T9.out.er
        have kc := HE2.out _ ke.out
        go_upto_region 34 with (go_at_call 5; go_must (refine kc.mono ?_; rintro e z10 ⟨rfl, bz10⟩))
        have T10 : Hid (SSt w z10 _) := T9.out.below bz10
        clear kc ke bz10 T9
        have k0 : Hid (Spns z10 y1 L1) := T10.out.get (by simp)
        have k1 : Hid (Spns z10 (.slice xs1 N xs2) L1) := T10.out.get (by simp)
        have kc := sameSp y1 (.slice xs1 N xs2) L1 _ k0.out k1.out
        go_upto_region 35 with (go_at_call 15; go_must (refine kc.mono ?_; rintro e z11 ⟨rfl, bz11⟩))
        have T11 : Hid (SSt w z11 _) := T10.out.below bz11
        clear kc k0 k1 bz11 T10
        have k0 : Hid (Spns z11 y2 L2) := T11.out.get (by simp)
        have k1 : Hid (Spns z11 v16 L2) := T11.out.get (by simp)
        have kc := sameSp y2 v16 L2 _ k0.out k1.out
        go_upto_region 36 with (go_at_call 15; go_must (refine kc.mono ?_; rintro e z12 ⟨rfl, bz12⟩))
        have T12 : Hid (SSt w z12 _) := T11.out.below bz12
        clear kc k0 k1 bz12 T11
        have k0 : Hid (Spns z12 y3 []) := T12.out.get (by simp)
        have k1 : Hid (Spns z12 (.slice none 0 0) []) := T12.out.get (by simp)
        have kc := sameSp y3 (.slice none 0 0) [] _ k0.out k1.out
        go_upto_region 37 with (go_at_call 15; go_must (refine kc.mono ?_; rintro e z13 ⟨rfl, bz13⟩))
        have T13 : Hid (SSt w z13 _) := T12.out.below bz13
        clear kc k0 k1 bz13 T12
        have k0 : Hid (Spns z13 y4 []) := T13.out.get (by simp)
        have k1 : Hid (Spns z13 (.slice none 0 0) []) := T13.out.get (by simp)
        have kc := sameSp y4 (.slice none 0 0) [] _ k0.out k1.out
        go_upto_region 38 with (go_at_call 15; go_must (refine kc.mono ?_; rintro e z14 ⟨rfl, bz14⟩))
        have T14 : Hid (SSt w z14 _) := T13.out.below bz14
        clear kc k0 k1 bz14 T13
        have k0 : Hid (Spns z14 y5 []) := T14.out.get (by simp)
        have k1 : Hid (Spns z14 (.slice none 0 0) []) := T14.out.get (by simp)
        have kc := sameSp y5 (.slice none 0 0) [] _ k0.out k1.out
        go_upto_region 39 with (go_at_call 15; go_must (refine kc.mono ?_; rintro e z15 ⟨rfl, bz15⟩))
        have T15 : Hid (SSt w z15 _) := T14.out.below bz15
        clear kc k0 k1 bz15 T14
        have k0 : Hid (Spns z15 va a) := T15.out.get (by simp)
        have KM : Hid (∀ W, Below z15.heap.size z15 W → SSt w W [(va, a)]) := fun W hW => ⟨fun x hx => by rw [List.mem_singleton] at hx; subst hx; exact k0.out.below hW, T15.out.er.below hW, T15.out.bel.trans (hW.mono T15.out.bel.size)⟩
        have kh := HHA.out _ k0.out
        have km := fun W (hW : Below z15.heap.size z15 W) => HMA.out W (k0.out.below hW)
        have hrr : (r == r) = true := by cases r <;> rfl
        have hmm : (mm == mm) = true := by simp
        go_wp2_with (first | (go_at_call 16; go_must (refine kh.mono ?_; rintro e x1 ⟨rfl, bx1⟩)) | (go_at_call 17; go_must (refine (km x1 bx1).mono ?_; rintro e x2 ⟨rfl, bx2⟩)))
        go_ret
        exact ⟨rfl, (KM.out x2 (bx1.trans (bx2.mono bx1.size))).bel⟩
end Go.Proofs.YtplpdaojoilnaaaDoor
