/- HeavyBounds: the law's walk. -/
import Derived.Test.YtchailjgikjhlaaHvPre
import Derived.Test.YtchailjgikjhlaaHvMrg
import Derived.Test.YtchailjgikjhlaaOpenSw
import Derived.Deep.LoopGhost
import Derived.Deep.CutBlock
namespace Go.Proofs.Ytchailjgikjhlaa
open Go.RowKit Go.Maps
set_option linter.unusedVariables false

def one0 : Hv := { n := 1, less := 0, all := 0, l := [] }
theorem one0_ok : HvOk one0 := HvOk.new (by decide)
theorem one_add1 : addE one0 3 = 0 := by decide
theorem one_add2 : addE (addS one0 5 3) 1 = 0 := by decide
theorem one_many : getC (addS (addS one0 5 3) 6 1).l 5 = 2 := by decide
theorem one_less : (addS (addS one0 5 3) 6 1).less = 1 := by decide
/-- Where the law stands. -/
structure BdS (w : World) (A : Nat) (n key : Int) (ha hb hc : Hv) (all mine m1 m2 : Int) (X : World) : Prop where
  va : HvAt X (A + 1) A ha
  vb : HvAt X (A + 3) (A + 2) hb
  vc : HvAt X (A + 5) (A + 4) hc
  oa : HvOk ha
  ob : HvOk hb
  oc : HvOk hc
  na : ha.n = n
  nb : hb.n = n
  nc : hc.n = n
  al : ha.all = all
  al2 : hb.all + hc.all = all
  ga : Bnd ha key mine
  gb : Bnd hb key m1
  gc : Bnd hc key m2
  mm : m1 + m2 = mine
  bel : Below w.heap.size w X
theorem BdS.no {w X X' : World} {A : Nat} {n key : Int} {ha hb hc : Hv} {all mine m1 m2 k many : Int} (s : BdS w A n key ha hb hc all mine m1 m2 X) (hA : w.heap.size ≤ A) (hE : ¬ addE ha many = 0) (h1 : HvAt X' (A + 1) A (addS ha k many)) (t : Turn (fun i => i = A + 1 ∨ i = A) X X') : BdS w A n key ha hb hc all mine m1 m2 X' := by
  have e : addS ha k many = ha := by unfold addS; rw [if_neg hE]
  rw [e] at h1
  exact ⟨h1, s.vb.turn t (by omega) (by omega), s.vc.turn t (by omega) (by omega), s.oa, s.ob, s.oc, s.na, s.nb, s.nc, s.al, s.al2, s.ga, s.gb, s.gc, s.mm, t.below s.bel s.bel.size (fun i hi => by rcases hi with rfl | rfl <;> omega)⟩
theorem BdS.fits {w X : World} {A : Nat} {n key : Int} {ha hb hc : Hv} {all mine m1 m2 many : Int} (s : BdS w A n key ha hb hc all mine m1 m2 X) (hE : addE ha many = 0) : addE hb many = 0 ∧ addE hc many = 0 := by
  obtain ⟨h1, h2, h3⟩ := addE_ok hE
  have a1 := s.ob.all_nonneg
  have a2 := s.oc.all_nonneg
  have a3 := s.al
  have a4 := s.al2
  unfold addE
  refine ⟨?_, ?_⟩ <;> (rw [if_neg (by omega), if_neg (by omega)])
theorem addS_eq {h : Hv} {k many : Int} (hE : addE h many = 0) : addS h k many = addG h k many := by unfold addS; rw [if_pos hE]
theorem addG_n (h : Hv) (k many : Int) : (addG h k many).n = h.n := by unfold addG; split <;> rfl
def plusI (k key m many : Int) : Int := if k = key then m + many else m
theorem BdS.toB {w X X1 X' : World} {A : Nat} {n key : Int} {ha hb hc : Hv} {all mine m1 m2 k many : Int} (s : BdS w A n key ha hb hc all mine m1 m2 X) (hA : w.heap.size ≤ A) (hE : addE ha many = 0) (h1 : HvAt X1 (A + 1) A (addS ha k many)) (t : Turn (fun i => i = A + 1 ∨ i = A) X X1) (h2 : HvAt X' (A + 3) (A + 2) (addS hb k many)) (t2 : Turn (fun i => i = A + 3 ∨ i = A + 2) X1 X') :
    BdS w A n key (addG ha k many) (addG hb k many) hc (all + many) (plusI k key mine many) (plusI k key m1 many) m2 X' := by
  obtain ⟨e1, e2, e3⟩ := addE_ok hE
  obtain ⟨f1, f2⟩ := s.fits hE
  have g1 := addE_ok f1
  rw [addS_eq hE] at h1
  rw [addS_eq f1] at h2
  have al := s.al
  have al2 := s.al2
  have mm := s.mm
  refine ⟨h1.turn t2 (by omega) (by omega), h2, (s.vc.turn t (by omega) (by omega)).turn t2 (by omega) (by omega), addG_ok s.oa k many e1 e3, addG_ok s.ob k many e1 g1.2.2, s.oc, (addG_n _ _ _).trans s.na, (addG_n _ _ _).trans s.nb, s.nc, ?_, ?_, s.ga.add s.oa k many e1, s.gb.add s.ob k many e1, s.gc, ?_, ?_⟩
  · rw [addG_all, al]
  · rw [addG_all]; omega
  · unfold plusI; split <;> omega
  · have b1 := t.below s.bel s.bel.size (fun i hi => by rcases hi with rfl | rfl <;> omega)
    exact t2.below b1 (Nat.le_trans s.bel.size t.size) (fun i hi => by rcases hi with rfl | rfl <;> omega)
theorem BdS.toC {w X X1 X' : World} {A : Nat} {n key : Int} {ha hb hc : Hv} {all mine m1 m2 k many : Int} (s : BdS w A n key ha hb hc all mine m1 m2 X) (hA : w.heap.size ≤ A) (hE : addE ha many = 0) (h1 : HvAt X1 (A + 1) A (addS ha k many)) (t : Turn (fun i => i = A + 1 ∨ i = A) X X1) (h2 : HvAt X' (A + 5) (A + 4) (addS hc k many)) (t2 : Turn (fun i => i = A + 5 ∨ i = A + 4) X1 X') :
    BdS w A n key (addG ha k many) hb (addG hc k many) (all + many) (plusI k key mine many) m1 (plusI k key m2 many) X' := by
  obtain ⟨e1, e2, e3⟩ := addE_ok hE
  obtain ⟨f1, f2⟩ := s.fits hE
  have g1 := addE_ok f2
  rw [addS_eq hE] at h1
  rw [addS_eq f2] at h2
  have al := s.al
  have al2 := s.al2
  have mm := s.mm
  refine ⟨h1.turn t2 (by omega) (by omega), (s.vb.turn t (by omega) (by omega)).turn t2 (by omega) (by omega), h2, addG_ok s.oa k many e1 e3, s.ob, addG_ok s.oc k many e1 g1.2.2, (addG_n _ _ _).trans s.na, s.nb, (addG_n _ _ _).trans s.nc, ?_, ?_, s.ga.add s.oa k many e1, s.gb, s.gc.add s.oc k many e1, ?_, ?_⟩
  · rw [addG_all, al]
  · rw [addG_all]; omega
  · unfold plusI; split <;> omega
  · have b1 := t.below s.bel s.bel.size (fun i hi => by rcases hi with rfl | rfl <;> omega)
    exact t2.below b1 (Nat.le_trans s.bel.size t.size) (fun i hi => by rcases hi with rfl | rfl <;> omega)
theorem BdS.below {w X X' : World} {A : Nat} {n key : Int} {ha hb hc : Hv} {all mine m1 m2 : Int} (s : BdS w A n key ha hb hc all mine m1 m2 X) (b : Below X.heap.size X X') : BdS w A n key ha hb hc all mine m1 m2 X' :=
  ⟨s.va.below b, s.vb.below b, s.vc.below b, s.oa, s.ob, s.oc, s.na, s.nb, s.nc, s.al, s.al2, s.ga, s.gb, s.gc, s.mm, s.bel.trans (b.mono s.bel.size)⟩
/-- What may be lacking is no more than a part of all. -/
theorem less_part {h : Hv} (ok : HvOk h) : 0 ≤ h.less * (h.n + 1) ∧ h.less * (h.n + 1) ≤ h.all := by
  have h1 := sum_nonneg ok.po
  have h2 := ok.sm
  have h3 : h.less * 0 ≤ h.less * (h.n + 1) := Int.mul_le_mul_of_nonneg_left (by have := ok.nn; omega) ok.ls
  omega
set_option maxRecDepth 100000 in
set_option maxHeartbeats 32000000 in
theorem hbnd_any (n : Int) (v : Value) (l : List Sp) (cut key : Int) (w : World) (hv : Spns w v l) (hl : l.length ≤ 140737488355328) (hwf : ∀ p ∈ l, SpWf p) (hkw : WfK key) :
    Calls Try.prog 3 #[.int .i64 n, v, .int .i64 cut, .int .i64 key] w fun e w' => e = .returned (.bool true) ∧ Below w.heap.size w w' := by
  have hc := hnew_ok 1 w rfl
  obtain ⟨av, cv, rfl⟩ := hv.len
  have HV := hidE hv
  have HWF := hidE hwf
  have HKW := hidE hkw
  have HSH : Hid (∀ i, i < l.length → ∃ g off, av = some ⟨g, off, none⟩ ∧ g < w.heap.size ∧ ∀ j (h : j < l.length), SpC w g (off + j * 2) l[j]) := fun i hi => by
    obtain ⟨g, off, h1, h2, _, _, h3⟩ := hv.shape (by omega)
    exact ⟨g, off, h1, h2, h3⟩
  clear hv hwf hkw
  go_enter Try.func3, Try.ntmps3
  go_upto_region 4 with (go_at_call 5; go_must (refine hc.mono ?_; rintro e W1 ⟨rfl, k1, b1, s1⟩))
  have hd1 := add_any (w.heap.size + 1) w.heap.size one0 5 3 W1 k1 one0_ok ⟨by decide, by decide⟩
  rw [one_add1, show errI 0 = .nilIface from rfl] at hd1
  go_upto_region 5 with (go_at_call 6; go_must (refine hd1.mono ?_; rintro e W2 ⟨rfl, k2, t2⟩))
  have hd2 := add_any (w.heap.size + 1) w.heap.size (addS one0 5 3) 6 1 W2 k2 (one0_ok.add _ _) ⟨by decide, by decide⟩
  rw [one_add2, show errI 0 = .nilIface from rfl] at hd2
  go_upto_region 6 with (go_at_call 6; go_must (refine hd2.mono ?_; rintro e W3 ⟨rfl, k3, t3⟩))
  have hd3 := count_any (w.heap.size + 1) w.heap.size _ 5 W3 k3 ⟨by decide, by decide⟩
  rw [one_many, one_less] at hd3
  unfold cntV at hd3
  have HB3 : Hid (Below w.heap.size w W3) := t3.below (t2.below b1 b1.size (fun i hi => by rcases hi with rfl | rfl <;> omega)) (Nat.le_trans b1.size t2.size) (fun i hi => by rcases hi with rfl | rfl <;> omega)
  clear k1 k2 k3 b1 t2 t3 s1 hd1 hd2 hc
  go_upto_region 7 with (go_at_call 7; go_must (refine hd3.mono ?_; rintro e W4 ⟨rfl, b4⟩))
  have HB4 := hidE (HB3.out.trans (b4.mono HB3.out.size))
  clear hd3 b4 HB3
  have HB5 := hidE (HB4.out.alloc HB4.out.size (.cells #[.int .i64 5, .int .i64 2, .int .i64 1] 30))
  go_upto_region 9 with fail
  obtain ⟨W5, hW5⟩ : ∃ W5, W4.alloc (.cells #[.int .i64 5, .int .i64 2, .int .i64 1] 30) = W5 := ⟨_, rfl⟩
  rw [hW5] at HB5 ⊢
  clear hW5 HB4
  cases hn : numB n
  · have hbad := hnew_bad n W5 hn
    rcases (by unfold numB at hn; simp at hn; omega : n < 1 ∨ (¬ n < 1 ∧ 20 < n)) with h1 | ⟨h1, h2⟩
    all_goals
      clear hn HV HWF HKW HSH
      go_wp2_with (go_at_call 5; go_must (refine hbad.mono ?_; rintro e W3 ⟨rfl, hW3⟩; rw [hW3]; clear hW3 W3))
      go_ret
      exact ⟨rfl, HB5.out⟩
  · have hn1 : 1 ≤ n := by unfold numB at hn; simp at hn; omega
    have hn2 : n ≤ 20 := by unfold numB at hn; simp at hn; omega
    have n1 := hnew_ok n W5 hn
    go_upto_region 10 with (go_at_call 5; go_must (refine n1.mono ?_; rintro e W6 ⟨rfl, k6, b6, s6⟩))
    have n2 := hnew_ok n W6 hn
    go_upto_region 11 with (go_at_call 5; go_must (refine n2.mono ?_; rintro e W7 ⟨rfl, k7, b7, s7⟩))
    have n3 := hnew_ok n W7 hn
    go_upto_region 12 with (go_at_call 5; go_must (refine n3.mono ?_; rintro e W8 ⟨rfl, k8, b8, s8⟩))
    have hs5 := HB5.out.size
    rw [s7, s6] at k8
    rw [s6] at k7
    try simp only [s7, s6]
    obtain ⟨A, hAe⟩ : ∃ A, W5.heap.size = A := ⟨_, rfl⟩
    have hA : w.heap.size ≤ A := by omega
    have HS0 : Hid (∃ ha hb hc m1 m2, BdS w A n key ha hb hc 0 0 m1 m2 W8) := by
      have k6' := (k6.below b7).below b8
      have k7' := k7.below b8
      rw [hAe] at k6' k7' k8
      have hb0 : Bnd { n := n, less := 0, all := 0, l := [] } key 0 := ⟨Int.le_refl _, Int.le_refl _⟩
      exact ⟨_, _, _, 0, 0, k6', k7', k8, HvOk.new ⟨hn1, hn2⟩, HvOk.new ⟨hn1, hn2⟩, HvOk.new ⟨hn1, hn2⟩, rfl, rfl, rfl, rfl, rfl, hb0, hb0, hb0, rfl, ((HB5.out.trans (b6.mono HB5.out.size)).trans (b7.mono (Nat.le_trans HB5.out.size b6.size))).trans (b8.mono (Nat.le_trans (Nat.le_trans HB5.out.size b6.size) b7.size))⟩
    rw [hAe]
    clear n1 n2 n3 k6 k7 k8 b6 b7 b8 s6 s7 s8 hn HB5 hs5 hAe
    go_upto_block 0 with fail
    go_cut [20, 21, 22] (fun va vm vi wx => ∃ all mine : Int, va = .int .i64 all ∧ vm = .int .i64 mine ∧ Hid (∃ ha hb hc m1 m2, BdS w A n key ha hb hc all mine m1 m2 wx))
    case first =>
      go_wp2_with fail
      go_loopw [20, 21, 22] (fun va vm vi wr => ∃ (j : Nat) (all mine : Int), va = .int .i64 all ∧ vm = .int .i64 mine ∧ vi = .int .i64 (j : Int) ∧ j ≤ 80 ∧ Hid (∃ ha hb hc m1 m2, BdS w A n key ha hb hc all mine m1 m2 wr)) (fun _ _ vi _ => (100 - intOf vi).toNat)
      case atStart => exact ⟨0, 0, 0, rfl, rfl, rfl, by omega, HS0⟩
      case round =>
        clear HS0
        obtain ⟨j, all, mine, rfl, rfl, rfl, hj80, HS⟩ := hrel
        by_cases hj : j < l.length ∧ j < 80
        · have hj1 : (j : Int) < (l.length : Int) := by omega
          have hj2 : (j : Int) < 80 := by omega
          obtain ⟨ha, hb, hc, m1, m2, hS⟩ := HS.out
          obtain ⟨g, off, rfl, hg, hcells⟩ := HSH.out j hj.1
          obtain ⟨c0, c1⟩ := hcells j hj.1
          have c0 := (hS.bel.cell (p := ⟨g, off + j * 2, none⟩) hg).trans c0
          have c1 := (hS.bel.cell (p := ⟨g, off + j * 2 + 1, none⟩) hg).trans c1
          have hwk := HWF.out _ (List.getElem_mem hj.1)
          obtain ⟨k, hk⟩ : ∃ k, (l[j]'hj.1).1 = k := ⟨_, rfl⟩
          obtain ⟨mn, hmn⟩ : ∃ mn, (l[j]'hj.1).2 = mn := ⟨_, rfl⟩
          have HK : Hid (WfK k) := by rw [← hk]; exact wfOf hwk.1
          rw [hk] at c0
          rw [hmn] at c1
          have hadd := add_any (A + 1) A ha k mn wr hS.va hS.oa HK.out
          have HB := hidE hS
          clear hwk hcells hk hmn hg hS HS HV HWF HSH
          by_cases hE : addE ha mn = 0
          · rw [hE, show errI 0 = .nilIface from rfl] at hadd
            go_upto_region 22 with (go_at_call 6; go_must (refine hadd.mono ?_; rintro e W2 ⟨rfl, k2, t2⟩))
            clear c0 c1 hadd
            have HK2 := hidE k2
            have HT2 := hidE t2
            have HE := hidE hE
            have haddb := add_any (A + 3) (A + 2) hb k mn W2 (HB.out.vb.turn t2 (by omega) (by omega)) HB.out.ob HK.out
            have haddc := add_any (A + 5) (A + 4) hc k mn W2 (HB.out.vc.turn t2 (by omega) (by omega)) HB.out.oc HK.out
            rw [(HB.out.fits hE).1, show errI 0 = .nilIface from rfl] at haddb
            rw [(HB.out.fits hE).2, show errI 0 = .nilIface from rfl] at haddc
            have hEE := addE_ok hE
            have q1 := HB.out.oa.all_nonneg
            have q2 := HB.out.al
            clear k2 t2 hE
            go_upto_if 115 with fail
            go_cut [25] (fun v25 wx => v25 = .nilIface ∧ Hid (∃ ha hb hc m1 m2, BdS w A n key ha hb hc (all + mn) (plusI k key mine mn) m1 m2 wx))
            case first =>
              by_cases hcut : (j : Int) < cut
              · go_wp2_with (go_at_call 6; go_must (refine haddb.mono ?_; rintro e W3 ⟨rfl, k3, t3⟩))
                go_meet
                exact ⟨rfl, _, _, _, _, _, HB.out.toB hA HE.out HK2.out HT2.out k3 t3⟩
              · go_wp2_with (go_at_call 6; go_must (refine haddc.mono ?_; rintro e W3 ⟨rfl, k3, t3⟩))
                go_meet
                exact ⟨rfl, _, _, _, _, _, HB.out.toC hA HE.out HK2.out HT2.out k3 t3⟩
            case rest =>
              obtain ⟨rfl, HN⟩ := hcut
              clear haddb haddc HK2 HT2
              obtain ⟨ha', hb', hc', m1', m2', hS⟩ := HN.out
              have hcnt := count_any (A + 1) A ha' key _ hS.va HKW.out
              unfold cntV at hcnt
              obtain ⟨p1, p2⟩ := less_part hS.oa
              obtain ⟨r1, r2⟩ := hS.ga
              rw [hS.na, hS.al] at p2
              rw [hS.na] at p1
              have g0 := getC_nonneg hS.oa.po key
              have g1 : getC ha'.l key ≤ 1099511627776 := Int.le_trans (getC_sum hS.oa.po key) hS.oa.sum_le
              have ls0 := hS.oa.ls
              have ls1 := hS.oa.less_le
              obtain ⟨z1, z2⟩ := HB.out.ga
              have z3 := getC_nonneg HB.out.oa.po key
              have z4 : getC ha.l key ≤ 1099511627776 := Int.le_trans (getC_sum HB.out.oa.po key) HB.out.oa.sum_le
              have z5 := HB.out.oa.less_le
              have mn0 : 0 ≤ mine := by omega
              have mn1 : mine ≤ 2199023255552 := by omega
              have al0 : 0 ≤ all := by omega
              have al1 : all + mn ≤ 1099511627776 := by omega
              obtain ⟨mn2, mn3, _⟩ := hEE
              have HS2 := hidE hS
              have HALL := hidE (fun X (kX : HvAt X (A + 1) A ha') => hall_any (A + 1) A ha' X kX)
              rw [hS.al] at HALL
              clear q1 q2 z1 z2 z3 z4 z5 HN hS HK
              generalize getC ha'.l key = G at hcnt r1 r2 g0 g1
              generalize ha'.less = LS at hcnt r2 p1 p2 ls0 ls1
              have hd3 : decide (LS * (n + 1) > all + mn) = false := decide_eq_false (by omega)
              by_cases hkk : k = key
              · have hpl : plusI k key mine mn = mine + mn := if_pos hkk
                rw [hpl] at HS2 r1 r2
                have hd1 : decide (G > mine + mn) = false := decide_eq_false (by omega)
                have hd2 : decide (G + LS < mine + mn) = false := decide_eq_false (by omega)
                subst hkk
                clear hpl
                go_upto_region 32 with (go_at_call 7; go_must (refine hcnt.mono ?_; rintro e W5 ⟨rfl, b5⟩))
                have B6 : Below W5.heap.size W5 (W5.alloc (.cells #[.int .i64 k, .int .i64 G, .int .i64 LS] 30)) := (Below.refl _ _).alloc (Nat.le_refl _) _
                have x6 := heap_alloc_new W5 (.cells #[.int .i64 k, .int .i64 G, .int .i64 LS] 30)
                have S6 := (HS2.out.below b5).below B6
                obtain ⟨W6, hW6⟩ : ∃ W6, W5.alloc (.cells #[.int .i64 k, .int .i64 G, .int .i64 LS] 30) = W6 := ⟨_, rfl⟩
                rw [hW6] at x6 S6 ⊢
                have HS6 := hidE S6
                obtain ⟨_, f1, f2⟩ := ct_cells x6
                have hca := HALL.out W6 S6.va
                clear hW6 b5 B6 x6 S6 hcnt HS2 HALL
                go_wp2_with (go_at_call 8; go_must (refine hca.mono ?_; rintro e W7 ⟨rfl, hW7⟩; rw [hW7]; clear hW7 W7))
                go_roundw
                case rel => exact ⟨j + 1, _, _, rfl, rfl, by simp, by omega, ⟨_, _, _, _, _, HS6.out⟩⟩
                case measure => simp only [intOf]; omega
              · have hpl : plusI k key mine mn = mine := if_neg hkk
                have hkk' : (k == key) = false := by simpa using hkk
                rw [hpl] at HS2 r1 r2
                have hd1 : decide (G > mine) = false := decide_eq_false (by omega)
                have hd2 : decide (G + LS < mine) = false := decide_eq_false (by omega)
                clear hpl
                go_upto_region 32 with (go_at_call 7; go_must (refine hcnt.mono ?_; rintro e W5 ⟨rfl, b5⟩))
                have B6 : Below W5.heap.size W5 (W5.alloc (.cells #[.int .i64 key, .int .i64 G, .int .i64 LS] 30)) := (Below.refl _ _).alloc (Nat.le_refl _) _
                have x6 := heap_alloc_new W5 (.cells #[.int .i64 key, .int .i64 G, .int .i64 LS] 30)
                have S6 := (HS2.out.below b5).below B6
                obtain ⟨W6, hW6⟩ : ∃ W6, W5.alloc (.cells #[.int .i64 key, .int .i64 G, .int .i64 LS] 30) = W6 := ⟨_, rfl⟩
                rw [hW6] at x6 S6 ⊢
                have HS6 := hidE S6
                obtain ⟨_, f1, f2⟩ := ct_cells x6
                have hca := HALL.out W6 S6.va
                clear hW6 b5 B6 x6 S6 hcnt HS2 HALL
                go_wp2_with (go_at_call 8; go_must (refine hca.mono ?_; rintro e W7 ⟨rfl, hW7⟩; rw [hW7]; clear hW7 W7))
                go_roundw
                case rel => exact ⟨j + 1, _, _, rfl, rfl, by simp, by omega, ⟨_, _, _, _, _, HS6.out⟩⟩
                case measure => simp only [intOf]; omega
          · rw [show errI (addE ha mn) = .iface 41 (.int .i64 (addE ha mn)) from if_neg hE] at hadd
            have HE := hidE hE
            clear hE
            go_wp2_with (go_at_call 6; go_must (refine hadd.mono ?_; rintro e W2 ⟨rfl, k2, t2⟩))
            have HS2 := hidE (HB.out.no hA HE.out k2 t2)
            go_roundw
            case rel => exact ⟨j + 1, _, _, rfl, rfl, by simp, by omega, ⟨_, _, _, _, _, HS2.out⟩⟩
            case measure => simp only [intOf]; omega
        · rcases (by omega : (¬ (j : Int) < (l.length : Int)) ∨ ((j : Int) < (l.length : Int) ∧ ¬ (j : Int) < 80)) with hd | ⟨hd, hd2⟩
          all_goals
            clear hj HV HWF HSH
            go_wp2_with fail
            go_meet
            exact ⟨_, _, rfl, rfl, HS⟩
    case rest =>
      clear HS0 HV HWF HSH
      obtain ⟨all, mine, rfl, rfl, HS⟩ := hcut
      obtain ⟨ha, hb, hc, m1, m2, hS⟩ := HS.out
      have hmg := merge_ok (A + 3) (A + 2) (A + 5) (A + 4) hb hc _ hS.vb hS.vc hS.ob hS.oc (by omega) (by omega) (hS.nc.trans hS.nb.symm) (by have := hS.al2; have := hS.al; have := hS.oa.al; omega)
      have HS1 := hidE hS
      clear hS HS
      go_upto_region 35 with (go_at_call 9; go_must (refine hmg.mono ?_; rintro e W3 ⟨rfl, ql, hp, hfl, k3, t3⟩))
      have hok := mrgS_ok HS1.out.ob HS1.out.oc (HS1.out.nc.trans HS1.out.nb.symm) hp hfl (by have := HS1.out.al2; have := HS1.out.al; have := HS1.out.oa.al; omega)
      have hbd := HS1.out.gb.merge HS1.out.ob HS1.out.oc hp HS1.out.gc
      rw [HS1.out.mm] at hbd
      have hal : (mrgS hb hc ql).all = all := (mrgS_all _ _ _).trans HS1.out.al2
      have hnn : (mrgS hb hc ql).n = n := (mrgS_n _ _ _).trans HS1.out.nb
      have HB3 := hidE (t3.below HS1.out.bel HS1.out.bel.size (fun i hi => by rcases hi with rfl | rfl <;> omega))
      obtain ⟨p1, p2⟩ := less_part hok
      rw [hnn] at p1 p2
      rw [hal] at p2
      obtain ⟨r1, r2⟩ := hbd
      have g0 := getC_nonneg hok.po key
      have g1 : getC (mrgS hb hc ql).l key ≤ 1099511627776 := Int.le_trans (getC_sum hok.po key) hok.sum_le
      have ls0 := hok.ls
      have ls1 := hok.less_le
      have al1 := hok.al
      rw [hal] at al1
      have hcnt := count_any (A + 3) (A + 2) _ key W3 k3 HKW.out
      unfold cntV at hcnt
      have HK3 := hidE k3
      have HALL := hidE (fun X (kX : HvAt X (A + 3) (A + 2) (mrgS hb hc ql)) => hall_any (A + 3) (A + 2) _ X kX)
      rw [hal] at HALL
      clear hmg hp hfl k3 t3 hok hal hnn HS1
      generalize mrgS hb hc ql = hh at hcnt r1 r2 g0 g1 p1 p2 ls0 ls1 HALL HK3
      generalize getC hh.l key = G at hcnt r1 r2 g0 g1
      generalize hh.less = LS at hcnt r2 p1 p2 ls0 ls1
      have r1' : G ≤ mine := r1
      have r2' : G + LS ≥ mine := r2
      have p2' : LS * (n + 1) ≤ all := p2
      go_upto_region 36 with (go_at_call 7; go_must (refine hcnt.mono ?_; rintro e W5 ⟨rfl, b5⟩))
      have B6 : Below W5.heap.size W5 (W5.alloc (.cells #[.int .i64 key, .int .i64 G, .int .i64 LS] 30)) := (Below.refl _ _).alloc (Nat.le_refl _) _
      have x6 := heap_alloc_new W5 (.cells #[.int .i64 key, .int .i64 G, .int .i64 LS] 30)
      have k6 := (HK3.out.below b5).below B6
      have hbb := HB3.out.trans (b5.mono HB3.out.size)
      have HB6 := hidE (hbb.trans (B6.mono hbb.size))
      obtain ⟨W6, hW6⟩ : ∃ W6, W5.alloc (.cells #[.int .i64 key, .int .i64 G, .int .i64 LS] 30) = W6 := ⟨_, rfl⟩
      rw [hW6] at x6 k6 HB6 ⊢
      obtain ⟨_, f1, f2⟩ := ct_cells x6
      have hca := HALL.out W6 k6
      clear hW6 b5 B6 x6 k6 hbb hcnt HALL HK3 HB3
      go_wp2_with (go_at_call 8; go_must (refine hca.mono ?_; rintro e W7 ⟨rfl, hW7⟩; rw [hW7]; clear hW7 W7))
      go_ret
      exact ⟨by simp, HB6.out⟩
theorem hbnd_walk (n : Int) (v : Value) (l : List Sp) (cut key : Int) (w : World) {p q : Prop} (_ : p) (hv : Spns w v l) (hl : l.length ≤ 140737488355328) (hwf : ∀ p ∈ l, SpWf p) (_ : q) (hk : (Lit.int .i64 key).wf = true) :
    Calls Try.prog 3 #[.int .i64 n, v, .int .i64 cut, .int .i64 key] w fun e w' => e = .returned (.bool true) ∧ Below w.heap.size w w' := hbnd_any n v l cut key w hv hl hwf (wfOf hk)
end Go.Proofs.Ytchailjgikjhlaa
