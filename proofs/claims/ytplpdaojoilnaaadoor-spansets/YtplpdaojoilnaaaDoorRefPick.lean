/- What the reference's Pick returns (package portref1): the Normed spans of what is picked. -/
import Derived.Test.YtplpdaojoilnaaaDoorRefNrm
import Derived.Test.YtplpdaojoilnaaaDoorSpnSet
namespace Go.Proofs.YtplpdaojoilnaaaDoor
open Go.RowKit
set_option linter.unusedVariables false
set_option maxRecDepth 4000

def pickB (both left x y : Bool) : Bool := if left = true then x && !y else if both = true then x && y else x || y
theorem Picked.set {f : Int → Bool} {out : List Sp} {fr : Int} (h : Picked f out fr) (hf : 65535 < fr) (h1 : fr ≤ 65536) : normR out = setP f := by
  have e : fr = 65536 := by omega
  subst e
  obtain ⟨h1, h2, _⟩ := normR_is out h.1
  refine setP_unique h1 (fun n => ?_)
  rw [h2, h.2.1]
  congr 1
  simp only [decide_eq_decide]; omega
set_option maxHeartbeats 32000000 in
theorem refPick_any (va vb : Value) (a b : List Sp) (both left : Bool) (w : World) (ha : Spns w va a) (hb : Spns w vb b) (oka : OkS a) (okb : OkS b) (hna : a.length ≤ 100000) (hnb : b.length ≤ 100000) :
    Calls Tryd.prog 8 #[va, vb, .bool both, .bool left] w fun e w' => ∃ v', e = .returned v' ∧ OwnSp w' w.heap.size v' (setP fun n => pickB both left (inB a n) (inB b n)) ∧ Below w.heap.size w w' := by
  obtain ⟨ao, ca, rfl⟩ := ha.len
  obtain ⟨bo, cb, rfl⟩ := hb.len
  obtain ⟨NA, hNA⟩ : ∃ N, a.length = N := ⟨_, rfl⟩
  obtain ⟨NB, hNB⟩ : ∃ N, b.length = N := ⟨_, rfl⟩
  have hia := fun n W (h : Below w.heap.size w W) => refIn_any _ a n W (ha.below h) (by omega)
  have hib := fun n W (h : Below w.heap.size w W) => refIn_any _ b n W (hb.below h) (by omega)
  rw [hNA] at ha hna hia ⊢
  rw [hNB] at hb hnb hib ⊢
  obtain ⟨f, hf⟩ : ∃ f : Int → Bool, (fun n => pickB both left (inB a n) (inB b n)) = f := ⟨_, rfl⟩
  rw [hf]
  have HF : Hid (∀ n, f n = pickB both left (inB a n) (inB b n)) := fun n => by rw [← hf]
  have HNA : Hid (a.length = NA) := hNA
  have HNB : Hid (b.length = NB) := hNB
  have HA : Hid (Spns w (.slice ao NA ca) a) := ha
  have HB0 : Hid (Spns w (.slice bo NB cb) b) := hb
  have HIA : Hid (∀ n W, Below w.heap.size w W → Calls Tryd.prog 9 #[.slice ao NA ca, .int .i64 n] W fun e w' => e = .returned (.bool (inB a n)) ∧ Below W.heap.size W w') := hia
  have HIB : Hid (∀ n W, Below w.heap.size w W → Calls Tryd.prog 9 #[.slice bo NB cb, .int .i64 n] W fun e w' => e = .returned (.bool (inB b n)) ∧ Below W.heap.size W w') := hib
  have HOA : Hid (OkS a ∧ OkS b) := ⟨oka, okb⟩
  clear ha hb hNA hNB hia hib oka okb hf
  go_enter Tryd.func8, Tryd.ntmps8
  go_wp2_with fail
  go_loopw [9, 10] (fun v9 fv wr => ∃ (fr : Int) (out : List Sp), fv = .int .i64 fr ∧ 0 ≤ fr ∧ fr ≤ 65536 ∧ OwnSp wr w.heap.size v9 out ∧ Below w.heap.size w wr ∧ Hid (Picked f out fr)) (fun _ fv _ => (65536 - intOf fv).toNat)
  case atStart => exact ⟨0, [], rfl, by omega, by omega, OwnSp.nil _ _, Below.refl _ _, Picked.zero f⟩
  case round =>
    obtain ⟨fr, out, rfl, hf0, hf1, hown, hbw, hP⟩ := hrel
    by_cases hlt : fr ≤ 65535
    · have hia := HIA.out fr wr hbw
      have HIB2 : Hid (∀ W, Below w.heap.size w W → Calls Tryd.prog 9 #[.slice bo NB cb, .int .i64 fr] W fun e w' => e = .returned (.bool (inB b fr)) ∧ Below W.heap.size W w') := HIB.out fr
      have HFR : Hid (f fr = pickB both left (inB a fr) (inB b fr)) := HF.out fr
      have HSA : Hid (∀ t, sameTo a a.length fr t ∧ sameTo b b.length fr t → ∀ n, fr ≤ n → n ≤ t → f n = f fr) := fun t ht n h1 h2 => by rw [HF.out, HF.out, sameTo_in ht.1 h1 h2, sameTo_in ht.2 h1 h2]
      generalize inB a fr = x at hia HFR
      generalize inB b fr = y at HIB2 HFR
      have HBW : Hid (Below w.heap.size w wr) := hbw
      have HOW : Hid (OwnSp wr w.heap.size u9 out) := hown
      clear hown hbw
      go_upto_region 5 with (go_at_call 9; go_must (refine hia.mono ?_; rintro e w1 ⟨rfl, b1⟩))
      have HB1 : Hid (Below w.heap.size w w1) := HBW.out.trans (b1.mono HBW.out.size)
      have HO1 : Hid (OwnSp w1 w.heap.size u9 out) := HOW.out.below b1
      have hib := HIB2.out w1 HB1.out
      clear hia b1 HIB2
      go_upto_region 6 with (go_at_call 9; go_must (refine hib.mono ?_; rintro e w2 ⟨rfl, b2⟩))
      have HB2 : Hid (Below w.heap.size w w2) := HB1.out.trans (b2.mono HB1.out.size)
      have HO2 : Hid (OwnSp w2 w.heap.size u9 out) := HO1.out.below b2
      clear hib b2
      go_wp2_with fail
      go_loopw [13, 14] (fun tv iv wr => ∃ (k : Nat) (t : Int), k ≤ NA ∧ iv = .int .i64 (k : Int) ∧ tv = .int .i64 t ∧ fr ≤ t ∧ t ≤ 65535 ∧ Below w2.heap.size w2 wr ∧ Hid (sameTo a k fr t)) (fun _ iv _ => ((NA : Int) - intOf iv).toNat)
      case atStart => exact ⟨0, 65535, by omega, rfl, rfl, by omega, by omega, Below.refl _ _, sameTo_zero _ _ _⟩
      case round =>
        obtain ⟨k, t, hk, rfl, rfl, ht0, ht1, hb3, HS⟩ := hrel
        have HB : Hid (Below w2.heap.size w2 wr) := hb3
        by_cases hkn : k < NA
        · as_aux_lemma =>
          have hk' : (k : Int) < (NA : Int) := by omega
          have hkl : k < a.length := by rw [HNA.out]; exact hkn
          obtain ⟨bl, off, rfl, hbl, hcc, hcm, hcs⟩ := HA.out.shape (by omega)
          obtain ⟨c0, c1⟩ := (hcs k hkl).keep ((hb3.block bl (Nat.lt_of_lt_of_le hbl HB2.out.size)).trans (HB2.out.block bl hbl))
          unfold maxLen at hcm
          have hs := HOA.out.1 a[k] (List.getElem_mem _)
          obtain ⟨s, hse⟩ : ∃ s, a[k] = s := ⟨_, rfl⟩
          have HK : Hid (a[k] = s) := hse
          rw [hse] at c0 c1 hs
          obtain ⟨p, q⟩ := s
          simp only at c0 c1 hs
          obtain ⟨s0, s1, s2⟩ := hs
          clear hcs hse hb3
          by_cases h1 : fr < p
          · by_cases h2 : p - 1 < t
            · by_cases h3 : fr ≤ q
              · by_cases h4 : q < (p - 1)
                · have HX : Hid (sameTo a (k + 1) fr q) := sameTo_snoc hkl HS.out (by omega) (by rw [HK.out]; simp only; omega) (by rw [HK.out]; simp only; omega)
                  go_wp2_with fail
                  go_roundw
                  case rel => exact ⟨k + 1, q, by omega, by go_num, rfl, by omega, by omega, HB.out, HX.out⟩
                  case measure => simp [intOf]; omega
                · have HX : Hid (sameTo a (k + 1) fr (p - 1)) := sameTo_snoc hkl HS.out (by omega) (by rw [HK.out]; simp only; omega) (by rw [HK.out]; simp only; omega)
                  go_wp2_with fail
                  go_roundw
                  case rel => exact ⟨k + 1, (p - 1), by omega, by go_num, rfl, by omega, by omega, HB.out, HX.out⟩
                  case measure => simp [intOf]; omega
              · have HX : Hid (sameTo a (k + 1) fr (p - 1)) := sameTo_snoc hkl HS.out (by omega) (by rw [HK.out]; simp only; omega) (by rw [HK.out]; simp only; omega)
                go_wp2_with fail
                go_roundw
                case rel => exact ⟨k + 1, (p - 1), by omega, by go_num, rfl, by omega, by omega, HB.out, HX.out⟩
                case measure => simp [intOf]; omega
            · by_cases h3 : fr ≤ q
              · by_cases h4 : q < t
                · have HX : Hid (sameTo a (k + 1) fr q) := sameTo_snoc hkl HS.out (by omega) (by rw [HK.out]; simp only; omega) (by rw [HK.out]; simp only; omega)
                  go_wp2_with fail
                  go_roundw
                  case rel => exact ⟨k + 1, q, by omega, by go_num, rfl, by omega, by omega, HB.out, HX.out⟩
                  case measure => simp [intOf]; omega
                · have HX : Hid (sameTo a (k + 1) fr t) := sameTo_snoc hkl HS.out (by omega) (by rw [HK.out]; simp only; omega) (by rw [HK.out]; simp only; omega)
                  go_wp2_with fail
                  go_roundw
                  case rel => exact ⟨k + 1, t, by omega, by go_num, rfl, by omega, by omega, HB.out, HX.out⟩
                  case measure => simp [intOf]; omega
              · have HX : Hid (sameTo a (k + 1) fr t) := sameTo_snoc hkl HS.out (by omega) (by rw [HK.out]; simp only; omega) (by rw [HK.out]; simp only; omega)
                go_wp2_with fail
                go_roundw
                case rel => exact ⟨k + 1, t, by omega, by go_num, rfl, by omega, by omega, HB.out, HX.out⟩
                case measure => simp [intOf]; omega
          · by_cases h3 : fr ≤ q
            · by_cases h4 : q < t
              · have HX : Hid (sameTo a (k + 1) fr q) := sameTo_snoc hkl HS.out (by omega) (by rw [HK.out]; simp only; omega) (by rw [HK.out]; simp only; omega)
                go_wp2_with fail
                go_roundw
                case rel => exact ⟨k + 1, q, by omega, by go_num, rfl, by omega, by omega, HB.out, HX.out⟩
                case measure => simp [intOf]; omega
              · have HX : Hid (sameTo a (k + 1) fr t) := sameTo_snoc hkl HS.out (by omega) (by rw [HK.out]; simp only; omega) (by rw [HK.out]; simp only; omega)
                go_wp2_with fail
                go_roundw
                case rel => exact ⟨k + 1, t, by omega, by go_num, rfl, by omega, by omega, HB.out, HX.out⟩
                case measure => simp [intOf]; omega
            · have HX : Hid (sameTo a (k + 1) fr t) := sameTo_snoc hkl HS.out (by omega) (by rw [HK.out]; simp only; omega) (by rw [HK.out]; simp only; omega)
              go_wp2_with fail
              go_roundw
              case rel => exact ⟨k + 1, t, by omega, by go_num, rfl, by omega, by omega, HB.out, HX.out⟩
              case measure => simp [intOf]; omega
        · have hk' : ¬ (k : Int) < (NA : Int) := by omega
          have HSF : Hid (sameTo a a.length fr t) := by
            have : k = a.length := by rw [HNA.out]; omega
            rw [Hid, ← this]; exact HS.out
          obtain ⟨wA, hwA⟩ : ∃ wA, wA = wr := ⟨_, rfl⟩
          subst hwA
          clear hb3 HS
          go_wp2_with fail
          go_loopw [13, 15] (fun tv iv wr => ∃ (k : Nat) (t : Int), k ≤ NB ∧ iv = .int .i64 (k : Int) ∧ tv = .int .i64 t ∧ fr ≤ t ∧ t ≤ 65535 ∧ Below w2.heap.size w2 wr ∧ Hid (sameTo a a.length fr t ∧ sameTo b k fr t)) (fun _ iv _ => ((NB : Int) - intOf iv).toNat)
          case atStart => exact ⟨0, t, by omega, rfl, rfl, ht0, ht1, HB.out, HSF.out, sameTo_zero _ _ _⟩
          case round =>
            clear HSF ht0 ht1 HB hk
            obtain ⟨k, t, hk, rfl, rfl, ht0, ht1, hb3, HS⟩ := hrel
            have HB : Hid (Below w2.heap.size w2 wr) := hb3
            by_cases hkn : k < NB
            · as_aux_lemma =>
              have hk' : (k : Int) < (NB : Int) := by omega
              have hkl : k < b.length := by rw [HNB.out]; exact hkn
              obtain ⟨bl, off, rfl, hbl, hcc, hcm, hcs⟩ := HB0.out.shape (by omega)
              obtain ⟨c0, c1⟩ := (hcs k hkl).keep ((hb3.block bl (Nat.lt_of_lt_of_le hbl HB2.out.size)).trans (HB2.out.block bl hbl))
              unfold maxLen at hcm
              have hs := HOA.out.2 b[k] (List.getElem_mem _)
              obtain ⟨s, hse⟩ : ∃ s, b[k] = s := ⟨_, rfl⟩
              have HK : Hid (b[k] = s) := hse
              rw [hse] at c0 c1 hs
              obtain ⟨p, q⟩ := s
              simp only at c0 c1 hs
              obtain ⟨s0, s1, s2⟩ := hs
              clear hcs hse hb3
              by_cases h1 : fr < p
              · by_cases h2 : p - 1 < t
                · by_cases h3 : fr ≤ q
                  · by_cases h4 : q < (p - 1)
                    · have HX : Hid (sameTo a a.length fr q ∧ sameTo b (k + 1) fr q) := ⟨sameTo_mono HS.out.1 (by omega), sameTo_snoc hkl HS.out.2 (by omega) (by rw [HK.out]; simp only; omega) (by rw [HK.out]; simp only; omega)⟩
                      go_wp2_with fail
                      go_roundw
                      case rel => exact ⟨k + 1, q, by omega, by go_num, rfl, by omega, by omega, HB.out, HX.out⟩
                      case measure => simp [intOf]; omega
                    · have HX : Hid (sameTo a a.length fr (p - 1) ∧ sameTo b (k + 1) fr (p - 1)) := ⟨sameTo_mono HS.out.1 (by omega), sameTo_snoc hkl HS.out.2 (by omega) (by rw [HK.out]; simp only; omega) (by rw [HK.out]; simp only; omega)⟩
                      go_wp2_with fail
                      go_roundw
                      case rel => exact ⟨k + 1, (p - 1), by omega, by go_num, rfl, by omega, by omega, HB.out, HX.out⟩
                      case measure => simp [intOf]; omega
                  · have HX : Hid (sameTo a a.length fr (p - 1) ∧ sameTo b (k + 1) fr (p - 1)) := ⟨sameTo_mono HS.out.1 (by omega), sameTo_snoc hkl HS.out.2 (by omega) (by rw [HK.out]; simp only; omega) (by rw [HK.out]; simp only; omega)⟩
                    go_wp2_with fail
                    go_roundw
                    case rel => exact ⟨k + 1, (p - 1), by omega, by go_num, rfl, by omega, by omega, HB.out, HX.out⟩
                    case measure => simp [intOf]; omega
                · by_cases h3 : fr ≤ q
                  · by_cases h4 : q < t
                    · have HX : Hid (sameTo a a.length fr q ∧ sameTo b (k + 1) fr q) := ⟨sameTo_mono HS.out.1 (by omega), sameTo_snoc hkl HS.out.2 (by omega) (by rw [HK.out]; simp only; omega) (by rw [HK.out]; simp only; omega)⟩
                      go_wp2_with fail
                      go_roundw
                      case rel => exact ⟨k + 1, q, by omega, by go_num, rfl, by omega, by omega, HB.out, HX.out⟩
                      case measure => simp [intOf]; omega
                    · have HX : Hid (sameTo a a.length fr t ∧ sameTo b (k + 1) fr t) := ⟨sameTo_mono HS.out.1 (by omega), sameTo_snoc hkl HS.out.2 (by omega) (by rw [HK.out]; simp only; omega) (by rw [HK.out]; simp only; omega)⟩
                      go_wp2_with fail
                      go_roundw
                      case rel => exact ⟨k + 1, t, by omega, by go_num, rfl, by omega, by omega, HB.out, HX.out⟩
                      case measure => simp [intOf]; omega
                  · have HX : Hid (sameTo a a.length fr t ∧ sameTo b (k + 1) fr t) := ⟨sameTo_mono HS.out.1 (by omega), sameTo_snoc hkl HS.out.2 (by omega) (by rw [HK.out]; simp only; omega) (by rw [HK.out]; simp only; omega)⟩
                    go_wp2_with fail
                    go_roundw
                    case rel => exact ⟨k + 1, t, by omega, by go_num, rfl, by omega, by omega, HB.out, HX.out⟩
                    case measure => simp [intOf]; omega
              · by_cases h3 : fr ≤ q
                · by_cases h4 : q < t
                  · have HX : Hid (sameTo a a.length fr q ∧ sameTo b (k + 1) fr q) := ⟨sameTo_mono HS.out.1 (by omega), sameTo_snoc hkl HS.out.2 (by omega) (by rw [HK.out]; simp only; omega) (by rw [HK.out]; simp only; omega)⟩
                    go_wp2_with fail
                    go_roundw
                    case rel => exact ⟨k + 1, q, by omega, by go_num, rfl, by omega, by omega, HB.out, HX.out⟩
                    case measure => simp [intOf]; omega
                  · have HX : Hid (sameTo a a.length fr t ∧ sameTo b (k + 1) fr t) := ⟨sameTo_mono HS.out.1 (by omega), sameTo_snoc hkl HS.out.2 (by omega) (by rw [HK.out]; simp only; omega) (by rw [HK.out]; simp only; omega)⟩
                    go_wp2_with fail
                    go_roundw
                    case rel => exact ⟨k + 1, t, by omega, by go_num, rfl, by omega, by omega, HB.out, HX.out⟩
                    case measure => simp [intOf]; omega
                · have HX : Hid (sameTo a a.length fr t ∧ sameTo b (k + 1) fr t) := ⟨sameTo_mono HS.out.1 (by omega), sameTo_snoc hkl HS.out.2 (by omega) (by rw [HK.out]; simp only; omega) (by rw [HK.out]; simp only; omega)⟩
                  go_wp2_with fail
                  go_roundw
                  case rel => exact ⟨k + 1, t, by omega, by go_num, rfl, by omega, by omega, HB.out, HX.out⟩
                  case measure => simp [intOf]; omega
            · as_aux_lemma =>
              have hk' : ¬ (k : Int) < (NB : Int) := by omega
              have HSF : Hid (∀ n, fr ≤ n → n ≤ t → f n = f fr) := HSA.out t (by
                have : k = b.length := by rw [HNB.out]; omega
                rw [← this]; exact HS.out)
              have HB3 : Hid (Below w.heap.size w wr) := HB2.out.trans (hb3.mono HB2.out.size)
              have HO3 : Hid (OwnSp wr w.heap.size u9 out) := HO2.out.below hb3
              have hsz := HB3.out.size
              have hol : out.length ≤ 1000000 := by have := hP.out.2.2; omega
              have hown := HO3.out
              clear hb3 HS
              obtain ⟨r, hr⟩ : ∃ r, pickB both left x y = r := ⟨_, rfl⟩
              have HR : Hid (f fr = r) := by rw [Hid, HFR.out, hr]
              cases r with
              | true =>
                have HX : Hid (Picked f (out ++ [(fr, t)]) (t + 1)) := hP.out.yes hf0 ht0 ht1 (fun n h1 h2 => by rw [HSF.out n h1 h2, HR.out])
                clear HFR
                cases x <;> cases y <;> cases both <;> cases left <;> first | (exfalso; revert hr; simp [pickB]; done) | skip
                all_goals
                  clear hr
                  go_wp2_with (at_builtin; go_must (refine wpList_append_sp rfl (.tmp 141) (.tmp 145) rfl w.heap.size u9 out rfl hown fr t rfl hol hsz ?_; intro g5 c5 W5 own5 grow5 lie5))
                  go_roundw
                  case rel => exact ⟨t + 1, out ++ [(fr, t)], rfl, by omega, by omega, own5, HB3.out.trans (app_below HO3.out grow5 hsz), HX.out⟩
                  case measure => simp [intOf]; omega
              | false =>
                have HX : Hid (Picked f out (t + 1)) := hP.out.no ht0 (fun n h1 h2 => by rw [HSF.out n h1 h2, HR.out])
                clear HFR
                cases x <;> cases y <;> cases both <;> cases left <;> first | (exfalso; revert hr; simp [pickB]; done) | skip
                all_goals
                  clear hr
                  go_wp2_with fail
                  go_roundw
                  case rel => exact ⟨t + 1, out, rfl, by omega, by omega, HO3.out, HB3.out, HX.out⟩
                  case measure => simp [intOf]; omega
    · have hlt' : ¬ fr ≤ 65535 := hlt
      have he := hP.out.set (by omega) hf1
      have hno := refNorm_any u9 out wr hown.spns (by have := hP.out.2.2; omega) hP.out.1
      rw [he] at hno
      clear he hown
      go_wp2_with (go_at_call 7; go_must (refine hno.mono ?_; rintro e w5 ⟨v5, rfl, own5, b5⟩))
      go_ret
      exact ⟨_, rfl, own5.base hbw.size, hbw.trans (b5.mono hbw.size)⟩
end Go.Proofs.YtplpdaojoilnaaaDoor
