/- ElectPlays: the law's walk. -/
import Derived.Test.YtempphlbgeogiaaDoorElPlX
namespace Go.Proofs.YtempphlbgeogiaaDoor
open Go.RowKit
set_option linter.unusedVariables false

theorem newA_both (lease : Int) (w : World) : ∃ pa, Hid (decide (lease < 1 ∨ 1000000 < lease) = false → pa = .pointer (some ⟨w.heap.size, 0, none⟩)) ∧ Calls Tryd.prog 5 #[.int .i64 lease] w fun e w' => e = .returned (.tuple #[pa, elV (if decide (lease < 1 ∨ 1000000 < lease) = true then 1 else 0)]) ∧ Below w.heap.size w w' ∧ (decide (lease < 1 ∨ 1000000 < lease) = false → ArAt w' w.heap.size { now := 0, lease := lease, own := 0, unt := 0 }) := by
  by_cases h : lease < 1 ∨ 1000000 < lease
  · refine ⟨.pointer none, fun e => (by rw [decide_eq_true h] at e; cases e), (newA_not lease w h).mono ?_⟩
    rintro e w' ⟨rfl, h1⟩
    rw [decide_eq_true h]
    exact ⟨rfl, h1, fun e => by cases e⟩
  · refine ⟨_, fun _ => rfl, (newA_fit lease w (by omega) (by omega)).mono ?_⟩
    rintro e w' ⟨rfl, h1, h2, _⟩
    rw [decide_eq_false h]
    exact ⟨rfl, h2, fun _ => h1⟩
theorem newV_both (node prio drift : Int) (w : World) : ∃ pa, Hid (nvB node prio drift = true → pa = .pointer (some ⟨w.heap.size, 0, none⟩)) ∧ Calls Tryd.prog 7 #[.int .i64 node, .int .i64 prio, .int .i64 drift] w fun e w' => e = .returned (.tuple #[pa, elV (if nvB node prio drift = true then 0 else 1)]) ∧ Below w.heap.size w w' ∧ (nvB node prio drift = true → VtAt w' w.heap.size { now := 0, node := node, prio := prio, drift := drift, unt := 0, oth := 0, cnt := 0 } ∧ w.heap.size < w'.heap.size) := by
  cases h : nvB node prio drift
  · refine ⟨.pointer none, fun e => (by cases e), (newV_not node prio drift w h).mono ?_⟩
    rintro e w' ⟨rfl, h1⟩
    exact ⟨rfl, h1, fun e => by cases e⟩
  · refine ⟨_, fun _ => rfl, (newV_fit node prio drift w h).mono ?_⟩
    rintro e w' ⟨rfl, h1, h2, h3⟩
    exact ⟨rfl, h2, fun _ => ⟨h1, by omega⟩⟩
set_option maxRecDepth 100000 in
set_option maxHeartbeats 32000000 in
theorem eplays_good (lease node prio drift : Int) (v : Value) (l : List (List Int × Value)) (w : World) (hv : Rowz w v l) (hl : l.length ≤ 140737488355328) (hE : ErrLaid w) (hlease : ¬ (lease < 1 ∨ 1000000 < lease)) (hD2 : nvB node prio drift = true) :
    Calls Tryd.prog 3 #[.int .i64 lease, .int .i64 node, .int .i64 prio, .int .i64 drift, v] w fun e w' => e = .returned (.bool true) ∧ Below w.heap.size w w' := by
  have HEL : Hid (∀ W, Below w.heap.size w W → ErrLaid W) := fun W bW => hE.below bW
  have HER : Hid (∀ W, Below w.heap.size w W → Calls Tryd.prog 6 #[.nilIface, .int .i64 0] W fun e w' => e = .returned (.bool true) ∧ Below W.heap.size W w') := fun W bW => by
    have := el_same 0 W (HEL.out W bW)
    rw [show elV 0 = .nilIface from rfl] at this
    exact this
  obtain ⟨av, cv, rfl⟩ := hv.len
  have HV := hidO hv
  have HD2 := hidO hD2
  have l1 : ¬ lease < 1 := by omega
  have l2 : ¬ 1000000 < lease := by omega
  have n1 := newA_fit lease w l1 l2
  clear hv hE
  go_enter Tryd.func3, Tryd.ntmps3
  go_upto_region 3 with (go_at_call 5; go_must (refine n1.mono ?_; rintro e W1 ⟨rfl, k1, b1, s1⟩))
  have HB1 := hidO b1
  have HK1 := hidO k1
  have hw1 : Hid (w.heap.size < W1.heap.size) := by rw [s1]; exact Nat.lt_succ_self _
  have q1 := HER.out W1 b1
  clear b1 k1 n1 s1
  go_upto_region 6 with (go_at_call 6; go_must (refine q1.mono ?_; rintro e W2 ⟨rfl, b2⟩))
  have HB2 := hidO (HB1.out.trans (b2.mono HB1.out.size))
  have HK2 := hidO (HK1.out.below b2)
  have HW2 : Hid (w.heap.size < W2.heap.size) := Nat.lt_of_lt_of_le hw1.out b2.size
  have n2 := newV_fit node prio drift W2 hD2
  clear b2 q1 HK1 HB1 hw1
  go_upto_region 8 with (go_at_call 7; go_must (refine n2.mono ?_; rintro e W3 ⟨rfl, k3, b3, s3⟩))
  have HB3 := hidO (HB2.out.trans (b3.mono HB2.out.size))
  have HK3 := hidO (HK2.out.below b3)
  have HX3 := hidO k3
  have HS3 : Hid (W2.heap.size < W3.heap.size) := by rw [s3]; exact Nat.lt_succ_self _
  clear b3 k3 n2 HK2 s3
  go_cut [76] (fun v76 wx => v76 = .bool (!true) ∧ wx = W3)
  case first =>
    refine pl_reg8 W3 node prio drift true _ _ _ (by kernel_rfl) HD2 _ _ _ _ _ _ _ _ _ _ _ _ _ _ _ _ _ _ _ _ _ _ _ _ _ _ _ _ _ _ _ _ _ _ _ _ _ _ _ _ _ _ _ _ _ _ _ _ _ _ _ _ _ _ _ _ _ _ _ _ _ _ _ _ _ _ _ _ _ _ _ _ _ _ _ _ _ _ _ _ _ _ _ _ _ _ _ _ _ _ _ _ _ _ _ _ _ _ _ _ _ _ _ _ _ _ _ _ _ _ _ _ _ _ _ _ _ _ _ _ _ _ _ _ _ _ _ _ _ _ _ _ _ _ _ _ _ _ _ _ _ _ _ _ _ _ _ _ _ _ _ _ _ _ _ _ _ _ _ _ _ _ _ _ _ _ _ _ _ _ _ _ _ _ _ _ _ _ _ _ _ _ _ _ _ _ _ _ _ _ _ _ _ _ _ _ _ _ _ _ _ _ _ _ _ _ _ _ _ _ _ _ _ _ _ _ _ _ _ _ _ _ _ _ _ _ _ _ _ _ _ _ _ _ _ _ _ _ _ _ _ _ _ _ _ _ _ _ _ _ _ _ _ _ _ _ _ _ _ _ _ _ _ _ _ _ _ _ _ _ _ _ _ _ _ _ _ _ _ _ _ _ _ _ _ _ _ _ _ _ _ _ _ _ _ _ _ _ _ _ _ _ _ _ _ _ _ _ _ _ _ _ _ _ _ _ _ _ _ _ _ _ _ _ _ _ _ _ _ _ _ _ _ _ _ _ _ _ _ _ _ _ _ _ _ _ _ _ _ _ _ _ _ _ _ _ _ _ _ _ _ _ _ ?_
    intro W9 u55' u56' u57' u58' u59' u60' u61' u62' u63' u64' u65' u66' u67' u68' u69' u70' u71' u72' u73' u74' u75' h9
    subst h9
    conv =>
      arg 1
      zeta
    try go_step
    go_meet
    exact ⟨rfl, rfl⟩
  case rest =>
  obtain ⟨rfl, hwc⟩ := hcut
  subst hwc
  obtain ⟨W3, hW3⟩ : ∃ W3, W3 = wc := ⟨_, rfl⟩
  subst hW3
  have q2 := HER.out W3 HB3.out
  go_upto_region 11 with (go_at_call 6; go_must (refine q2.mono ?_; rintro e W4 ⟨rfl, b4⟩))
  have HB4 := hidO (HB3.out.trans (b4.mono HB3.out.size))
  have k4 := HK3.out.below b4
  have x4 := HX3.out.below b4
  have hx4 := HS3.out
  have hb4 := b4.size
  have hw2 := HW2.out
  clear q2 b4 HK3 HX3 HS3 HB3 HB2 HW2 HER HD2
  obtain ⟨hnd, ⟨hp1, hp2⟩, hd1, hd2⟩ := of_decide_eq_true hD2
  have hT0 : ElT w w.heap.size W2.heap.size W4.heap.size (W4.heap.size + 1) { now := 0, lease := lease, own := 0, unt := 0 } { now := 0, node := node, prio := prio, drift := drift, unt := 0, oth := 0, cnt := 0 } { lease := lease, now := 0, has := false, hol := 0, unt := 0 } { node := node, prio := prio, drift := drift, now := 0, unt := 0, heard := false, oth := 0, att := 0 } ((W4.alloc (.cells #[.int .i64 lease, .int .i64 0, .bool false, .int .i64 0, .int .i64 0] 34)).alloc (.cells #[.int .i64 node, .int .i64 prio, .int .i64 drift, .int .i64 0, .int .i64 0, .bool false, .int .i64 0, .int .i64 0] 37)) := by
    have bb : Below W4.heap.size W4 (W4.alloc (.cells #[.int .i64 lease, .int .i64 0, .bool false, .int .i64 0, .int .i64 0] 34)) := (Below.refl _ _).alloc (Nat.le_refl _) _
    have hsz : (W4.alloc (.cells #[.int .i64 lease, .int .i64 0, .bool false, .int .i64 0, .int .i64 0] 34)).heap.size = W4.heap.size + 1 := by simp
    have bb2 := (Below.refl (W4.alloc (.cells #[.int .i64 lease, .int .i64 0, .bool false, .int .i64 0, .int .i64 0] 34)).heap.size (W4.alloc (.cells #[.int .i64 lease, .int .i64 0, .bool false, .int .i64 0, .int .i64 0] 34))).alloc (Nat.le_refl _) (.cells #[.int .i64 node, .int .i64 prio, .int .i64 drift, .int .i64 0, .int .i64 0, .bool false, .int .i64 0, .int .i64 0] 37)
    refine ⟨(k4.below bb).below bb2, (x4.below bb).below bb2, ?_, ?_, (HB4.out.alloc HB4.out.size _).alloc (Nat.le_trans HB4.out.size (by simp)) _⟩
    · exact (bb2.block _ (by rw [hsz]; omega)).trans (heap_alloc_new W4 _)
    · have := heap_alloc_new (W4.alloc (.cells #[.int .i64 lease, .int .i64 0, .bool false, .int .i64 0, .int .i64 0] 34)) (.cells #[.int .i64 node, .int .i64 prio, .int .i64 drift, .int .i64 0, .int .i64 0, .bool false, .int .i64 0, .int .i64 0] 37)
      rw [hsz] at this
      exact this
  have hN0 : ElN { now := 0, lease := lease, own := 0, unt := 0 } { now := 0, node := node, prio := prio, drift := drift, unt := 0, oth := 0, cnt := 0 } { lease := lease, now := 0, has := false, hol := 0, unt := 0 } { node := node, prio := prio, drift := drift, now := 0, unt := 0, heard := false, oth := 0, att := 0 } :=
    ⟨⟨by simp; omega, by simp; omega, by simp, by simp⟩, ⟨by simp, by simp, hd1, hd2, hp1, hp2, by simp, by simp⟩, ⟨by simp, by simp, hd1, hd2, by simp, by simp⟩, ⟨rfl, rfl, (fun h => by cases h), fun _ => Int.le_refl _⟩, ⟨rfl, rfl, rfl, rfl, rfl, (fun h => by cases h), fun _ => Int.le_refl _⟩⟩
  have HS0 : Hid (ElS w w.heap.size W2.heap.size W4.heap.size (W4.heap.size + 1) _) := ⟨_, _, _, _, hT0, hN0⟩
  have HOO : Hid (ElO w w.heap.size W2.heap.size W4.heap.size (W4.heap.size + 1)) := ⟨Nat.le_refl _, hw2, by omega, by omega⟩
  clear k4 x4 hx4 hb4 hw2 hnd hp1 hp2 hd1 hd2 hlease hT0 hN0 hD2
  go_upto_region 15 with fail
  obtain ⟨A, hA⟩ : ∃ A, w.heap.size = A := ⟨_, rfl⟩
  obtain ⟨X, hX⟩ : ∃ X, W2.heap.size = X := ⟨_, rfl⟩
  obtain ⟨M, hM⟩ : ∃ M, W4.heap.size = M := ⟨_, rfl⟩
  obtain ⟨R, hR⟩ : ∃ R, M + 1 = R := ⟨_, rfl⟩
  obtain ⟨W8, hW8⟩ : ∃ W8, ((W4.alloc (.cells #[.int .i64 lease, .int .i64 0, .bool false, .int .i64 0, .int .i64 0] 34)).alloc (.cells #[.int .i64 node, .int .i64 prio, .int .i64 drift, .int .i64 0, .int .i64 0, .bool false, .int .i64 0, .int .i64 0] 37)) = W8 := ⟨_, rfl⟩
  rw [hW8] at HS0
  rw [hX, hM, hR] at HS0 HOO
  have HS0' : Hid (ElS w A X M R W8) := by rw [← hA]; exact HS0.out
  have HOO' : Hid (ElO w A X M R) := by rw [← hA]; exact HOO.out
  simp only [hW8, hA, hX, hM, hR]
  clear hW8 hX hM hR HS0 HOO
  have HS0 := HS0'
  have HOO := HOO'
  clear HS0' HOO'
  go_upto_block 0 with fail
  refine pl_loop w W8 A X M R cv av l _ _ _ (by kernel_rfl) HOO HS0 HEL HV hl _ _ _ _ _ _ _ _ _ _ _ _ _ _ _ _ _ _ _ _ _ _ _ _ _ _ _ _ _ _ _ _ _ _ _ _ _ _ _ _ _ _ _ _ _ _ _ _ _ _ _ _ _ _ _ _ _ _ _ _ _ _ _ _ _ _ _ _ _ _ _ _ _ _ _ _ _ _ _ _ _ _ _ _ _ _ _ _ _ _ _ _ _ _ _ _ _ _ _ _ _ _ _ _ _ _ _ _ _ _ _ _ _ _ _ _ _ _ _ _ _ _ _ _ _ _ _ _ _ _ _ _ _ _ _ _ _ _ _ _ _ _ _ _ _ _ _ _ _ _ _ _ _ _ _ _ _ _ _ _ _ _ _ _ _ _ _ _ _ _ _ _ _ _ _ _ _ _ _ _ _ _ _ _ _ _ _ _ _ _ _ _ _ _ _ _ _ _ _ _ _ _ _ _ _ _ _ _ _ _ _ _ _ _ _ _ _ _ _ _ _ _ _ _ _ _ _ _ _ _ _ _ _ _ _ _ _ _ _ _ _ _ _ _ _ _ _ _ _ _ _ _ _ _ _ _ _ _ _ _ _ _ _ _ _ _ _ _ _ _ _ _ _ _ _ _ _ _ _ _ _ _ _ _ _ _ _ _ _ _ _ _ _ _ _ _ _ _ _ _ _ _ _ _ _ _ _ _ _ _ _ _ _ _ _ _ _ _ _ _ _ _ _ _ _ _ _ _ _ _ _ _ _ _ _ _ _ _ _ _ _ _ _ _ _ _ _ _ _ _ _ _ _ _ _ _ _ _ _ _ ?_
  intro W9 u10' u13' u20' u21' u22' u23' u24' u25' u26' u27' u28' u29' u30' u31' u32' u33' u106' u107' u108' u109' u110' u111' u112' u113' u114' u115' u116' u117' u118' u119' u120' u121' u122' u123' u124' u125' u126' u127' u128' u129' u130' u131' u132' u133' u134' u135' u136' u137' u138' u139' u140' u141' u142' u143' u144' u145' u146' u147' u148' u149' u150' u151' u152' u153' u154' u155' u156' u157' u158' u159' u160' u161' u162' u163' u164' u165' u166' u167' u168' u169' u170' u171' u172' u173' u174' u175' u176' u177' u178' u179' u180' u181' u182' u183' u184' u185' u186' u187' u188' u189' u190' u191' u192' u193' u194' u195' u196' u197' u198' u199' u200' u201' u202' u203' u204' u205' u206' u207' u208' u209' u210' u211' u212' u213' u214' u215' u216' u217' u218' u219' u220' u221' u222' u223' u224' u225' u226' u227' u228' u229' u230' u231' u232' u233' u234' u235' u236' u237' u238' u239' u240' u241' u242' u243' u244' u245' u246' u247' u248' u249' u250' u251' u252' u253' u254' u255' u256' u257' u258' u259' u260' u261' u262' u263' u264' u265' u266' u267' u268' u269' u270' u271' u272' u273' u274' u275' u276' u277' u278' u279' u280' u281' u282' u283' u284' u285' u286' u287' u288' u289' u290' u291' u292' u293' u294' u295' u296' u297' u298' u299' u300' u301' u302' u303' u304' u305' u306' u307' u308' u309' u310' u311' u312' u313' u314' u315' u316' u317' u318' u319' u320' u321' u322' u323' u324' u325' u326' u327' u328' u329' u330' u331' u332' u333' u334' u335' u336' u337' u338' u339' u340' u341' u342' u343' u344' u345' u346' u347' u348' u349' u350' u351' u352' u353' u354' u355' u356' u357' u358' u359' u360' u361' u362' u363' u364' u365' h9
  have HB := hidO h9
  clear h9 HS0 HV HOO
  conv =>
    arg 1
    zeta
  try go_step
  go_wp2_with fail
  go_ret
  exact ⟨rfl, HB.out⟩
theorem eplays_any (lease node prio drift : Int) (v : Value) (l : List (List Int × Value)) (w : World) (hv : Rowz w v l) (hl : l.length ≤ 140737488355328) (hE : ErrLaid w) :
    Calls Tryd.prog 3 #[.int .i64 lease, .int .i64 node, .int .i64 prio, .int .i64 drift, v] w fun e w' => e = .returned (.bool true) ∧ Below w.heap.size w w' := by
  by_cases h1 : lease < 1
  · cases h : nvB node prio drift
    · exact eplays_ltfalse lease node prio drift v w hE h1 h
    · exact eplays_lttrue lease node prio drift v w hE h1 h
  · by_cases h2 : 1000000 < lease
    · cases h : nvB node prio drift
      · exact eplays_gtfalse lease node prio drift v w hE h1 h2 h
      · exact eplays_gttrue lease node prio drift v w hE h1 h2 h
    · cases h : nvB node prio drift
      · exact eplays_okfalse lease node prio drift v w hE h1 h2 h
      · exact eplays_good lease node prio drift v l w hv hl hE (by omega) h
theorem eplays_walk (lease node prio drift : Int) (v : Value) (l : List (List Int × Value)) (w : World) {p q r s : Prop} (_ : p) (_ : q) (_ : r) (_ : s) (hv : Rowz w v l) (hl : l.length ≤ 140737488355328) (hE : ErrLaid w) :
    Calls Tryd.prog 3 #[.int .i64 lease, .int .i64 node, .int .i64 prio, .int .i64 drift, v] w fun e w' => e = .returned (.bool true) ∧ Below w.heap.size w w' := eplays_any lease node prio drift v l w hv hl hE
end Go.Proofs.YtempphlbgeogiaaDoor
