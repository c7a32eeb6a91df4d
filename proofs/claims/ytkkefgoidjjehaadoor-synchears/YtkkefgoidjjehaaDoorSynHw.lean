/- SyncHears: the law's walk. -/
import Derived.Test.YtkkefgoidjjehaaDoorSynH8
import Derived.Test.YtkkefgoidjjehaaDoorSynH9
namespace Go.Proofs.YtkkefgoidjjehaaDoor
open Go.RowKit Go.Maps
set_option linter.unusedVariables false

def nuA (j : Nat) : Nt := { what := if j = 2 then 4 else 5, seq := (j : Int), fl := zeroF }
theorem nuA2 : ntV (nuA 2) = .agg #[.int .i64 4, .int .i64 2, .int .i64 0, .int .i64 0, .int .i64 0, .int .i64 0, .int .i64 0, .int .i64 0, .int .i64 0, .int .i64 0, .int .i64 0, .int .i64 0, .int .i64 0, .int .i64 0, .bool false, .bool false, .int .i64 0] := rfl
theorem nuA1 : ntV (nuA 1) = .agg #[.int .i64 5, .int .i64 1, .int .i64 0, .int .i64 0, .int .i64 0, .int .i64 0, .int .i64 0, .int .i64 0, .int .i64 0, .int .i64 0, .int .i64 0, .int .i64 0, .int .i64 0, .int .i64 0, .bool false, .bool false, .int .i64 0] := rfl
theorem heA1 : hearS 0 [] 2 = (0, [2]) := by decide
theorem heA2 : hearS 0 [2] 1 = (2, []) := by decide
theorem nuE2 : ntE (nuA 2) = 0 := by decide
theorem nuE1 : ntE (nuA 1) = 0 := by decide
set_option maxRecDepth 100000 in
set_option maxHeartbeats 32000000 in
theorem hears_any (n : Int) (v : Value) (l : List (List Int × Value)) (w : World) (hv : Rowz w v l) (hl : l.length ≤ 140737488355328) (hL : Lives w) :
    Calls Tryd.prog 4 #[.int .i64 n, v] w fun e w' => e = .returned (.bool true) ∧ Below w.heap.size w w' := by
  have HLV : Hid (∀ W, Below w.heap.size w W → Lives W) := fun W bW => hL.below bW
  obtain ⟨av, cv, rfl⟩ := hv.len
  have HV := hidO hv
  have q0 := heNew_any nuA w
  clear hv hL
  go_enter Tryd.func4, Tryd.ntmps4
  go_upto_region 2 with (go_at_call 8; go_must ((with_reducible refine q0.mono ?_); rintro e W1 ⟨b, m, rfl, hb, hm, k1, b1⟩))
  have HB1 := hidO b1
  have q1 := heHear_any nuA (fun _ => rfl) b m 0 [] 2 W1 k1 (by omega) (by simp) (by omega) (by omega) nuE2 (HLV.out W1 b1)
  rw [nuA2, heA1] at q1
  have q1 : Calls Tryd.prog 9 #[.pointer (some ⟨b, 0, none⟩), .agg #[.int .i64 4, .int .i64 2, .int .i64 0, .int .i64 0, .int .i64 0, .int .i64 0, .int .i64 0, .int .i64 0, .int .i64 0, .int .i64 0, .int .i64 0, .int .i64 0, .int .i64 0, .int .i64 0, .bool false, .bool false, .int .i64 0]] W1 fun e w' => ∃ v c, e = .returned (.tuple #[.slice v 0 c, .nilIface]) ∧ Hid (HeAt nuA w' b m 0 [2]) ∧ Hid (Turn (Two b m) W1 w') := q1.mono fun e w' ⟨v, k, h1, h2, h3, h4, h5⟩ => by
    obtain rfl : k = 0 := by simp at h2; omega
    obtain ⟨a, c, rfl⟩ := OwnN.len h3
    rw [outN_len] at h1
    exact ⟨a, c, h1, h4, h5⟩
  clear q0 b1 k1
  go_upto_region 3 with (go_at_call 9; go_must ((with_reducible refine q1.mono ?_); rintro e W2 ⟨a2, c2, rfl, h2, t2⟩))
  have HB2 := hidO (t2.out.below HB1.out HB1.out.size (fun i hi => by rcases hi with rfl | rfl; exact hb; exact hm))
  have q2 := heHear_any nuA (fun _ => rfl) b m 0 [2] 1 W2 h2.out (by omega) (by simp) (by omega) (by omega) nuE1 (HLV.out W2 HB2.out)
  rw [nuA1, heA2] at q2
  have q2 : Calls Tryd.prog 9 #[.pointer (some ⟨b, 0, none⟩), .agg #[.int .i64 5, .int .i64 1, .int .i64 0, .int .i64 0, .int .i64 0, .int .i64 0, .int .i64 0, .int .i64 0, .int .i64 0, .int .i64 0, .int .i64 0, .int .i64 0, .int .i64 0, .int .i64 0, .bool false, .bool false, .int .i64 0]] W2 fun e w' => ∃ g c, e = .returned (.tuple #[.slice (some ⟨g, 0, none⟩) 2 c, .nilIface]) ∧ 2 ≤ c ∧ c ≤ maxLen ∧ w'.cell? ⟨g, 0, none⟩ = some (.int .i64 5) ∧ Hid (HeAt nuA w' b m 2 []) ∧ Hid (Turn (Two b m) W2 w') := q2.mono fun e w' ⟨v, k, h1, h2, h3, h4, h5⟩ => by
    obtain rfl : k = 2 := by simp at h2; omega
    obtain ⟨g, c, rfl, _, _, hca, hcm⟩ := OwnN.shape h3 (by rw [outN_len]; omega)
    have r0 := (own_nt h3 0 (by rw [outN_len]; omega) (nuA 1) rfl).1
    rw [show (nuA 1).what = 5 from rfl, Nat.zero_mul] at r0
    rw [outN_len] at hca h1
    exact ⟨g, c, h1, hca, hcm, r0, h4, h5⟩
  clear q1 h2 t2 HB1
  go_upto_region 4 with (go_at_call 9; go_must ((with_reducible refine q2.mono ?_); rintro e W3 ⟨g, c3, rfl, hca, hcm, r0, h3, t3⟩))
  have HB3 := hidO (t3.out.below HB2.out HB2.out.size (fun i hi => by rcases hi with rfl | rfl; exact hb; exact hm))
  have q3 := heSeq_any nuA b m 2 [] W3 h3.out
  rw [show (((2 : Nat)) : Int) = 2 from rfl] at q3
  clear q2 h3 t3 HB2
  go_upto_region 6 with (go_at_call 10; go_must ((with_reducible refine q3.mono ?_); rintro e W4 ⟨rfl, hW4⟩; rw [hW4]; clear hW4 W4))
  clear q3 r0 hca hcm hb hm
  by_cases hn : 0 ≤ n ∧ n ≤ 30
  · obtain ⟨N, rfl⟩ : ∃ N : Nat, n = (N : Int) := ⟨n.toNat, by omega⟩
    have i1 : ¬ (N : Int) < 0 := by omega
    have i2 : ¬ 30 < (N : Int) := by omega
    have hN : N ≤ 30 := by omega
    have q4 := tlNew_any (fun _ => 0) W3
    clear hn
    go_upto_region 9 with (go_at_call 11; go_must ((with_reducible refine q4.mono ?_); rintro e W5 ⟨rfl, k5, b5, s5⟩))
    have HB5 := hidO (HB3.out.trans (b5.mono HB3.out.size))
    have HS5 := hidO s5
    have HK5 := hidO k5
    have q5 := heNew_any nK W5
    clear q4 k5 b5 s5
    go_upto_region 10 with (go_at_call 8; go_must ((with_reducible refine q5.mono ?_); rintro e W6 ⟨bh, mh, rfl, hb6, hm6, k6, b6⟩))
    have s5 := HS5.out
    have s3 := HB3.out.size
    have HO0 : Hid (HrO w (W3.heap.size + 1) W3.heap.size bh mh) := ⟨by omega, by omega, by omega, by omega, by omega, by omega, by omega, by omega⟩
    have HS60 : Hid (HrS w 0 0 0 (fun _ => 0) 0 [] (W3.heap.size + 1) W3.heap.size bh mh W6) := ⟨HK5.out.below b6, k6, HB5.out.trans (b6.mono HB5.out.size)⟩
    obtain ⟨mt, hmt⟩ : ∃ mt, W3.heap.size = mt := ⟨_, rfl⟩
    obtain ⟨bt, hbt⟩ : ∃ bt, mt + 1 = bt := ⟨_, rfl⟩
    have HO : Hid (HrO w bt mt bh mh) := by have k := HO0.out; rw [hmt, hbt] at k; exact k
    have HS6 : Hid (HrS w 0 0 0 (fun _ => 0) 0 [] bt mt bh mh W6) := by have k := HS60.out; rw [hmt, hbt] at k; exact k
    simp only [hmt, hbt]
    clear q5 s5 s3 HO0 HS60 hmt hbt hb6 hm6 k6 b6 HK5 HS5 HB5 HB3
    go_upto_block 0 with fail
    refine hr_tellL w W6 N bt mt bh mh _ _ _ (by kernel_rfl) HO HS6 HLV (by omega) _ _ _ _ _ _ _ _ _ _ _ _ _ _ _ _ _ _ _ _ _ _ _ _ _ _ _ _ _ _ _ _ _ _ _ _ _ _ _ _ _ _ _ _ _ _ _ _ _ _ _ _ _ _ _ _ _ _ _ _ _ _ _ _ _ _ _ _ _ _ _ _ _ _ _ _ _ _ _ _ _ _ _ _ _ _ _ _ _ _ _ _ _ _ _ _ _ _ _ _ _ _ _ _ _ _ _ _ _ _ _ _ _ _ _ _ _ _ _ _ _ _ _ _ _ _ _ _ _ _ _ _ _ _ _ _ _ _ _ _ _ _ _ _ _ _ _ _ _ _ _ _ _ _ _ _ _ _ _ _ _ _ _ _ _ _ _ _ _ _ _ _ _ _ _ _ _ _ _ _ _ _ _ _ _ _ _ _ _ _ _ _ _ _ _ _ _ _ _ _ _ _ _ _ _ _ _ _ _ _ _ _ _ _ _ _ _ _ _ _ _ _ _ _ _ _ _ _ _ _ _ _ _ _ _ _ _ _ _ _ _ _ _ _ _ _ _ _ _ _ _ _ _ _ _ _ _ ?_
    intro W7 u4' u13' u14' u15' u16' u87' u88' u89' u90' u91' u92' u93' u94' u95' u96' u97' u98' u99' u100' u101' u102' u103' u104' u105' u106' u107' u108' u109' h9
    have HS7 := hidO h9
    clear h9 HS6
    conv =>
      arg 1
      zeta
    try go_step
    have HNE : Hid (l.length = l.length) := rfl
    go_upto_block 2 with fail
    refine hr_loop2 w W7 N l.length cv av l bt mt bh mh _ _ _ (by kernel_rfl) HO HS7 HLV HV HNE (by omega) _ _ _ _ _ _ _ _ _ _ _ _ _ _ _ _ _ _ _ _ _ _ _ _ _ _ _ _ _ _ _ _ _ _ _ _ _ _ _ _ _ _ _ _ _ _ _ _ _ _ _ _ _ _ _ _ _ _ _ _ _ _ _ _ _ _ _ _ _ _ _ _ _ _ _ _ _ _ _ _ _ _ _ _ _ _ _ _ _ _ _ _ _ _ _ _ _ _ _ _ _ _ _ _ _ _ _ _ _ _ _ _ _ _ _ _ _ _ _ _ _ _ _ _ _ _ _ _ _ _ _ _ _ _ _ _ _ _ _ _ _ _ _ _ _ _ _ _ _ _ _ _ _ _ _ _ _ _ _ _ _ _ _ _ _ _ _ _ _ _ _ _ _ _ _ _ _ _ _ _ _ _ _ _ _ _ _ _ _ _ _ _ _ _ _ _ _ _ _ _ _ _ _ _ _ _ _ _ _ _ _ _ _ _ _ _ _ _ _ _ _ _ _ _ _ _ _ _ _ _ _ _ _ _ _ _ _ _ _ _ _ _ _ _ _ _ _ _ _ _ _ _ _ _ ?_
    intro s9 h9 t9 ds9 Wt9 W8 u4' u18' u19' u20' u21' u22' u23' u24' u25' u26' u110' u111' u112' u113' u114' u115' u116' u117' u118' u119' u120' u121' u122' u123' u124' u125' u126' u127' u128' u129' u130' u131' u132' u133' u134' u135' u136' u137' u138' u139' u140' u141' u142' u143' u144' u145' u146' u147' u148' u149' u150' u151' u152' u153' u154' u155' u156' u157' u158' u159' u160' u161' u162' u163' u164' u165' u166' u167' u168' u169' u170' u171' u172' u173' u174' u175' u176' u177' u178' u179' u180' u181' u182' u183' u184' u185' u186' u187' u188' u189' u190' u191' u192' u193' u194' u195' u196' u197' u198' u199' u200' u201' u202' u203' u204' u205' u206' g1 g2 g3 g4 g5 g6
    have HS8 := hidO g6
    have G1 := hidO g1
    have G5 := hidO g5
    clear g1 g5 g6 HS7 HNE HV
    conv =>
      arg 1
      zeta
    try go_step
    go_upto_block 8 with fail
    refine hr_loop8 w W8 N s9 h9 t9 ds9 Wt9 bt mt bh mh _ _ _ (by kernel_rfl) HO HS8 HLV (by omega) G1 g2 g3 g4 G5 _ _ _ _ _ _ _ _ _ _ _ _ _ _ _ _ _ _ _ _ _ _ _ _ _ _ _ _ _ _ _ _ _ _ _ _ _ _ _ _ _ _ _ _ _ _ _ _ _ _ _ _ _ _ _ _ _ _ _ _ _ _ _ _ _ _ _ _ _ _ _ _ _ _ _ _ _ _ _ _ _ _ _ _ _ _ _ _ _ _ _ _ _ _ _ _ _ _ _ _ _ _ _ _ _ _ _ _ _ _ _ _ _ _ _ _ _ _ _ _ _ _ _ _ _ _ _ _ _ _ _ _ _ _ _ _ _ _ _ _ _ _ _ _ _ _ _ _ _ _ _ _ _ _ _ _ _ _ _ _ _ _ _ _ _ _ _ _ _ _ _ _ _ _ _ _ _ _ _ _ _ _ _ _ _ _ _ _ _ _ _ _ _ _ _ _ _ _ _ _ _ _ _ _ _ _ _ _ _ _ _ _ _ _ _ _ _ _ _ _ _ _ _ _ _ _ _ _ _ _ _ _ _ _ _ _ _ _ _ _ _ _ _ _ _ _ _ _ _ _ _ _ _ _ _ _ ?_
    intro t8 ds8 Wt8 W9 u4' u27' u28' u29' u30' u31' u32' u207' u208' u209' u210' u211' u212' u213' u214' u215' u216' u217' u218' u219' u220' u221' u222' u223' u224' u225' u226' u227' u228' u229' u230' u231' u232' u233' u234' u235' u236' u237' u238' u239' u240' u241' u242' u243' u244' u245' g6
    have HS9 := hidO g6
    clear g6 HS8 G1 G5 g2 g3 g4
    conv =>
      arg 1
      zeta
    try go_step
    have q8 := heSeq_any nK bh mh N Wt8 W9 HS9.out.he
    have q9 := tlLeft_any bt mt t8 N N ds8 W9 HS9.out.tl (Nat.le_refl _)
    rw [show (N : Int) - (N : Int) = 0 by omega] at q9
    go_wp2_with (first
      | (go_at_call 10; go_must ((with_reducible refine q8.mono ?_); rintro e W10 ⟨rfl, hW10⟩; rw [hW10]; clear hW10 W10))
      | (go_at_call 16; go_must ((with_reducible refine q9.mono ?_); rintro e W10 ⟨rfl, hW10⟩; rw [hW10]; clear hW10 W10)))
    go_ret
    exact ⟨rfl, HS9.out.bel⟩
  · rcases (by omega : n < 0 ∨ (¬ n < 0 ∧ 30 < n)) with h1 | ⟨h1, h2⟩
    all_goals
      clear hn HV
      go_wp2_with fail
      go_ret
      exact ⟨rfl, HB3.out⟩
theorem hears_walk (n : Int) (v : Value) (l : List (List Int × Value)) (w : World) {p : Prop} (_ : p) (hv : Rowz w v l) (hl : l.length ≤ 140737488355328) (hL : Lives w) :
    Calls Tryd.prog 4 #[.int .i64 n, v] w fun e w' => e = .returned (.bool true) ∧ Below w.heap.size w w' := hears_any n v l w hv hl hL
end Go.Proofs.YtkkefgoidjjehaaDoor
