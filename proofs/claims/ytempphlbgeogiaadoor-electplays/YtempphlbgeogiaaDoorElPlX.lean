/- ElectPlays: where a number is wrong ahead of all. -/
import Derived.Test.YtempphlbgeogiaaDoorElPlQ
namespace Go.Proofs.YtempphlbgeogiaaDoor
open Go.RowKit
set_option linter.unusedVariables false

set_option maxRecDepth 100000 in
set_option maxHeartbeats 32000000 in
theorem eplays_ltfalse (lease node prio drift : Int) (v : Value) (w : World) (hE : ErrLaid w) (l1 : lease < 1) (hD2 : nvB node prio drift = false) :
    Calls Tryd.prog 3 #[.int .i64 lease, .int .i64 node, .int .i64 prio, .int .i64 drift, v] w fun e w' => e = .returned (.bool true) ∧ Below w.heap.size w w' := by
  have HEL : Hid (∀ W, Below w.heap.size w W → ErrLaid W) := fun W bW => hE.below bW
  have HER1 : Hid (∀ W, Below w.heap.size w W → Calls Tryd.prog 6 #[.iface 55 (.int .i64 1), .int .i64 1] W fun e w' => e = .returned (.bool true) ∧ Below W.heap.size W w') := fun W bW => by
    have := el_same 1 W (HEL.out W bW)
    rw [show elV 1 = .iface 55 (.int .i64 1) from rfl] at this
    exact this
  have HER2 : Hid (∀ W, Below w.heap.size w W → Calls Tryd.prog 6 #[.iface 55 (.int .i64 1), .int .i64 1] W fun e w' => e = .returned (.bool true) ∧ Below W.heap.size W w') := fun W bW => by
    have := el_same 1 W (HEL.out W bW)
    rw [show elV 1 = .iface 55 (.int .i64 1) from rfl] at this
    exact this
  have HD2 := hidO hD2
  have n1 := newA_not lease w (by omega)
  clear hE
  go_enter Tryd.func3, Tryd.ntmps3
  go_upto_region 3 with (go_at_call 5; go_must (refine n1.mono ?_; rintro e W1 ⟨rfl, b1⟩))
  have HB1 := hidO b1
  have q1 := HER1.out W1 b1
  clear b1 n1
  go_upto_region 6 with (go_at_call 6; go_must (refine q1.mono ?_; rintro e W2 ⟨rfl, b2⟩))
  have HB2 := hidO (HB1.out.trans (b2.mono HB1.out.size))
  have n2 := newV_not node prio drift W2 hD2
  clear b2 q1 HB1
  go_upto_region 8 with (go_at_call 7; go_must (refine n2.mono ?_; rintro e W3 ⟨rfl, b3⟩))
  have HB3 := hidO (HB2.out.trans (b3.mono HB2.out.size))
  clear b3 n2
  go_cut [76] (fun v76 wx => v76 = .bool (!false) ∧ wx = W3)
  case first =>
    refine pl_reg8 W3 node prio drift false _ _ _ (by kernel_rfl) HD2 _ _ _ _ _ _ _ _ _ _ _ _ _ _ _ _ _ _ _ _ _ _ _ _ _ _ _ _ _ _ _ _ _ _ _ _ _ _ _ _ _ _ _ _ _ _ _ _ _ _ _ _ _ _ _ _ _ _ _ _ _ _ _ _ _ _ _ _ _ _ _ _ _ _ _ _ _ _ _ _ _ _ _ _ _ _ _ _ _ _ _ _ _ _ _ _ _ _ _ _ _ _ _ _ _ _ _ _ _ _ _ _ _ _ _ _ _ _ _ _ _ _ _ _ _ _ _ _ _ _ _ _ _ _ _ _ _ _ _ _ _ _ _ _ _ _ _ _ _ _ _ _ _ _ _ _ _ _ _ _ _ _ _ _ _ _ _ _ _ _ _ _ _ _ _ _ _ _ _ _ _ _ _ _ _ _ _ _ _ _ _ _ _ _ _ _ _ _ _ _ _ _ _ _ _ _ _ _ _ _ _ _ _ _ _ _ _ _ _ _ _ _ _ _ _ _ _ _ _ _ _ _ _ _ _ _ _ _ _ _ _ _ _ _ _ _ _ _ _ _ _ _ _ _ _ _ _ _ _ _ _ _ _ _ _ _ _ _ _ _ _ _ _ _ _ _ _ _ _ _ _ _ _ _ _ _ _ _ _ _ _ _ _ _ _ _ _ _ _ _ _ _ _ _ _ _ _ _ _ _ _ _ _ _ _ _ _ _ _ _ _ _ _ _ _ _ _ _ _ _ _ _ _ _ _ _ _ _ _ _ _ _ _ _ _ _ _ _ _ _ _ _ _ _ _ _ _ _ _ _ _ _ _ ?_
    intro W9 u55' u56' u57' u58' u59' u60' u61' u62' u63' u64' u65' u66' u67' u68' u69' u70' u71' u72' u73' u74' u75' h9
    subst h9
    conv =>
      arg 1
      zeta
    try go_step
    go_meet
    exact ⟨rfl, rfl⟩
  case rest =>
  obtain ⟨rfl, hwc⟩ := hcut
  subst hwc
  obtain ⟨W3, hW3⟩ : ∃ W3, W3 = wc := ⟨_, rfl⟩
  subst hW3
  have q2 := HER2.out W3 HB3.out
  go_wp2_with (go_at_call 6; go_must (refine q2.mono ?_; rintro e W4 ⟨rfl, b4⟩; have HB4 := hidO (HB3.out.trans (b4.mono HB3.out.size)); clear b4))
  go_ret
  exact ⟨rfl, HB4.out⟩
set_option maxRecDepth 100000 in
set_option maxHeartbeats 32000000 in
theorem eplays_lttrue (lease node prio drift : Int) (v : Value) (w : World) (hE : ErrLaid w) (l1 : lease < 1) (hD2 : nvB node prio drift = true) :
    Calls Tryd.prog 3 #[.int .i64 lease, .int .i64 node, .int .i64 prio, .int .i64 drift, v] w fun e w' => e = .returned (.bool true) ∧ Below w.heap.size w w' := by
  have HEL : Hid (∀ W, Below w.heap.size w W → ErrLaid W) := fun W bW => hE.below bW
  have HER1 : Hid (∀ W, Below w.heap.size w W → Calls Tryd.prog 6 #[.iface 55 (.int .i64 1), .int .i64 1] W fun e w' => e = .returned (.bool true) ∧ Below W.heap.size W w') := fun W bW => by
    have := el_same 1 W (HEL.out W bW)
    rw [show elV 1 = .iface 55 (.int .i64 1) from rfl] at this
    exact this
  have HER2 : Hid (∀ W, Below w.heap.size w W → Calls Tryd.prog 6 #[.nilIface, .int .i64 0] W fun e w' => e = .returned (.bool true) ∧ Below W.heap.size W w') := fun W bW => by
    have := el_same 0 W (HEL.out W bW)
    rw [show elV 0 = .nilIface from rfl] at this
    exact this
  have HD2 := hidO hD2
  have n1 := newA_not lease w (by omega)
  clear hE
  go_enter Tryd.func3, Tryd.ntmps3
  go_upto_region 3 with (go_at_call 5; go_must (refine n1.mono ?_; rintro e W1 ⟨rfl, b1⟩))
  have HB1 := hidO b1
  have q1 := HER1.out W1 b1
  clear b1 n1
  go_upto_region 6 with (go_at_call 6; go_must (refine q1.mono ?_; rintro e W2 ⟨rfl, b2⟩))
  have HB2 := hidO (HB1.out.trans (b2.mono HB1.out.size))
  have n2 := (newV_fit node prio drift W2 hD2).mono (fun e w2 h => (⟨h.1, h.2.2.1⟩ : e = _ ∧ Below W2.heap.size W2 w2))
  clear b2 q1 HB1
  go_upto_region 8 with (go_at_call 7; go_must (refine n2.mono ?_; rintro e W3 ⟨rfl, b3⟩))
  have HB3 := hidO (HB2.out.trans (b3.mono HB2.out.size))
  clear b3 n2
  go_cut [76] (fun v76 wx => v76 = .bool (!true) ∧ wx = W3)
  case first =>
    refine pl_reg8 W3 node prio drift true _ _ _ (by kernel_rfl) HD2 _ _ _ _ _ _ _ _ _ _ _ _ _ _ _ _ _ _ _ _ _ _ _ _ _ _ _ _ _ _ _ _ _ _ _ _ _ _ _ _ _ _ _ _ _ _ _ _ _ _ _ _ _ _ _ _ _ _ _ _ _ _ _ _ _ _ _ _ _ _ _ _ _ _ _ _ _ _ _ _ _ _ _ _ _ _ _ _ _ _ _ _ _ _ _ _ _ _ _ _ _ _ _ _ _ _ _ _ _ _ _ _ _ _ _ _ _ _ _ _ _ _ _ _ _ _ _ _ _ _ _ _ _ _ _ _ _ _ _ _ _ _ _ _ _ _ _ _ _ _ _ _ _ _ _ _ _ _ _ _ _ _ _ _ _ _ _ _ _ _ _ _ _ _ _ _ _ _ _ _ _ _ _ _ _ _ _ _ _ _ _ _ _ _ _ _ _ _ _ _ _ _ _ _ _ _ _ _ _ _ _ _ _ _ _ _ _ _ _ _ _ _ _ _ _ _ _ _ _ _ _ _ _ _ _ _ _ _ _ _ _ _ _ _ _ _ _ _ _ _ _ _ _ _ _ _ _ _ _ _ _ _ _ _ _ _ _ _ _ _ _ _ _ _ _ _ _ _ _ _ _ _ _ _ _ _ _ _ _ _ _ _ _ _ _ _ _ _ _ _ _ _ _ _ _ _ _ _ _ _ _ _ _ _ _ _ _ _ _ _ _ _ _ _ _ _ _ _ _ _ _ _ _ _ _ _ _ _ _ _ _ _ _ _ _ _ _ _ _ _ _ _ _ _ _ _ _ _ _ _ _ _ _ ?_
    intro W9 u55' u56' u57' u58' u59' u60' u61' u62' u63' u64' u65' u66' u67' u68' u69' u70' u71' u72' u73' u74' u75' h9
    subst h9
    conv =>
      arg 1
      zeta
    try go_step
    go_meet
    exact ⟨rfl, rfl⟩
  case rest =>
  obtain ⟨rfl, hwc⟩ := hcut
  subst hwc
  obtain ⟨W3, hW3⟩ : ∃ W3, W3 = wc := ⟨_, rfl⟩
  subst hW3
  have q2 := HER2.out W3 HB3.out
  go_wp2_with (go_at_call 6; go_must (refine q2.mono ?_; rintro e W4 ⟨rfl, b4⟩; have HB4 := hidO (HB3.out.trans (b4.mono HB3.out.size)); clear b4))
  go_ret
  exact ⟨rfl, HB4.out⟩
set_option maxRecDepth 100000 in
set_option maxHeartbeats 32000000 in
theorem eplays_gtfalse (lease node prio drift : Int) (v : Value) (w : World) (hE : ErrLaid w) (l1 : ¬ lease < 1) (l2 : 1000000 < lease) (hD2 : nvB node prio drift = false) :
    Calls Tryd.prog 3 #[.int .i64 lease, .int .i64 node, .int .i64 prio, .int .i64 drift, v] w fun e w' => e = .returned (.bool true) ∧ Below w.heap.size w w' := by
  have HEL : Hid (∀ W, Below w.heap.size w W → ErrLaid W) := fun W bW => hE.below bW
  have HER1 : Hid (∀ W, Below w.heap.size w W → Calls Tryd.prog 6 #[.iface 55 (.int .i64 1), .int .i64 1] W fun e w' => e = .returned (.bool true) ∧ Below W.heap.size W w') := fun W bW => by
    have := el_same 1 W (HEL.out W bW)
    rw [show elV 1 = .iface 55 (.int .i64 1) from rfl] at this
    exact this
  have HER2 : Hid (∀ W, Below w.heap.size w W → Calls Tryd.prog 6 #[.iface 55 (.int .i64 1), .int .i64 1] W fun e w' => e = .returned (.bool true) ∧ Below W.heap.size W w') := fun W bW => by
    have := el_same 1 W (HEL.out W bW)
    rw [show elV 1 = .iface 55 (.int .i64 1) from rfl] at this
    exact this
  have HD2 := hidO hD2
  have n1 := newA_not lease w (by omega)
  clear hE
  go_enter Tryd.func3, Tryd.ntmps3
  go_upto_region 3 with (go_at_call 5; go_must (refine n1.mono ?_; rintro e W1 ⟨rfl, b1⟩))
  have HB1 := hidO b1
  have q1 := HER1.out W1 b1
  clear b1 n1
  go_upto_region 6 with (go_at_call 6; go_must (refine q1.mono ?_; rintro e W2 ⟨rfl, b2⟩))
  have HB2 := hidO (HB1.out.trans (b2.mono HB1.out.size))
  have n2 := newV_not node prio drift W2 hD2
  clear b2 q1 HB1
  go_upto_region 8 with (go_at_call 7; go_must (refine n2.mono ?_; rintro e W3 ⟨rfl, b3⟩))
  have HB3 := hidO (HB2.out.trans (b3.mono HB2.out.size))
  clear b3 n2
  go_cut [76] (fun v76 wx => v76 = .bool (!false) ∧ wx = W3)
  case first =>
    refine pl_reg8 W3 node prio drift false _ _ _ (by kernel_rfl) HD2 _ _ _ _ _ _ _ _ _ _ _ _ _ _ _ _ _ _ _ _ _ _ _ _ _ _ _ _ _ _ _ _ _ _ _ _ _ _ _ _ _ _ _ _ _ _ _ _ _ _ _ _ _ _ _ _ _ _ _ _ _ _ _ _ _ _ _ _ _ _ _ _ _ _ _ _ _ _ _ _ _ _ _ _ _ _ _ _ _ _ _ _ _ _ _ _ _ _ _ _ _ _ _ _ _ _ _ _ _ _ _ _ _ _ _ _ _ _ _ _ _ _ _ _ _ _ _ _ _ _ _ _ _ _ _ _ _ _ _ _ _ _ _ _ _ _ _ _ _ _ _ _ _ _ _ _ _ _ _ _ _ _ _ _ _ _ _ _ _ _ _ _ _ _ _ _ _ _ _ _ _ _ _ _ _ _ _ _ _ _ _ _ _ _ _ _ _ _ _ _ _ _ _ _ _ _ _ _ _ _ _ _ _ _ _ _ _ _ _ _ _ _ _ _ _ _ _ _ _ _ _ _ _ _ _ _ _ _ _ _ _ _ _ _ _ _ _ _ _ _ _ _ _ _ _ _ _ _ _ _ _ _ _ _ _ _ _ _ _ _ _ _ _ _ _ _ _ _ _ _ _ _ _ _ _ _ _ _ _ _ _ _ _ _ _ _ _ _ _ _ _ _ _ _ _ _ _ _ _ _ _ _ _ _ _ _ _ _ _ _ _ _ _ _ _ _ _ _ _ _ _ _ _ _ _ _ _ _ _ _ _ _ _ _ _ _ _ _ _ _ _ _ _ _ _ _ _ _ _ _ _ _ _ ?_
    intro W9 u55' u56' u57' u58' u59' u60' u61' u62' u63' u64' u65' u66' u67' u68' u69' u70' u71' u72' u73' u74' u75' h9
    subst h9
    conv =>
      arg 1
      zeta
    try go_step
    go_meet
    exact ⟨rfl, rfl⟩
  case rest =>
  obtain ⟨rfl, hwc⟩ := hcut
  subst hwc
  obtain ⟨W3, hW3⟩ : ∃ W3, W3 = wc := ⟨_, rfl⟩
  subst hW3
  have q2 := HER2.out W3 HB3.out
  go_wp2_with (go_at_call 6; go_must (refine q2.mono ?_; rintro e W4 ⟨rfl, b4⟩; have HB4 := hidO (HB3.out.trans (b4.mono HB3.out.size)); clear b4))
  go_ret
  exact ⟨rfl, HB4.out⟩
set_option maxRecDepth 100000 in
set_option maxHeartbeats 32000000 in
theorem eplays_gttrue (lease node prio drift : Int) (v : Value) (w : World) (hE : ErrLaid w) (l1 : ¬ lease < 1) (l2 : 1000000 < lease) (hD2 : nvB node prio drift = true) :
    Calls Tryd.prog 3 #[.int .i64 lease, .int .i64 node, .int .i64 prio, .int .i64 drift, v] w fun e w' => e = .returned (.bool true) ∧ Below w.heap.size w w' := by
  have HEL : Hid (∀ W, Below w.heap.size w W → ErrLaid W) := fun W bW => hE.below bW
  have HER1 : Hid (∀ W, Below w.heap.size w W → Calls Tryd.prog 6 #[.iface 55 (.int .i64 1), .int .i64 1] W fun e w' => e = .returned (.bool true) ∧ Below W.heap.size W w') := fun W bW => by
    have := el_same 1 W (HEL.out W bW)
    rw [show elV 1 = .iface 55 (.int .i64 1) from rfl] at this
    exact this
  have HER2 : Hid (∀ W, Below w.heap.size w W → Calls Tryd.prog 6 #[.nilIface, .int .i64 0] W fun e w' => e = .returned (.bool true) ∧ Below W.heap.size W w') := fun W bW => by
    have := el_same 0 W (HEL.out W bW)
    rw [show elV 0 = .nilIface from rfl] at this
    exact this
  have HD2 := hidO hD2
  have n1 := newA_not lease w (by omega)
  clear hE
  go_enter Tryd.func3, Tryd.ntmps3
  go_upto_region 3 with (go_at_call 5; go_must (refine n1.mono ?_; rintro e W1 ⟨rfl, b1⟩))
  have HB1 := hidO b1
  have q1 := HER1.out W1 b1
  clear b1 n1
  go_upto_region 6 with (go_at_call 6; go_must (refine q1.mono ?_; rintro e W2 ⟨rfl, b2⟩))
  have HB2 := hidO (HB1.out.trans (b2.mono HB1.out.size))
  have n2 := (newV_fit node prio drift W2 hD2).mono (fun e w2 h => (⟨h.1, h.2.2.1⟩ : e = _ ∧ Below W2.heap.size W2 w2))
  clear b2 q1 HB1
  go_upto_region 8 with (go_at_call 7; go_must (refine n2.mono ?_; rintro e W3 ⟨rfl, b3⟩))
  have HB3 := hidO (HB2.out.trans (b3.mono HB2.out.size))
  clear b3 n2
  go_cut [76] (fun v76 wx => v76 = .bool (!true) ∧ wx = W3)
  case first =>
    refine pl_reg8 W3 node prio drift true _ _ _ (by kernel_rfl) HD2 _ _ _ _ _ _ _ _ _ _ _ _ _ _ _ _ _ _ _ _ _ _ _ _ _ _ _ _ _ _ _ _ _ _ _ _ _ _ _ _ _ _ _ _ _ _ _ _ _ _ _ _ _ _ _ _ _ _ _ _ _ _ _ _ _ _ _ _ _ _ _ _ _ _ _ _ _ _ _ _ _ _ _ _ _ _ _ _ _ _ _ _ _ _ _ _ _ _ _ _ _ _ _ _ _ _ _ _ _ _ _ _ _ _ _ _ _ _ _ _ _ _ _ _ _ _ _ _ _ _ _ _ _ _ _ _ _ _ _ _ _ _ _ _ _ _ _ _ _ _ _ _ _ _ _ _ _ _ _ _ _ _ _ _ _ _ _ _ _ _ _ _ _ _ _ _ _ _ _ _ _ _ _ _ _ _ _ _ _ _ _ _ _ _ _ _ _ _ _ _ _ _ _ _ _ _ _ _ _ _ _ _ _ _ _ _ _ _ _ _ _ _ _ _ _ _ _ _ _ _ _ _ _ _ _ _ _ _ _ _ _ _ _ _ _ _ _ _ _ _ _ _ _ _ _ _ _ _ _ _ _ _ _ _ _ _ _ _ _ _ _ _ _ _ _ _ _ _ _ _ _ _ _ _ _ _ _ _ _ _ _ _ _ _ _ _ _ _ _ _ _ _ _ _ _ _ _ _ _ _ _ _ _ _ _ _ _ _ _ _ _ _ _ _ _ _ _ _ _ _ _ _ _ _ _ _ _ _ _ _ _ _ _ _ _ _ _ _ _ _ _ _ _ _ _ _ _ _ _ _ _ _ _ ?_
    intro W9 u55' u56' u57' u58' u59' u60' u61' u62' u63' u64' u65' u66' u67' u68' u69' u70' u71' u72' u73' u74' u75' h9
    subst h9
    conv =>
      arg 1
      zeta
    try go_step
    go_meet
    exact ⟨rfl, rfl⟩
  case rest =>
  obtain ⟨rfl, hwc⟩ := hcut
  subst hwc
  obtain ⟨W3, hW3⟩ : ∃ W3, W3 = wc := ⟨_, rfl⟩
  subst hW3
  have q2 := HER2.out W3 HB3.out
  go_wp2_with (go_at_call 6; go_must (refine q2.mono ?_; rintro e W4 ⟨rfl, b4⟩; have HB4 := hidO (HB3.out.trans (b4.mono HB3.out.size)); clear b4))
  go_ret
  exact ⟨rfl, HB4.out⟩
set_option maxRecDepth 100000 in
set_option maxHeartbeats 32000000 in
theorem eplays_okfalse (lease node prio drift : Int) (v : Value) (w : World) (hE : ErrLaid w) (l1 : ¬ lease < 1) (l2 : ¬ 1000000 < lease) (hD2 : nvB node prio drift = false) :
    Calls Tryd.prog 3 #[.int .i64 lease, .int .i64 node, .int .i64 prio, .int .i64 drift, v] w fun e w' => e = .returned (.bool true) ∧ Below w.heap.size w w' := by
  have HEL : Hid (∀ W, Below w.heap.size w W → ErrLaid W) := fun W bW => hE.below bW
  have HER1 : Hid (∀ W, Below w.heap.size w W → Calls Tryd.prog 6 #[.nilIface, .int .i64 0] W fun e w' => e = .returned (.bool true) ∧ Below W.heap.size W w') := fun W bW => by
    have := el_same 0 W (HEL.out W bW)
    rw [show elV 0 = .nilIface from rfl] at this
    exact this
  have HER2 : Hid (∀ W, Below w.heap.size w W → Calls Tryd.prog 6 #[.iface 55 (.int .i64 1), .int .i64 1] W fun e w' => e = .returned (.bool true) ∧ Below W.heap.size W w') := fun W bW => by
    have := el_same 1 W (HEL.out W bW)
    rw [show elV 1 = .iface 55 (.int .i64 1) from rfl] at this
    exact this
  have HD2 := hidO hD2
  have n1 := (newA_fit lease w l1 l2).mono (fun e w2 h => (⟨h.1, h.2.2.1⟩ : e = _ ∧ Below w.heap.size w w2))
  clear hE
  go_enter Tryd.func3, Tryd.ntmps3
  go_upto_region 3 with (go_at_call 5; go_must (refine n1.mono ?_; rintro e W1 ⟨rfl, b1⟩))
  have HB1 := hidO b1
  have q1 := HER1.out W1 b1
  clear b1 n1
  go_upto_region 6 with (go_at_call 6; go_must (refine q1.mono ?_; rintro e W2 ⟨rfl, b2⟩))
  have HB2 := hidO (HB1.out.trans (b2.mono HB1.out.size))
  have n2 := newV_not node prio drift W2 hD2
  clear b2 q1 HB1
  go_upto_region 8 with (go_at_call 7; go_must (refine n2.mono ?_; rintro e W3 ⟨rfl, b3⟩))
  have HB3 := hidO (HB2.out.trans (b3.mono HB2.out.size))
  clear b3 n2
  go_cut [76] (fun v76 wx => v76 = .bool (!false) ∧ wx = W3)
  case first =>
    refine pl_reg8 W3 node prio drift false _ _ _ (by kernel_rfl) HD2 _ _ _ _ _ _ _ _ _ _ _ _ _ _ _ _ _ _ _ _ _ _ _ _ _ _ _ _ _ _ _ _ _ _ _ _ _ _ _ _ _ _ _ _ _ _ _ _ _ _ _ _ _ _ _ _ _ _ _ _ _ _ _ _ _ _ _ _ _ _ _ _ _ _ _ _ _ _ _ _ _ _ _ _ _ _ _ _ _ _ _ _ _ _ _ _ _ _ _ _ _ _ _ _ _ _ _ _ _ _ _ _ _ _ _ _ _ _ _ _ _ _ _ _ _ _ _ _ _ _ _ _ _ _ _ _ _ _ _ _ _ _ _ _ _ _ _ _ _ _ _ _ _ _ _ _ _ _ _ _ _ _ _ _ _ _ _ _ _ _ _ _ _ _ _ _ _ _ _ _ _ _ _ _ _ _ _ _ _ _ _ _ _ _ _ _ _ _ _ _ _ _ _ _ _ _ _ _ _ _ _ _ _ _ _ _ _ _ _ _ _ _ _ _ _ _ _ _ _ _ _ _ _ _ _ _ _ _ _ _ _ _ _ _ _ _ _ _ _ _ _ _ _ _ _ _ _ _ _ _ _ _ _ _ _ _ _ _ _ _ _ _ _ _ _ _ _ _ _ _ _ _ _ _ _ _ _ _ _ _ _ _ _ _ _ _ _ _ _ _ _ _ _ _ _ _ _ _ _ _ _ _ _ _ _ _ _ _ _ _ _ _ _ _ _ _ _ _ _ _ _ _ _ _ _ _ _ _ _ _ _ _ _ _ _ _ _ _ _ _ _ _ _ _ _ _ _ _ _ _ _ _ _ ?_
    intro W9 u55' u56' u57' u58' u59' u60' u61' u62' u63' u64' u65' u66' u67' u68' u69' u70' u71' u72' u73' u74' u75' h9
    subst h9
    conv =>
      arg 1
      zeta
    try go_step
    go_meet
    exact ⟨rfl, rfl⟩
  case rest =>
  obtain ⟨rfl, hwc⟩ := hcut
  subst hwc
  obtain ⟨W3, hW3⟩ : ∃ W3, W3 = wc := ⟨_, rfl⟩
  subst hW3
  have q2 := HER2.out W3 HB3.out
  go_wp2_with (go_at_call 6; go_must (refine q2.mono ?_; rintro e W4 ⟨rfl, b4⟩; have HB4 := hidO (HB3.out.trans (b4.mono HB3.out.size)); clear b4))
  go_ret
  exact ⟨rfl, HB4.out⟩
end Go.Proofs.YtempphlbgeogiaaDoor
