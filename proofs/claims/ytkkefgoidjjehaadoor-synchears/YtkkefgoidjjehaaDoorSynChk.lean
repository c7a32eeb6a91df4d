/- What many, checkKey and check of package sync return, for every note, where the table of lives holds what the rows lay. -/
import Derived.Test.YtkkefgoidjjehaaDoorSynAt
import Derived.Test.YtkkefgoidjjehaaDoorTrkChk
namespace Go.Proofs.YtkkefgoidjjehaaDoor
open Go.RowKit
set_option linter.unusedVariables false

set_option maxHeartbeats 4000000 in
theorem many_any (t : Int) (w : World) :
    Calls Tryd.prog 27 #[.int .i64 t] w fun e w' => e = .returned (.int .i64 (manyN t : Nat)) ∧ w' = w := by
  obtain ⟨r, HR⟩ : ∃ r : Int, Hid (r = ((manyN t : Nat) : Int)) := ⟨_, rfl⟩
  rw [← HR.out]
  unfold manyN at HR
  by_cases h1 : t = 1
  · obtain rfl : r = 16 := by rw [HR.out, if_pos h1]; rfl
    subst h1
    clear HR
    go_enter Tryd.func27, Tryd.ntmps27
    go_wp2
    go_ret
    exact ⟨rfl, rfl⟩
  by_cases h2 : t = 2
  · obtain rfl : r = 7 := by rw [HR.out, if_neg h1, if_pos h2]; rfl
    subst h2
    clear HR
    go_enter Tryd.func27, Tryd.ntmps27
    go_wp2
    go_ret
    exact ⟨rfl, rfl⟩
  by_cases h3 : t = 3 ∨ t = 4 ∨ t = 5
  · obtain rfl : r = 2 := by rw [HR.out, if_neg h1, if_neg h2, if_pos h3]; rfl
    clear HR h1 h2
    rcases h3 with rfl | rfl | rfl
    all_goals
      go_enter Tryd.func27, Tryd.ntmps27
      go_wp2
      go_ret
      exact ⟨rfl, rfl⟩
  · obtain rfl : r = 0 := by rw [HR.out, if_neg h1, if_neg h2, if_neg h3]; rfl
    clear HR
    have e1 : (t == 1) = false := by simpa using h1
    have e2 : (t == 2) = false := by simpa using h2
    have e3 : (t == 3) = false := by simp; omega
    have e4 : (t == 4) = false := by simp; omega
    have e5 : (t == 5) = false := by simp; omega
    clear h1 h2 h3
    go_enter Tryd.func27, Tryd.ntmps27
    go_wp2
    go_ret
    exact ⟨rfl, rfl⟩
set_option maxHeartbeats 4000000 in
theorem checkKey_any (k : Ky) (w : World) (hL : Lives w) :
    Calls Tryd.prog 29 #[keyV k] w fun e w' => e = .returned (errV (chkE (keyF k))) ∧ Below w.heap.size w w' := by
  have b1 : Below w.heap.size w (w.alloc (.cells #[.int .i64 k.kind, .int .i64 k.src, .int .i64 k.frm, .int .i64 k.dst, .int .i64 k.too] 23)) := (Below.refl _ _).alloc (Nat.le_refl _) _
  have c := check_any (keyF k) _ (hL.below b1)
  unfold flV keyF zeroF at c
  simp only at c
  obtain ⟨z, hz⟩ : ∃ z, errV (chkE (keyF k)) = z := ⟨_, rfl⟩
  rw [hz]
  have hz' : errV (chkE { key := k, st := 1, unt := 0, stp := 1, h0 := 0, h1 := 0, w0 := 0, w1 := 0, d0 := false, d1 := false, num := 0 }) = z := hz
  rw [hz'] at c
  clear hz hz'
  unfold keyV
  go_enter Tryd.func29, Tryd.ntmps29
  go_wp2_with (first | (go_at_call 28; refine c.mono ?_; rintro e w2 ⟨rfl, b2⟩))
  go_ret
  exact ⟨rfl, b1.trans (b2.mono b1.size)⟩
set_option maxRecDepth 100000 in
set_option maxHeartbeats 16000000 in
theorem ntChk_any (n : Nt) (w : World) (hL : Lives w) :
    Calls Tryd.prog 17 #[ntV n] w fun e w' => e = .returned (errV (ntE n)) ∧ Below w.heap.size w w' := by
  have b1 : Below w.heap.size w (w.alloc (.cells #[.int .i64 n.what, .int .i64 n.seq, .int .i64 n.fl.key.kind, .int .i64 n.fl.key.src, .int .i64 n.fl.key.frm, .int .i64 n.fl.key.dst, .int .i64 n.fl.key.too, .int .i64 n.fl.st, .int .i64 n.fl.unt, .int .i64 n.fl.stp, .int .i64 n.fl.h0, .int .i64 n.fl.h1, .int .i64 n.fl.w0, .int .i64 n.fl.w1, .bool n.fl.d0, .bool n.fl.d1, .int .i64 n.fl.num] 29)) := (Below.refl _ _).alloc (Nat.le_refl _) _
  have p1 := NtAt.new w n
  obtain ⟨W1, hW1⟩ : ∃ W1, w.alloc (.cells #[.int .i64 n.what, .int .i64 n.seq, .int .i64 n.fl.key.kind, .int .i64 n.fl.key.src, .int .i64 n.fl.key.frm, .int .i64 n.fl.key.dst, .int .i64 n.fl.key.too, .int .i64 n.fl.st, .int .i64 n.fl.unt, .int .i64 n.fl.stp, .int .i64 n.fl.h0, .int .i64 n.fl.h1, .int .i64 n.fl.w0, .int .i64 n.fl.w1, .bool n.fl.d0, .bool n.fl.d1, .int .i64 n.fl.num] 29) = W1 := ⟨_, rfl⟩
  rw [hW1] at b1 p1
  have hM := fun W => many_any n.what W
  obtain ⟨r, HR⟩ : ∃ r, Hid (r = errV (ntE n)) := ⟨_, rfl⟩
  rw [← HR.out]
  unfold ntE at HR
  have HL1 : Hid (Lives W1) := hL.below b1
  clear hL
  obtain ⟨q0, q1, q2, q3, q4, q5, q6, q7, q8, q9, q10, q11, q12, q13, q14, q15, q16⟩ := p1.cells
  unfold ntV
  by_cases h0 : manyN n.what = 0 ∨ n.seq < 0 ∨ 1000000 < n.seq
  · obtain rfl : r = .iface 63 (.int .i64 1) := by rw [HR.out, if_pos h0]; rfl
    clear HR HL1
    by_cases hm : manyN n.what = 0
    · rw [hm] at hM
      clear h0 hm
      go_enter Tryd.func17, Tryd.ntmps17
      go_upto_region 1 with fail
      try rw [hW1]
      clear hW1
      go_wp2_with (go_at_call 27; refine (hM _).mono ?_; rintro e w2 ⟨rfl, rfl⟩)
      go_ret
      exact ⟨rfl, b1⟩
    · have e0 : (((manyN n.what : Nat) : Int) == 0) = false := by simp; omega
      generalize ((manyN n.what : Nat) : Int) = m at hM e0
      by_cases hs : n.seq < 0
      · clear h0 hm
        go_enter Tryd.func17, Tryd.ntmps17
        go_upto_region 1 with fail
        try rw [hW1]
        clear hW1
        go_wp2_with (go_at_call 27; refine (hM _).mono ?_; rintro e w2 ⟨rfl, rfl⟩)
        go_ret
        exact ⟨rfl, b1⟩
      · have hs2 : 1000000 < n.seq := by omega
        clear h0 hm
        go_enter Tryd.func17, Tryd.ntmps17
        go_upto_region 1 with fail
        try rw [hW1]
        clear hW1
        go_wp2_with (go_at_call 27; refine (hM _).mono ?_; rintro e w2 ⟨rfl, rfl⟩)
        go_ret
        exact ⟨rfl, b1⟩
  rw [if_neg h0] at HR
  have hm : ¬ manyN n.what = 0 := fun h => h0 (.inl h)
  have hs : 0 ≤ n.seq ∧ n.seq ≤ 1000000 := by omega
  have e0 : (((manyN n.what : Nat) : Int) == 0) = false := by simp; omega
  generalize ((manyN n.what : Nat) : Int) = m at hM e0
  clear h0 hm
  have p2 := p1.alloc (.cells #[.int .i64 0, .int .i64 0, .int .i64 0, .int .i64 0, .int .i64 0, .int .i64 0, .int .i64 0, .int .i64 0, .int .i64 0, .int .i64 0, .int .i64 0, .int .i64 0, .bool false, .bool false, .int .i64 0] 27)
  have f2 := FlAt.zero W1
  have b2 := b1.alloc b1.size (.cells #[.int .i64 0, .int .i64 0, .int .i64 0, .int .i64 0, .int .i64 0, .int .i64 0, .int .i64 0, .int .i64 0, .int .i64 0, .int .i64 0, .int .i64 0, .int .i64 0, .bool false, .bool false, .int .i64 0] 27)
  have HL2 : Hid (Lives (W1.alloc (.cells #[.int .i64 0, .int .i64 0, .int .i64 0, .int .i64 0, .int .i64 0, .int .i64 0, .int .i64 0, .int .i64 0, .int .i64 0, .int .i64 0, .int .i64 0, .int .i64 0, .bool false, .bool false, .int .i64 0] 27))) := HL1.out.below ((Below.refl _ _).alloc (Nat.le_refl _) _)
  have hg := Tryd.flGuard
  have hfr := FlAt.frees f2

  obtain ⟨W2, hW2⟩ : ∃ W2, W1.alloc (.cells #[.int .i64 0, .int .i64 0, .int .i64 0, .int .i64 0, .int .i64 0, .int .i64 0, .int .i64 0, .int .i64 0, .int .i64 0, .int .i64 0, .int .i64 0, .int .i64 0, .bool false, .bool false, .int .i64 0] 27) = W2 := ⟨_, rfl⟩
  rw [hW2] at p2 f2 b2 HL2 hfr
  have hne : w.heap.size ≠ W1.heap.size := by have := p1.lt; omega
  by_cases h1 : n.what = 1
  · rw [if_pos h1] at HR
    have e1 : (n.what == 1) = true := by simpa using h1
    have c := check_any n.fl W2 HL2.out
    rw [← HR.out] at c
    unfold flV at c
    clear h1 HR HL1 HL2
    go_enter Tryd.func17, Tryd.ntmps17
    go_upto_region 1 with fail
    try rw [hW1]
    clear hW1
    go_upto_region 4 with (go_at_call 27; refine (hM _).mono ?_; rintro e w2 ⟨rfl, rfl⟩)
    try rw [hW2]
    clear hW2 q0 q1 q2 q3 q4 q5 q6 q7 q8 q9 q10 q11 q12 q13 q14 q15 q16
    obtain ⟨q0, q1, q2, q3, q4, q5, q6, q7, q8, q9, q10, q11, q12, q13, q14, q15, q16⟩ := p2.cells
    go_wp2_with (go_at_call 28; refine c.mono ?_; rintro e w3 ⟨rfl, b3⟩)
    go_ret
    exact ⟨rfl, b2.trans (b3.mono b2.size)⟩
  have e1 : (n.what == 1) = false := by simpa using h1
  rw [if_neg h1] at HR
  by_cases h2 : n.what = 2
  · rw [if_pos h2] at HR
    have e2 : (n.what == 2) = true := by simpa using h2
    obtain ⟨W3, hW3, f3, o3⟩ := f2.putKey n.fl.key
    have p3 := p2.only hne o3
    have b3 : Below w.heap.size w W3 := o3.below b1.size b2
    have L3 : Lives W3 := HL2.out.only (by have := HL1.out.lt; omega) o3
    have c := checkKey_any n.fl.key W3 L3
    unfold keyV at c
    have hfn := Tryd.flNeqG n.fl (bareF n.fl.key)
    unfold bareF zeroF at hfn
    simp only at hfn
    rw [show eqF n.fl { key := n.fl.key, st := 0, unt := 0, stp := 0, h0 := 0, h1 := 0, w0 := 0, w1 := 0, d0 := false, d1 := false, num := 0 } = eqF n.fl (bareF n.fl.key) from rfl] at hfn
    generalize eqF n.fl (bareF n.fl.key) = y at hfn HR
    generalize chkE (keyF n.fl.key) = z at c HR
    clear h1 h2 HL1 HL2 L3
    by_cases hz : z = 0
    · subst hz
      rw [show errV 0 = .nilIface from rfl] at c
      rcases y with _ | _
      · obtain rfl : r = .iface 63 (.int .i64 3) := by rw [HR.out]; rfl
        clear HR
        go_enter Tryd.func17, Tryd.ntmps17
        go_upto_region 1 with fail
        try rw [hW1]
        clear hW1
        go_upto_region 4 with (go_at_call 27; refine (hM _).mono ?_; rintro e w2 ⟨rfl, rfl⟩)
        try rw [hW2]
        clear hW2 q0 q1 q2 q3 q4 q5 q6 q7 q8 q9 q10 q11 q12 q13 q14 q15 q16
        obtain ⟨q0, q1, q2, q3, q4, q5, q6, q7, q8, q9, q10, q11, q12, q13, q14, q15, q16⟩ := p2.cells
        obtain ⟨r0, r1, r2, r3, r4, r5, r6, r7, r8, r9, r10, r11, r12, r13, r14⟩ := hfr
        obtain ⟨g0, g1, g2, g3, g4, g5, g6, g7, g8, g9, g10, g11, g12, g13, g14⟩ := f2.cells
        go_upto_region 9 with fail
        try rw [hW3]
        clear hW3 g0 g1 g2 g3 g4 g5 g6 g7 g8 g9 g10 g11 g12 g13 g14 q0 q1 q2 q3 q4 q5 q6 q7 q8 q9 q10 q11 q12 q13 q14 q15 q16 r0 r1 r2 r3 r4 r5 r6 r7 r8 r9 r10 r11 r12 r13 r14
        obtain ⟨q0, q1, q2, q3, q4, q5, q6, q7, q8, q9, q10, q11, q12, q13, q14, q15, q16⟩ := p3.cells
        obtain ⟨g0, g1, g2, g3, g4, g5, g6, g7, g8, g9, g10, g11, g12, g13, g14⟩ := f3.cells
        go_upto_region 12 with (go_at_call 29; refine c.mono ?_; rintro e w4 ⟨rfl, b4⟩)
        have p4 := p3.below p3.lt b4
        have f4 := f3.below f3.lt b4
        clear q0 q1 q2 q3 q4 q5 q6 q7 q8 q9 q10 q11 q12 q13 q14 q15 q16 g0 g1 g2 g3 g4 g5 g6 g7 g8 g9 g10 g11 g12 g13 g14
        obtain ⟨q0, q1, q2, q3, q4, q5, q6, q7, q8, q9, q10, q11, q12, q13, q14, q15, q16⟩ := p4.cells
        obtain ⟨g0, g1, g2, g3, g4, g5, g6, g7, g8, g9, g10, g11, g12, g13, g14⟩ := f4.cells
        simp only [zeroF] at g5 g6 g7 g8 g9 g10 g11 g12 g13 g14
        go_wp2_with fail
        go_ret
        exact ⟨rfl, b3.trans (b4.mono b3.size)⟩
      · obtain rfl : r = .nilIface := by rw [HR.out]; rfl
        clear HR
        go_enter Tryd.func17, Tryd.ntmps17
        go_upto_region 1 with fail
        try rw [hW1]
        clear hW1
        go_upto_region 4 with (go_at_call 27; refine (hM _).mono ?_; rintro e w2 ⟨rfl, rfl⟩)
        try rw [hW2]
        clear hW2 q0 q1 q2 q3 q4 q5 q6 q7 q8 q9 q10 q11 q12 q13 q14 q15 q16
        obtain ⟨q0, q1, q2, q3, q4, q5, q6, q7, q8, q9, q10, q11, q12, q13, q14, q15, q16⟩ := p2.cells
        obtain ⟨r0, r1, r2, r3, r4, r5, r6, r7, r8, r9, r10, r11, r12, r13, r14⟩ := hfr
        obtain ⟨g0, g1, g2, g3, g4, g5, g6, g7, g8, g9, g10, g11, g12, g13, g14⟩ := f2.cells
        go_upto_region 9 with fail
        try rw [hW3]
        clear hW3 g0 g1 g2 g3 g4 g5 g6 g7 g8 g9 g10 g11 g12 g13 g14 q0 q1 q2 q3 q4 q5 q6 q7 q8 q9 q10 q11 q12 q13 q14 q15 q16 r0 r1 r2 r3 r4 r5 r6 r7 r8 r9 r10 r11 r12 r13 r14
        obtain ⟨q0, q1, q2, q3, q4, q5, q6, q7, q8, q9, q10, q11, q12, q13, q14, q15, q16⟩ := p3.cells
        obtain ⟨g0, g1, g2, g3, g4, g5, g6, g7, g8, g9, g10, g11, g12, g13, g14⟩ := f3.cells
        go_upto_region 12 with (go_at_call 29; refine c.mono ?_; rintro e w4 ⟨rfl, b4⟩)
        have p4 := p3.below p3.lt b4
        have f4 := f3.below f3.lt b4
        clear q0 q1 q2 q3 q4 q5 q6 q7 q8 q9 q10 q11 q12 q13 q14 q15 q16 g0 g1 g2 g3 g4 g5 g6 g7 g8 g9 g10 g11 g12 g13 g14
        obtain ⟨q0, q1, q2, q3, q4, q5, q6, q7, q8, q9, q10, q11, q12, q13, q14, q15, q16⟩ := p4.cells
        obtain ⟨g0, g1, g2, g3, g4, g5, g6, g7, g8, g9, g10, g11, g12, g13, g14⟩ := f4.cells
        simp only [zeroF] at g5 g6 g7 g8 g9 g10 g11 g12 g13 g14
        go_wp2_with fail
        go_ret
        exact ⟨rfl, b3.trans (b4.mono b3.size)⟩
    · obtain rfl : r = .iface 63 (.int .i64 z) := by rw [HR.out, if_pos hz]; unfold errV; rw [if_neg hz]
      rw [show errV z = .iface 63 (.int .i64 z) by unfold errV; rw [if_neg hz]] at c
      clear HR hz
      go_enter Tryd.func17, Tryd.ntmps17
      go_upto_region 1 with fail
      try rw [hW1]
      clear hW1
      go_upto_region 4 with (go_at_call 27; refine (hM _).mono ?_; rintro e w2 ⟨rfl, rfl⟩)
      try rw [hW2]
      clear hW2 q0 q1 q2 q3 q4 q5 q6 q7 q8 q9 q10 q11 q12 q13 q14 q15 q16
      obtain ⟨q0, q1, q2, q3, q4, q5, q6, q7, q8, q9, q10, q11, q12, q13, q14, q15, q16⟩ := p2.cells
      obtain ⟨r0, r1, r2, r3, r4, r5, r6, r7, r8, r9, r10, r11, r12, r13, r14⟩ := hfr
      obtain ⟨g0, g1, g2, g3, g4, g5, g6, g7, g8, g9, g10, g11, g12, g13, g14⟩ := f2.cells
      go_upto_region 9 with fail
      try rw [hW3]
      clear hW3 g0 g1 g2 g3 g4 g5 g6 g7 g8 g9 g10 g11 g12 g13 g14 q0 q1 q2 q3 q4 q5 q6 q7 q8 q9 q10 q11 q12 q13 q14 q15 q16 r0 r1 r2 r3 r4 r5 r6 r7 r8 r9 r10 r11 r12 r13 r14
      obtain ⟨q0, q1, q2, q3, q4, q5, q6, q7, q8, q9, q10, q11, q12, q13, q14, q15, q16⟩ := p3.cells
      obtain ⟨g0, g1, g2, g3, g4, g5, g6, g7, g8, g9, g10, g11, g12, g13, g14⟩ := f3.cells
      go_wp2_with (go_at_call 29; refine c.mono ?_; rintro e w4 ⟨rfl, b4⟩)
      go_ret
      exact ⟨rfl, b3.trans (b4.mono b3.size)⟩
  · rw [if_neg h2] at HR
    have e2 : (n.what == 2) = false := by simpa using h2
    have hfn := Tryd.flNeqG n.fl zeroF
    unfold zeroF zeroY at hfn
    simp only at hfn
    rw [show eqF n.fl { key := { kind := 0, src := 0, frm := 0, dst := 0, too := 0 }, st := 0, unt := 0, stp := 0, h0 := 0, h1 := 0, w0 := 0, w1 := 0, d0 := false, d1 := false, num := 0 } = eqF n.fl zeroF from rfl] at hfn
    generalize eqF n.fl zeroF = y at hfn HR
    clear h1 h2 HL1 HL2
    rcases y with _ | _
    · obtain rfl : r = .iface 63 (.int .i64 3) := by rw [HR.out]; rfl
      clear HR
      go_enter Tryd.func17, Tryd.ntmps17
      go_upto_region 1 with fail
      try rw [hW1]
      clear hW1
      go_upto_region 4 with (go_at_call 27; refine (hM _).mono ?_; rintro e w2 ⟨rfl, rfl⟩)
      try rw [hW2]
      clear hW2 q0 q1 q2 q3 q4 q5 q6 q7 q8 q9 q10 q11 q12 q13 q14 q15 q16
      obtain ⟨q0, q1, q2, q3, q4, q5, q6, q7, q8, q9, q10, q11, q12, q13, q14, q15, q16⟩ := p2.cells
      obtain ⟨g0, g1, g2, g3, g4, g5, g6, g7, g8, g9, g10, g11, g12, g13, g14⟩ := f2.cells
      simp only [zeroF, zeroY] at g0 g1 g2 g3 g4 g5 g6 g7 g8 g9 g10 g11 g12 g13 g14
      go_wp2_with fail
      go_ret
      exact ⟨rfl, b2⟩
    · obtain rfl : r = .nilIface := by rw [HR.out]; rfl
      clear HR
      go_enter Tryd.func17, Tryd.ntmps17
      go_upto_region 1 with fail
      try rw [hW1]
      clear hW1
      go_upto_region 4 with (go_at_call 27; refine (hM _).mono ?_; rintro e w2 ⟨rfl, rfl⟩)
      try rw [hW2]
      clear hW2 q0 q1 q2 q3 q4 q5 q6 q7 q8 q9 q10 q11 q12 q13 q14 q15 q16
      obtain ⟨q0, q1, q2, q3, q4, q5, q6, q7, q8, q9, q10, q11, q12, q13, q14, q15, q16⟩ := p2.cells
      obtain ⟨g0, g1, g2, g3, g4, g5, g6, g7, g8, g9, g10, g11, g12, g13, g14⟩ := f2.cells
      simp only [zeroF, zeroY] at g0 g1 g2 g3 g4 g5 g6 g7 g8 g9 g10 g11 g12 g13 g14
      go_wp2_with fail
      go_ret
      exact ⟨rfl, b2⟩
end Go.Proofs.YtkkefgoidjjehaaDoor
