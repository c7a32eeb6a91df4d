/- What the reference's ShowPrefix and ReadPrefix return (package portref1): a prefix as text, and back. Condition: a text is not longer than 1048576 bytes. -/
import Derived.Test.YtkjjalaelehjeaaDoorRead
import Derived.Test.YtkjjalaelehjeaaDoorPairs
namespace Go.Proofs.YtkjjalaelehjeaaDoor
open Go.RowKit
set_option linter.unusedVariables false

theorem showL_len (a : Int) : (showL a).length ≤ 2000 := by
  have h1 := digL_small (n := (a / 16777216 % 256).toNat) (by omega)
  have h2 := digL_small (n := (a / 65536 % 256).toNat) (by omega)
  have h3 := digL_small (n := (a / 256 % 256).toNat) (by omega)
  have h4 := digL_small (n := (a % 256).toNat) (by omega)
  simp [showL]; omega

theorem showPrefix_any (a l : Int) (w : World) (h0 : 0 ≤ a) (h1 : a ≤ 4294967295) (h2 : 0 ≤ l) (h3 : l ≤ 32) :
    Calls Tryd.prog 21 #[.agg #[.int .i64 a, .int .i64 l]] w fun e w' => e = .returned (.string (mkB (showPrefL a l))) ∧ Below w.heap.size w w' := by
  have hb : Below w.heap.size w (w.alloc (.cells #[.int .i64 a, .int .i64 l] 35)) := (Below.refl _ _).alloc (Nat.le_refl _) _
  rcases hl : (l == 0) with _ | _
  · have HS : Hid (mkB (showL a) ++ mkB [47] ++ mkB (digL l.toNat) = mkB (showPrefL a l)) := by
      show _ = mkB (showPrefL a l)
      unfold showPrefL
      rw [if_neg (by simpa using hl)]
      simp only [mkB_append]
    have z1 : (mkB (showL a)).size ≤ 2000 := by rw [mkB_size]; exact showL_len a
    have z2 : (mkB (digL l.toNat)).size ≤ 2000 := by rw [mkB_size]; have := digL_small (n := l.toNat) (by omega); omega
    go_enter Tryd.func21, Tryd.ntmps21
    go_wp2_with (first | (go_at_call 16; refine (show_any _ _ h0 h1).mono ?_; rintro e w' ⟨rfl, rfl⟩) | (go_at_call 40; refine (digits_any _ _ h2 (by omega)).mono ?_; rintro e w' ⟨rfl, rfl⟩))
    go_ret
    exact ⟨ret_str HS.out, hb⟩
  · have HS : Hid (mkB [97, 110, 121] = mkB (showPrefL a l)) := by
      show _ = mkB (showPrefL a l)
      unfold showPrefL
      rw [if_pos (by simpa using hl)]
    go_enter Tryd.func21, Tryd.ntmps21
    go_wp2
    go_ret
    exact ⟨ret_str HS.out, hb⟩

/-- The prefix of a text, or none. -/
def readPrefL (l : List UInt8) : Int × Int × Bool :=
  if l = [97, 110, 121] then (0, 0, true) else
  let ws := cutL 47 l
  let A := readAddrL (ws.headD [])
  let L := if ws.length = 2 then wholeL (ws.getD 1 []) 2 else 32
  if 2 < ws.length ∨ L < 1 ∨ prefE A L ≠ 0 then (0, 0, false) else (A, L, true)

set_option maxHeartbeats 2000000 in
theorem readPrefix_any (s : ByteArray) (w : World) (hs : s.size ≤ 1048576) :
    Calls Tryd.prog 24 #[.string s] w fun e w' => e = .returned (.tuple #[.agg #[.int .i64 (readPrefL s.data.toList).1, .int .i64 (readPrefL s.data.toList).2.1], .bool (readPrefL s.data.toList).2.2]) ∧ Below w.heap.size w w' := by
  rcases hany : (s.toList == [97, 110, 121]) with _ | _
  · obtain ⟨ws, hws⟩ : ∃ ws, ws = cutL 47 s.data.toList := ⟨_, rfl⟩
    have hpos : 0 < ws.length := by rw [hws]; exact cutG_pos _ _ _
    have hmem : ∀ p ∈ ws, p.length ≤ 1048576 := by
      intro p hp
      rw [hws] at hp
      have := cutG_mem 47 _ _ p hp
      rw [size_list] at this; simp at this; omega
    have hHE : readPrefL s.data.toList = (if 2 < ws.length ∨ (if ws.length = 2 then wholeL (ws.getD 1 []) 2 else 32) < 1 ∨ prefE (readAddrL (ws.headD [])) (if ws.length = 2 then wholeL (ws.getD 1 []) 2 else 32) ≠ 0 then (0, 0, false) else (readAddrL (ws.headD []), (if ws.length = 2 then wholeL (ws.getD 1 []) 2 else 32), true)) := by
      unfold readPrefL
      rw [if_neg (by rw [← ByteArray.toList_eq]; simpa using hany), hws]
    obtain ⟨rp, hrp⟩ : ∃ rp, rp = readPrefL s.data.toList := ⟨_, rfl⟩
    rw [← hrp] at hHE ⊢
    go_enter Tryd.func24, Tryd.ntmps24
    have hcut := cut_any s 47 (w.alloc (.cells #[.int .i64 0, .int .i64 0] 35)) hs
    go_upto_region 5 with (go_at_call 45; refine hcut.mono ?_; rintro e w1 ⟨v, rfl, own1, b1⟩)
    rw [← hws] at own1
    clear hws hrp hcut hany
    have HE : Hid (rp = (if 2 < ws.length ∨ (if ws.length = 2 then wholeL (ws.getD 1 []) 2 else 32) < 1 ∨ prefE (readAddrL (ws.headD [])) (if ws.length = 2 then wholeL (ws.getD 1 []) 2 else 32) ≠ 0 then (0, 0, false) else (readAddrL (ws.headD []), (if ws.length = 2 then wholeL (ws.getD 1 []) 2 else 32), true))) := hHE
    clear hHE
    obtain ⟨g, cap, hv, hg0, hg1, hlc, hcm⟩ := own1.shape (by simpa using hpos)
    subst hv
    obtain ⟨n, hn⟩ : ∃ n, n = (ws.map mkB).length := ⟨_, rfl⟩
    rw [← hn] at own1 hlc ⊢
    have hn1 : n ≤ ws.length := by rw [hn]; simp
    have hn2 : ws.length ≤ n := by rw [hn]; simp
    have HN : Hid (n = (ws.map mkB).length) := hn
    clear hn
    have z0 : (w.alloc (.cells #[.int .i64 0, .int .i64 0] 35)).heap.size = w.heap.size + 1 := by simp
    have bw : Below w.heap.size w w1 := ((Below.refl w.heap.size w).alloc (Nat.le_refl _) _).trans (b1.mono (by rw [z0]; omega))
    have pR := ((PairAt.new w 0 0 35).below (by rw [z0]; omega) b1).alloc (.cells #[.int .i64 0, .int .i64 32] 35)
    have pP := PairAt.new w1 0 32 35
    have zw1 : w.heap.size < w1.heap.size := by have := b1.size; rw [z0] at this; omega
    have bw2 : Below w.heap.size w (w1.alloc (.cells #[.int .i64 0, .int .i64 32] 35)) := bw.alloc (Nat.le_of_lt zw1) _
    have own2 := own1.alloc (.cells #[.int .i64 0, .int .i64 32] 35)
    obtain ⟨wp, hwp⟩ : ∃ wp, w1.alloc (.cells #[.int .i64 0, .int .i64 32] 35) = wp := ⟨_, rfl⟩
    have zwp : w1.heap.size < wp.heap.size := by rw [← hwp]; simp
    rw [hwp] at pR pP bw2 own2 ⊢
    obtain ⟨P, hP⟩ : ∃ P, P = w1.heap.size := ⟨_, rfl⟩
    rw [← hP] at pP zwp zw1 hg1 ⊢
    clear hwp own1 bw b1 z0 hP
    have c0 := own2.cell HN.out 0 (by simpa using hpos)
    obtain ⟨u0, hu0⟩ : ∃ u0, u0 = ws[0] := ⟨_, rfl⟩
    have e1 : (ws.map mkB)[0]'(by simpa using hpos) = mkB u0 := by simp [hu0]
    have hlu : u0.length ≤ 1048576 := by rw [hu0]; exact hmem _ (List.getElem_mem _)
    have HU : Hid (ws.headD [] = u0) := by
      show ws.headD [] = u0
      rw [hu0]
      cases ws with
      | nil => simp at hpos
      | cons c r => rfl
    rw [e1] at c0
    clear e1 hu0
    have hra := readAddr_any (mkB u0) wp (by rw [mkB_size]; exact hlu)
    rw [mkB_toList] at hra
    obtain ⟨A, hA⟩ : ∃ A, A = readAddrL u0 := ⟨_, rfl⟩
    rw [← hA] at hra
    have HA : Hid (readAddrL (ws.headD []) = A) := by show readAddrL (ws.headD []) = A; rw [HU.out, hA]
    clear hA
    have hnp : (0 : Int) < (n : Int) := by omega
    obtain ⟨q1, q2, q3, q4⟩ := pP
    have pP : PairAt wp P 0 32 := ⟨q1, q2, q3, q4⟩
    clear q1 q2 q3 q4
    go_upto_region 6 with (go_at_call 18; refine hra.mono ?_; rintro e w2 ⟨rfl, b2⟩; obtain ⟨q1, q2, q3, q4⟩ := pP.below zwp b2)
    have pP3 := (pP.below zwp b2).set0 A
    have pR3 := (pR.below pR.lt b2).other (c := P) (off := 0) (by omega) (.int .i64 A)
    have bw3 := (bw2.trans (b2.mono bw2.size)).setCell (p := ⟨P, 0, none⟩) (Nat.le_of_lt zw1) (.int .i64 A)
    have cg : ∀ j (h : j < (ws.map mkB).length), (w2.setCell ⟨P, 0, none⟩ (.int .i64 A)).cell? ⟨g, j, none⟩ = some (.string (ws.map mkB)[j]) := by
      intro j h
      rw [World.cell?_setCell_other w2 _ _ _ (fun h => absurd (congrArg Addr.block h) (by simp; omega)), b2.cell (p := ⟨g, j, none⟩) (Nat.lt_trans hg1 zwp)]
      exact own2.cell HN.out j h
    obtain ⟨w3, hw3⟩ : ∃ w3, w2.setCell ⟨P, 0, none⟩ (.int .i64 A) = w3 := ⟨_, rfl⟩
    rw [hw3] at pP3 pR3 bw3 ⊢
    simp only [hw3] at cg
    clear hw3 q1 q2 q3 q4 pP pR bw2 b2 own2 c0 hra
    rcases hq : ((n : Int) == 2) with _ | _
    · have hl2 : ¬ ws.length = 2 := by
        have : ¬ (n : Int) = 2 := by simpa using hq
        omega
      clear cg
      obtain ⟨p1, p2, p3, p4⟩ := pP3
      have pP4 : PairAt w3 P A (32 : Int) := ⟨p1, p2, p3, p4⟩
      have hE0 := HE.out
      rw [HA.out, if_neg hl2] at hE0
      have HE4 : Hid (rp = if 2 < ws.length ∨ (32 : Int) < 1 ∨ prefE A 32 ≠ 0 then (0, 0, false) else (A, 32, true)) := hE0
      clear hE0
      have hpr := refPrefix_any A 32 w3
      generalize prefE A 32 = pe at hpr HE4
      go_upto_region 9 with (go_at_call 20; refine hpr.mono ?_; rintro e w5 ⟨rfl, b5⟩)
      have pP5 := pP4.below pP4.lt b5
      have pR5 := pR3.below pR3.lt b5
      have bw5 : Below w.heap.size w w5 := bw3.trans (b5.mono bw3.size)
      obtain ⟨s1, s2, s3, s4⟩ := pP5
      obtain ⟨t1, t2, t3, t4⟩ := pR5
      have bwe := fun (a b : Int) => (bw5.setCell (p := ⟨w.heap.size, 0, none⟩) (Nat.le_refl _) (.int .i64 a)).setCell (p := ⟨w.heap.size, 1, none⟩) (Nat.le_refl _) (.int .i64 b)
      clear p1 p2 p3 p4 pP4 hpr b5
      by_cases bad : 2 < ws.length ∨ (32 : Int) < 1 ∨ ¬ pe = 0
      · have hb := HE4.out
        rw [if_pos bad] at hb
        subst hb
        clear HE4 HE
        by_cases d1 : 2 < (n : Int)
        · go_wp2_with fail
          exact bodyPost_ret (v := .tuple #[.agg #[.int .i64 0, .int .i64 0], .bool false]) (by simp [results, Tryd.results24, go_sem, t1, t2]) rfl ⟨rfl, bwe 0 0⟩
        have d3 : (pe != 0) = true := by
          have : ¬ pe = 0 := by omega
          simpa [bne] using this
        clear bad
        go_wp2_with fail
        exact bodyPost_ret (v := .tuple #[.agg #[.int .i64 0, .int .i64 0], .bool false]) (by simp [results, Tryd.results24, go_sem, t1, t2]) rfl ⟨rfl, bwe 0 0⟩
      · have hb := HE4.out
        rw [if_neg bad] at hb
        subst hb
        clear HE4 HE
        have d1 : (n : Int) ≤ 2 := by omega
        have d3 : (pe != 0) = false := by
          have : pe = 0 := by omega
          simp [this]
        clear bad
        go_wp2_with fail
        exact bodyPost_ret (v := .tuple #[.agg #[.int .i64 A, .int .i64 32], .bool true]) (by simp [results, Tryd.results24, go_sem, t1, t2]) rfl ⟨rfl, bwe A 32⟩
    · have hl2 : ws.length = 2 := by
        have : (n : Int) = 2 := by simpa using hq
        omega
      have c1 := cg 1 (by simp [hl2])
      obtain ⟨u1, hu1⟩ : ∃ u1, u1 = ws.getD 1 [] := ⟨_, rfl⟩
      have e1 : (ws.map mkB)[1]'(by simp [hl2]) = mkB u1 := by simp [hu1, List.getD, hl2]
      have hlu1 : u1.length ≤ 1048576 := by
        have : ws.getD 1 [] = ws[1] := by simp [List.getD, hl2]
        rw [hu1, this]; exact hmem _ (List.getElem_mem _)
      rw [e1] at c1
      have hwh := whole_mk u1 2 w3 (by omega) (by omega) hlu1
      obtain ⟨L, hL⟩ : ∃ L, L = wholeL u1 2 := ⟨_, rfl⟩
      rw [← hL] at hwh
      have HL : Hid (wholeL (ws.getD 1 []) 2 = L) := by show wholeL (ws.getD 1 []) 2 = L; rw [← hu1, hL]
      clear cg e1 hu1 hL
      obtain ⟨q1, q2, q3, q4⟩ := pP3
      have pP3 : PairAt w3 P A 32 := ⟨q1, q2, q3, q4⟩
      have hn2' : (1 : Int) < (n : Int) := by omega
      go_upto_region 8 with (go_at_call 46; refine hwh.mono ?_; rintro e w3 ⟨rfl, rfl⟩)
      have pP4' := pP3.set1 L
      have pR4' := pR3.other (c := P) (off := 1) (by omega) (.int .i64 L)
      have bw4' := bw3.setCell (p := ⟨P, 1, none⟩) (Nat.le_of_lt zw1) (.int .i64 L)
      obtain ⟨w4, hw4⟩ : ∃ w4, w3.setCell ⟨P, 1, none⟩ (.int .i64 L) = w4 := ⟨_, rfl⟩
      rw [hw4] at pP4' pR4' bw4' ⊢
      clear hw4 q1 q2 q3 q4 pP3 pR3 bw3 c1 hwh
      obtain ⟨p1, p2, p3, p4⟩ := pP4'
      have pP4 : PairAt w4 P A L := ⟨p1, p2, p3, p4⟩
      have hE0 := HE.out
      rw [HA.out, if_pos hl2, HL.out] at hE0
      have HE4 : Hid (rp = if 2 < ws.length ∨ L < 1 ∨ prefE A L ≠ 0 then (0, 0, false) else (A, L, true)) := hE0
      clear hE0
      have hpr := refPrefix_any A L w4
      generalize prefE A L = pe at hpr HE4
      go_upto_region 9 with (go_at_call 20; refine hpr.mono ?_; rintro e w5 ⟨rfl, b5⟩)
      have pP5 := pP4.below pP4.lt b5
      have pR5 := pR4'.below pR4'.lt b5
      have bw5 : Below w.heap.size w w5 := bw4'.trans (b5.mono bw4'.size)
      obtain ⟨s1, s2, s3, s4⟩ := pP5
      obtain ⟨t1, t2, t3, t4⟩ := pR5
      have bwe := fun (a b : Int) => (bw5.setCell (p := ⟨w.heap.size, 0, none⟩) (Nat.le_refl _) (.int .i64 a)).setCell (p := ⟨w.heap.size, 1, none⟩) (Nat.le_refl _) (.int .i64 b)
      clear p1 p2 p3 p4 pP4 hpr b5
      by_cases bad : 2 < ws.length ∨ L < 1 ∨ ¬ pe = 0
      · have hb := HE4.out
        rw [if_pos bad] at hb
        subst hb
        clear HE4 HE
        have d1 : (n : Int) ≤ 2 := by omega
        by_cases d2 : L < 1
        · go_wp2_with fail
          exact bodyPost_ret (v := .tuple #[.agg #[.int .i64 0, .int .i64 0], .bool false]) (by simp [results, Tryd.results24, go_sem, t1, t2]) rfl ⟨rfl, bwe 0 0⟩
        have d3 : (pe != 0) = true := by
          have : ¬ pe = 0 := by omega
          simpa [bne] using this
        clear bad
        go_wp2_with fail
        exact bodyPost_ret (v := .tuple #[.agg #[.int .i64 0, .int .i64 0], .bool false]) (by simp [results, Tryd.results24, go_sem, t1, t2]) rfl ⟨rfl, bwe 0 0⟩
      · have hb := HE4.out
        rw [if_neg bad] at hb
        subst hb
        clear HE4 HE
        have d1 : (n : Int) ≤ 2 := by omega
        have d2 : 1 ≤ L := by omega
        have d3 : (pe != 0) = false := by
          have : pe = 0 := by omega
          simp [this]
        clear bad
        go_wp2_with fail
        exact bodyPost_ret (v := .tuple #[.agg #[.int .i64 A, .int .i64 L], .bool true]) (by simp [results, Tryd.results24, go_sem, t1, t2]) rfl ⟨rfl, bwe A L⟩
  · have HE : Hid (readPrefL s.data.toList = (0, 0, true)) := by
      show readPrefL s.data.toList = (0, 0, true)
      unfold readPrefL
      rw [if_pos (by rw [← ByteArray.toList_eq]; simpa using hany)]
    rw [HE.out]
    go_enter Tryd.func24, Tryd.ntmps24
    go_wp2
    exact bodyPost_ret (v := .tuple #[.agg #[.int .i64 0, .int .i64 0], .bool true]) (by simp [results, Tryd.results24, go_sem]) rfl ⟨rfl, (Below.refl _ _).alloc (Nat.le_refl _) _⟩
end Go.Proofs.YtkjjalaelehjeaaDoor
