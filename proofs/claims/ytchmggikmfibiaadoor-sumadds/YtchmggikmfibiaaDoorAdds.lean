/- The law SumAdds of package portlaw1 returns true, for every bytes and every five numbers; the walk of its text. -/
import Derived.Test.YtchmggikmfibiaaDoorFace
import Derived.WalkSmall
namespace Go.Proofs.YtchmggikmfibiaaDoor
open Go.RowKit
set_option linter.unusedVariables false

theorem ErrLaid.drewN {w : World} (h : ErrLaid w) (n : Nat) : ErrLaid (w.drewN n) := by
  unfold ErrLaid at *; simpa using h
theorem full_measure {n size m : Int} (hm : m < full n size) : (full n size - (m + 1)).toNat < (full n size - m).toNat := by omega
theorem full_next {n size m : Int} (h0 : 0 ≤ n) (h1 : 1 ≤ size) (ha : n ≤ m) (hb : m ≤ full n size) (hm : (m % size == 0) = false) : m + 1 ≤ full n size := by
  rcases Int.lt_or_eq_of_le hb with h | h
  · omega
  · exfalso
    have e : full n size % size = 0 := by unfold full; exact Int.mul_emod_left _ _
    rw [← h] at e
    simp [e] at hm

set_option maxHeartbeats 4000000 in
theorem adds_ttt (v : Value) (zs : List Int) (x y z n size : Int) (w : World) (hv : Bytes w v zs) (hg : ErrLaid w)
    (hx : word x = true) (hy : word y = true) (hz : word z = true) :
    Calls Tryd.prog 3 #[v, .int .i64 x, .int .i64 y, .int .i64 z, .int .i64 n, .int .i64 size] w fun e w' => e = .returned (.bool true) ∧ Below w.heap.size w w' := by
  have ht := hv.tot
  have rx := of_word hx
  have ry := of_word hy
  have rz := of_word hz
  have r4 := addS_range (a := 65535 - x) (b := 65535 - y) (by omega) (by omega) (by omega) (by omega)
  have r5 := addS_range (a := addS (65535 - x) (65535 - y)) (b := z) (by omega) (by omega) (by omega) (by omega)
  go_enter Tryd.func3, Tryd.ntmps3
  go_wp2_with (first
    | (go_at_call 4; refine (sum_bytes hv).mono ?_; rintro e w' ⟨rfl, n1, rfl⟩)
    | (go_at_call 5; refine (refTotal_bytes (hv.drewN _)).mono ?_; rintro e w' ⟨rfl, rfl⟩)
    | (go_at_call 6; refine (valid_bytes (hv.drewN _)).mono ?_; rintro e w' ⟨rfl, n2, rfl⟩)
    | (go_at_call 7; refine (refWord_any _ _).mono ?_; rintro e w' ⟨rfl, rfl⟩)
    | (go_at_call 8; refine (refAdd_any _ _ _ (by omega) (by omega) (by omega) (by omega)).mono ?_; rintro e w' ⟨rfl, rfl⟩)
    | (go_at_call 9; refine (sumAdd_yes _ _ _ hx hy).mono ?_; rintro e w' ⟨rfl, rfl⟩))
  have b0 : Below w.heap.size w (w.drewN (n1 + n2)) := below_drewN (Below.refl _ _) _
  refine (error_val (.inl ⟨rfl, rfl⟩) _ _ (hg.drewN _)).mono ?_
  rintro e w1 ⟨rfl, hb1⟩
  have b1 : Below w.heap.size w w1 := b0.trans (by simpa using hb1)
  have g1 := hg.below b1
  clear hb1 b0
  go_wp2_with (first
    | (go_at_call 8; refine (refAdd_any _ _ _ (by omega) (by omega) (by omega) (by omega)).mono ?_; rintro e w' ⟨rfl, rfl⟩)
    | (go_at_call 11; refine (update_yes _ _ _ _ hx hy hz).mono ?_; rintro e w' ⟨rfl, rfl⟩))
  refine (error_val (.inl ⟨rfl, rfl⟩) _ _ g1).mono ?_
  rintro e w2 ⟨rfl, hb2⟩
  have b2 : Below w.heap.size w w2 := b1.trans (hb2.mono b1.size)
  have g2 := hg.below b2
  clear hb2 b1 g1
  by_cases ok : 0 ≤ n ∧ n ≤ 1000000 ∧ 1 ≤ size ∧ size ≤ 64
  · obtain ⟨o0, o1, o2, o3⟩ := ok
    have fr := full_range o0 o2
    go_wp2_with fail
    go_loop [17] (fun t => ∃ m : Int, t = .int .i64 m ∧ n ≤ m ∧ m ≤ full n size) (fun t => (full n size - intOf t).toNat)
    case atStart => exact ⟨n, rfl, by omega, by omega⟩
    case round =>
      obtain ⟨m, rfl, m0, m1⟩ := hrel
      rcases hm : (m % size == 0) with _ | _
      · have hne : (m % size != 0) = true := by simp [bne, hm]
        have nx := full_next o0 o2 m0 m1 hm
        have ms : Hid ((full n size - (m + 1)).toNat < (full n size - m).toNat) := full_measure (by omega)
        clear hm
        go_wp2_with fail
        go_round
        case rel => exact ⟨m + 1, rfl, by omega, by omega⟩
        case measure => exact ms.out
      · have hne : (m % size != 0) = false := by simp [bne, hm]
        obtain rfl := full_is o0 o2 (by simpa using hm) m0 m1
        clear hm
        go_wp2_with (go_at_call 12; refine (pad_yes _ _ _ o0 o1 o2 o3).mono ?_; rintro e w' ⟨rfl, rfl⟩)
        refine (error_val (.inl ⟨rfl, rfl⟩) _ _ g2).mono ?_
        rintro e w3 ⟨rfl, hb3⟩
        go_wp2_with fail
        go_ret
        exact ⟨rfl, b2.trans (hb3.mono b2.size)⟩
  · have hp := fun ww => pad_no n size ww ok
    by_cases c1 : n < 0
    · clear ok
      go_wp2_with (go_at_call 12; refine (hp _).mono ?_; rintro e w' ⟨rfl, rfl⟩)
      refine (error_val (.inr rfl) _ _ g2).mono ?_
      rintro e w3 ⟨rfl, hb3⟩
      go_wp2_with fail
      go_ret
      exact ⟨rfl, b2.trans (hb3.mono b2.size)⟩
    by_cases c2 : 1000000 < n
    · clear ok
      go_wp2_with (go_at_call 12; refine (hp _).mono ?_; rintro e w' ⟨rfl, rfl⟩)
      refine (error_val (.inr rfl) _ _ g2).mono ?_
      rintro e w3 ⟨rfl, hb3⟩
      go_wp2_with fail
      go_ret
      exact ⟨rfl, b2.trans (hb3.mono b2.size)⟩
    by_cases c3 : size < 1
    · clear ok
      go_wp2_with (go_at_call 12; refine (hp _).mono ?_; rintro e w' ⟨rfl, rfl⟩)
      refine (error_val (.inr rfl) _ _ g2).mono ?_
      rintro e w3 ⟨rfl, hb3⟩
      go_wp2_with fail
      go_ret
      exact ⟨rfl, b2.trans (hb3.mono b2.size)⟩
    have c4 : 64 < size := by omega
    clear ok
    go_wp2_with (go_at_call 12; refine (hp _).mono ?_; rintro e w' ⟨rfl, rfl⟩)
    refine (error_val (.inr rfl) _ _ g2).mono ?_
    rintro e w3 ⟨rfl, hb3⟩
    go_wp2_with fail
    go_ret
    exact ⟨rfl, b2.trans (hb3.mono b2.size)⟩

set_option maxHeartbeats 4000000 in
theorem adds_ttf (v : Value) (zs : List Int) (x y z n size : Int) (w : World) (hv : Bytes w v zs) (hg : ErrLaid w)
    (hx : word x = true) (hy : word y = true) (hz : word z = false) :
    Calls Tryd.prog 3 #[v, .int .i64 x, .int .i64 y, .int .i64 z, .int .i64 n, .int .i64 size] w fun e w' => e = .returned (.bool true) ∧ Below w.heap.size w w' := by
  have ht := hv.tot
  have rx := of_word hx
  have ry := of_word hy
  go_enter Tryd.func3, Tryd.ntmps3
  go_wp2_with (first
    | (go_at_call 4; refine (sum_bytes hv).mono ?_; rintro e w' ⟨rfl, n1, rfl⟩)
    | (go_at_call 5; refine (refTotal_bytes (hv.drewN _)).mono ?_; rintro e w' ⟨rfl, rfl⟩)
    | (go_at_call 6; refine (valid_bytes (hv.drewN _)).mono ?_; rintro e w' ⟨rfl, n2, rfl⟩)
    | (go_at_call 7; refine (refWord_any _ _).mono ?_; rintro e w' ⟨rfl, rfl⟩)
    | (go_at_call 8; refine (refAdd_any _ _ _ (by omega) (by omega) (by omega) (by omega)).mono ?_; rintro e w' ⟨rfl, rfl⟩)
    | (go_at_call 9; refine (sumAdd_yes _ _ _ hx hy).mono ?_; rintro e w' ⟨rfl, rfl⟩))
  have b0 : Below w.heap.size w (w.drewN (n1 + n2)) := below_drewN (Below.refl _ _) _
  refine (error_val (.inl ⟨rfl, rfl⟩) _ _ (hg.drewN _)).mono ?_
  rintro e w1 ⟨rfl, hb1⟩
  have b1 : Below w.heap.size w w1 := b0.trans (by simpa using hb1)
  have g1 := hg.below b1
  clear hb1 b0
  go_wp2_with (first
    | (go_at_call 8; refine (refAdd_any _ _ _ (by omega) (by omega) (by omega) (by omega)).mono ?_; rintro e w' ⟨rfl, rfl⟩)
    | (go_at_call 11; refine (update_no x y z _ (by simp [hx, hy, hz])).mono ?_; rintro e w' ⟨rfl, rfl⟩))
  refine (error_val (.inr rfl) _ _ g1).mono ?_
  rintro e w2 ⟨rfl, hb2⟩
  have b2 : Below w.heap.size w w2 := b1.trans (hb2.mono b1.size)
  have g2 := hg.below b2
  clear hb2 b1 g1
  by_cases ok : 0 ≤ n ∧ n ≤ 1000000 ∧ 1 ≤ size ∧ size ≤ 64
  · obtain ⟨o0, o1, o2, o3⟩ := ok
    have fr := full_range o0 o2
    go_wp2_with fail
    go_loop [17] (fun t => ∃ m : Int, t = .int .i64 m ∧ n ≤ m ∧ m ≤ full n size) (fun t => (full n size - intOf t).toNat)
    case atStart => exact ⟨n, rfl, by omega, by omega⟩
    case round =>
      obtain ⟨m, rfl, m0, m1⟩ := hrel
      rcases hm : (m % size == 0) with _ | _
      · have hne : (m % size != 0) = true := by simp [bne, hm]
        have nx := full_next o0 o2 m0 m1 hm
        have ms : Hid ((full n size - (m + 1)).toNat < (full n size - m).toNat) := full_measure (by omega)
        clear hm
        go_wp2_with fail
        go_round
        case rel => exact ⟨m + 1, rfl, by omega, by omega⟩
        case measure => exact ms.out
      · have hne : (m % size != 0) = false := by simp [bne, hm]
        obtain rfl := full_is o0 o2 (by simpa using hm) m0 m1
        clear hm
        go_wp2_with (go_at_call 12; refine (pad_yes _ _ _ o0 o1 o2 o3).mono ?_; rintro e w' ⟨rfl, rfl⟩)
        refine (error_val (.inl ⟨rfl, rfl⟩) _ _ g2).mono ?_
        rintro e w3 ⟨rfl, hb3⟩
        go_wp2_with fail
        go_ret
        exact ⟨rfl, b2.trans (hb3.mono b2.size)⟩
  · have hp := fun ww => pad_no n size ww ok
    by_cases c1 : n < 0
    · clear ok
      go_wp2_with (go_at_call 12; refine (hp _).mono ?_; rintro e w' ⟨rfl, rfl⟩)
      refine (error_val (.inr rfl) _ _ g2).mono ?_
      rintro e w3 ⟨rfl, hb3⟩
      go_wp2_with fail
      go_ret
      exact ⟨rfl, b2.trans (hb3.mono b2.size)⟩
    by_cases c2 : 1000000 < n
    · clear ok
      go_wp2_with (go_at_call 12; refine (hp _).mono ?_; rintro e w' ⟨rfl, rfl⟩)
      refine (error_val (.inr rfl) _ _ g2).mono ?_
      rintro e w3 ⟨rfl, hb3⟩
      go_wp2_with fail
      go_ret
      exact ⟨rfl, b2.trans (hb3.mono b2.size)⟩
    by_cases c3 : size < 1
    · clear ok
      go_wp2_with (go_at_call 12; refine (hp _).mono ?_; rintro e w' ⟨rfl, rfl⟩)
      refine (error_val (.inr rfl) _ _ g2).mono ?_
      rintro e w3 ⟨rfl, hb3⟩
      go_wp2_with fail
      go_ret
      exact ⟨rfl, b2.trans (hb3.mono b2.size)⟩
    have c4 : 64 < size := by omega
    clear ok
    go_wp2_with (go_at_call 12; refine (hp _).mono ?_; rintro e w' ⟨rfl, rfl⟩)
    refine (error_val (.inr rfl) _ _ g2).mono ?_
    rintro e w3 ⟨rfl, hb3⟩
    go_wp2_with fail
    go_ret
    exact ⟨rfl, b2.trans (hb3.mono b2.size)⟩

set_option maxHeartbeats 4000000 in
theorem adds_tf (v : Value) (zs : List Int) (x y z n size : Int) (w : World) (hv : Bytes w v zs) (hg : ErrLaid w)
    (hx : word x = true) (hy : word y = false) :
    Calls Tryd.prog 3 #[v, .int .i64 x, .int .i64 y, .int .i64 z, .int .i64 n, .int .i64 size] w fun e w' => e = .returned (.bool true) ∧ Below w.heap.size w w' := by
  have ht := hv.tot
  go_enter Tryd.func3, Tryd.ntmps3
  go_wp2_with (first
    | (go_at_call 4; refine (sum_bytes hv).mono ?_; rintro e w' ⟨rfl, n1, rfl⟩)
    | (go_at_call 5; refine (refTotal_bytes (hv.drewN _)).mono ?_; rintro e w' ⟨rfl, rfl⟩)
    | (go_at_call 6; refine (valid_bytes (hv.drewN _)).mono ?_; rintro e w' ⟨rfl, n2, rfl⟩)
    | (go_at_call 7; refine (refWord_any _ _).mono ?_; rintro e w' ⟨rfl, rfl⟩)
    | (go_at_call 8; refine (refAdd_any _ _ _ (by omega) (by omega) (by omega) (by omega)).mono ?_; rintro e w' ⟨rfl, rfl⟩)
    | (go_at_call 9; refine (sumAdd_no x y _ (by simp [hx, hy])).mono ?_; rintro e w' ⟨rfl, rfl⟩))
  have b0 : Below w.heap.size w (w.drewN (n1 + n2)) := below_drewN (Below.refl _ _) _
  refine (error_val (.inr rfl) _ _ (hg.drewN _)).mono ?_
  rintro e w1 ⟨rfl, hb1⟩
  have b1 : Below w.heap.size w w1 := b0.trans (by simpa using hb1)
  have g1 := hg.below b1
  clear hb1 b0
  go_wp2_with (first
    | (go_at_call 8; refine (refAdd_any _ _ _ (by omega) (by omega) (by omega) (by omega)).mono ?_; rintro e w' ⟨rfl, rfl⟩)
    | (go_at_call 11; refine (update_no x y z _ (by simp [hx, hy])).mono ?_; rintro e w' ⟨rfl, rfl⟩))
  refine (error_val (.inr rfl) _ _ g1).mono ?_
  rintro e w2 ⟨rfl, hb2⟩
  have b2 : Below w.heap.size w w2 := b1.trans (hb2.mono b1.size)
  have g2 := hg.below b2
  clear hb2 b1 g1
  by_cases ok : 0 ≤ n ∧ n ≤ 1000000 ∧ 1 ≤ size ∧ size ≤ 64
  · obtain ⟨o0, o1, o2, o3⟩ := ok
    have fr := full_range o0 o2
    go_wp2_with fail
    go_loop [17] (fun t => ∃ m : Int, t = .int .i64 m ∧ n ≤ m ∧ m ≤ full n size) (fun t => (full n size - intOf t).toNat)
    case atStart => exact ⟨n, rfl, by omega, by omega⟩
    case round =>
      obtain ⟨m, rfl, m0, m1⟩ := hrel
      rcases hm : (m % size == 0) with _ | _
      · have hne : (m % size != 0) = true := by simp [bne, hm]
        have nx := full_next o0 o2 m0 m1 hm
        have ms : Hid ((full n size - (m + 1)).toNat < (full n size - m).toNat) := full_measure (by omega)
        clear hm
        go_wp2_with fail
        go_round
        case rel => exact ⟨m + 1, rfl, by omega, by omega⟩
        case measure => exact ms.out
      · have hne : (m % size != 0) = false := by simp [bne, hm]
        obtain rfl := full_is o0 o2 (by simpa using hm) m0 m1
        clear hm
        go_wp2_with (go_at_call 12; refine (pad_yes _ _ _ o0 o1 o2 o3).mono ?_; rintro e w' ⟨rfl, rfl⟩)
        refine (error_val (.inl ⟨rfl, rfl⟩) _ _ g2).mono ?_
        rintro e w3 ⟨rfl, hb3⟩
        go_wp2_with fail
        go_ret
        exact ⟨rfl, b2.trans (hb3.mono b2.size)⟩
  · have hp := fun ww => pad_no n size ww ok
    by_cases c1 : n < 0
    · clear ok
      go_wp2_with (go_at_call 12; refine (hp _).mono ?_; rintro e w' ⟨rfl, rfl⟩)
      refine (error_val (.inr rfl) _ _ g2).mono ?_
      rintro e w3 ⟨rfl, hb3⟩
      go_wp2_with fail
      go_ret
      exact ⟨rfl, b2.trans (hb3.mono b2.size)⟩
    by_cases c2 : 1000000 < n
    · clear ok
      go_wp2_with (go_at_call 12; refine (hp _).mono ?_; rintro e w' ⟨rfl, rfl⟩)
      refine (error_val (.inr rfl) _ _ g2).mono ?_
      rintro e w3 ⟨rfl, hb3⟩
      go_wp2_with fail
      go_ret
      exact ⟨rfl, b2.trans (hb3.mono b2.size)⟩
    by_cases c3 : size < 1
    · clear ok
      go_wp2_with (go_at_call 12; refine (hp _).mono ?_; rintro e w' ⟨rfl, rfl⟩)
      refine (error_val (.inr rfl) _ _ g2).mono ?_
      rintro e w3 ⟨rfl, hb3⟩
      go_wp2_with fail
      go_ret
      exact ⟨rfl, b2.trans (hb3.mono b2.size)⟩
    have c4 : 64 < size := by omega
    clear ok
    go_wp2_with (go_at_call 12; refine (hp _).mono ?_; rintro e w' ⟨rfl, rfl⟩)
    refine (error_val (.inr rfl) _ _ g2).mono ?_
    rintro e w3 ⟨rfl, hb3⟩
    go_wp2_with fail
    go_ret
    exact ⟨rfl, b2.trans (hb3.mono b2.size)⟩

set_option maxHeartbeats 4000000 in
theorem adds_f (v : Value) (zs : List Int) (x y z n size : Int) (w : World) (hv : Bytes w v zs) (hg : ErrLaid w)
    (hx : word x = false) :
    Calls Tryd.prog 3 #[v, .int .i64 x, .int .i64 y, .int .i64 z, .int .i64 n, .int .i64 size] w fun e w' => e = .returned (.bool true) ∧ Below w.heap.size w w' := by
  have ht := hv.tot
  go_enter Tryd.func3, Tryd.ntmps3
  go_wp2_with (first
    | (go_at_call 4; refine (sum_bytes hv).mono ?_; rintro e w' ⟨rfl, n1, rfl⟩)
    | (go_at_call 5; refine (refTotal_bytes (hv.drewN _)).mono ?_; rintro e w' ⟨rfl, rfl⟩)
    | (go_at_call 6; refine (valid_bytes (hv.drewN _)).mono ?_; rintro e w' ⟨rfl, n2, rfl⟩)
    | (go_at_call 7; refine (refWord_any _ _).mono ?_; rintro e w' ⟨rfl, rfl⟩)
    | (go_at_call 8; refine (refAdd_any _ _ _ (by omega) (by omega) (by omega) (by omega)).mono ?_; rintro e w' ⟨rfl, rfl⟩)
    | (go_at_call 9; refine (sumAdd_no x y _ (by simp [hx])).mono ?_; rintro e w' ⟨rfl, rfl⟩))
  have b0 : Below w.heap.size w (w.drewN (n1 + n2)) := below_drewN (Below.refl _ _) _
  refine (error_val (.inr rfl) _ _ (hg.drewN _)).mono ?_
  rintro e w1 ⟨rfl, hb1⟩
  have b1 : Below w.heap.size w w1 := b0.trans (by simpa using hb1)
  have g1 := hg.below b1
  clear hb1 b0
  go_wp2_with (first
    | (go_at_call 8; refine (refAdd_any _ _ _ (by omega) (by omega) (by omega) (by omega)).mono ?_; rintro e w' ⟨rfl, rfl⟩)
    | (go_at_call 11; refine (update_no x y z _ (by simp [hx])).mono ?_; rintro e w' ⟨rfl, rfl⟩))
  refine (error_val (.inr rfl) _ _ g1).mono ?_
  rintro e w2 ⟨rfl, hb2⟩
  have b2 : Below w.heap.size w w2 := b1.trans (hb2.mono b1.size)
  have g2 := hg.below b2
  clear hb2 b1 g1
  by_cases ok : 0 ≤ n ∧ n ≤ 1000000 ∧ 1 ≤ size ∧ size ≤ 64
  · obtain ⟨o0, o1, o2, o3⟩ := ok
    have fr := full_range o0 o2
    go_wp2_with fail
    go_loop [17] (fun t => ∃ m : Int, t = .int .i64 m ∧ n ≤ m ∧ m ≤ full n size) (fun t => (full n size - intOf t).toNat)
    case atStart => exact ⟨n, rfl, by omega, by omega⟩
    case round =>
      obtain ⟨m, rfl, m0, m1⟩ := hrel
      rcases hm : (m % size == 0) with _ | _
      · have hne : (m % size != 0) = true := by simp [bne, hm]
        have nx := full_next o0 o2 m0 m1 hm
        have ms : Hid ((full n size - (m + 1)).toNat < (full n size - m).toNat) := full_measure (by omega)
        clear hm
        go_wp2_with fail
        go_round
        case rel => exact ⟨m + 1, rfl, by omega, by omega⟩
        case measure => exact ms.out
      · have hne : (m % size != 0) = false := by simp [bne, hm]
        obtain rfl := full_is o0 o2 (by simpa using hm) m0 m1
        clear hm
        go_wp2_with (go_at_call 12; refine (pad_yes _ _ _ o0 o1 o2 o3).mono ?_; rintro e w' ⟨rfl, rfl⟩)
        refine (error_val (.inl ⟨rfl, rfl⟩) _ _ g2).mono ?_
        rintro e w3 ⟨rfl, hb3⟩
        go_wp2_with fail
        go_ret
        exact ⟨rfl, b2.trans (hb3.mono b2.size)⟩
  · have hp := fun ww => pad_no n size ww ok
    by_cases c1 : n < 0
    · clear ok
      go_wp2_with (go_at_call 12; refine (hp _).mono ?_; rintro e w' ⟨rfl, rfl⟩)
      refine (error_val (.inr rfl) _ _ g2).mono ?_
      rintro e w3 ⟨rfl, hb3⟩
      go_wp2_with fail
      go_ret
      exact ⟨rfl, b2.trans (hb3.mono b2.size)⟩
    by_cases c2 : 1000000 < n
    · clear ok
      go_wp2_with (go_at_call 12; refine (hp _).mono ?_; rintro e w' ⟨rfl, rfl⟩)
      refine (error_val (.inr rfl) _ _ g2).mono ?_
      rintro e w3 ⟨rfl, hb3⟩
      go_wp2_with fail
      go_ret
      exact ⟨rfl, b2.trans (hb3.mono b2.size)⟩
    by_cases c3 : size < 1
    · clear ok
      go_wp2_with (go_at_call 12; refine (hp _).mono ?_; rintro e w' ⟨rfl, rfl⟩)
      refine (error_val (.inr rfl) _ _ g2).mono ?_
      rintro e w3 ⟨rfl, hb3⟩
      go_wp2_with fail
      go_ret
      exact ⟨rfl, b2.trans (hb3.mono b2.size)⟩
    have c4 : 64 < size := by omega
    clear ok
    go_wp2_with (go_at_call 12; refine (hp _).mono ?_; rintro e w' ⟨rfl, rfl⟩)
    refine (error_val (.inr rfl) _ _ g2).mono ?_
    rintro e w3 ⟨rfl, hb3⟩
    go_wp2_with fail
    go_ret
    exact ⟨rfl, b2.trans (hb3.mono b2.size)⟩

theorem adds_any (v : Value) (zs : List Int) (x y z n size : Int) (w : World) (hv : Bytes w v zs) (hg : ErrLaid w) :
    Calls Tryd.prog 3 #[v, .int .i64 x, .int .i64 y, .int .i64 z, .int .i64 n, .int .i64 size] w fun e w' => e = .returned (.bool true) ∧ Below w.heap.size w w' := by
  rcases hx : word x with _ | _
  · exact adds_f v zs x y z n size w hv hg hx
  · rcases hy : word y with _ | _
    · exact adds_tf v zs x y z n size w hv hg hx hy
    · rcases hz : word z with _ | _
      · exact adds_ttf v zs x y z n size w hv hg hx hy hz
      · exact adds_ttt v zs x y z n size w hv hg hx hy hz
/-- As the row hands it. -/
theorem adds_row (v : Value) (zs : List Int) (x y z n size : Int) (w : World) {cap : Nat} (hv : Bytes w v zs) (hc : cap ≤ reachBytes) (hx : (Lit.int .i64 x).wf = true) (hy : (Lit.int .i64 y).wf = true) (hz : (Lit.int .i64 z).wf = true) (hn : (Lit.int .i64 n).wf = true) (hs : (Lit.int .i64 size).wf = true) (hg : ErrLaid w) :
    Calls Tryd.prog 3 #[v, .int .i64 x, .int .i64 y, .int .i64 z, .int .i64 n, .int .i64 size] w fun e w' => e = .returned (.bool true) ∧ Below w.heap.size w w' :=
  adds_any v zs x y z n size w hv hg
end Go.Proofs.YtchmggikmfibiaaDoor
