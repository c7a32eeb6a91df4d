/- The law FragPieces of package portlaw4 returns true, for every packet and every size; the walk of its text. -/
import Derived.Test.YtlfckmigbeanhadFragSplit
import Derived.Test.YtlfckmigbeanhadWireSame
import Derived.Deep.RegionHeld3
namespace Go.Proofs.Ytlfckmigbeanhad
open Go.RowKit
set_option linter.unusedVariables false

theorem far_len {p : Pk} {size : Int} (h : ¬ (size < 8 ∨ 4000 < size)) (he : pkErr p = 0) (hf : ¬ splitE p size = 0) : 262136 < 8 * p.pos + (p.body.length : Int) := by
  by_cases hx : 32767 < p.pos + (fK p.body.length size.toNat : Int) * (size.toNat / 8 : Nat)
  · have hp := (of_pkIn (pkErr_ok he).1).2.2.2.2.2
    have hK : 0 < fK p.body.length size.toNat := by
      rcases Nat.eq_zero_or_pos (fK p.body.length size.toNat) with h0 | h0
      · rw [h0] at hx; simp at hx; omega
      · exact h0
    have h1 := fK_le (len := p.body.length) (size := size.toNat) (k := fK p.body.length size.toNat - 1) (by omega) (by omega)
    have e : fK p.body.length size.toNat * (8 * (size.toNat / 8)) = (fK p.body.length size.toNat - 1) * (8 * (size.toNat / 8)) + 8 * (size.toNat / 8) := by
      rw [← Nat.add_one_mul]; congr 1; omega
    have e2 : ((fK p.body.length size.toNat * (8 * (size.toNat / 8)) : Nat) : Int) = 8 * ((fK p.body.length size.toNat : Int) * (size.toNat / 8 : Nat)) := by
      rw [Nat.mul_left_comm]; simp
    omega
  · exact absurd (splitE_ok h he hx) hf

set_option maxRecDepth 100000 in
set_option maxHeartbeats 8000000 in
theorem pieces_no (p : Pk) (bv : Value) (size : Int) (w : World) (hb : Bytes w bv p.body) (hE : ¬ splitE p size = 0) :
    Calls Try.prog 3 #[pkV p bv, .int .i64 size] w fun e w' => e = .returned (.bool true) ∧ Below w.heap.size w w' := by
  have hbox := boxed w p bv hb
  have hsp := split_any p bv size _ (hb.alloc (.cells #[.int .i64 p.kind, .int .i64 p.ttl, .int .i64 p.ident, .int .i64 p.src, .int .i64 p.dst, .int .i64 p.pos, .bool p.more, bv] 24))
  obtain ⟨a, c, hbv⟩ := len_body hb
  subst hbv
  have hsp2 : Calls Try.prog 4 #[pkV p (.slice a p.body.length c), .int .i64 size] (w.alloc (.cells #[.int .i64 p.kind, .int .i64 p.ttl, .int .i64 p.ident, .int .i64 p.src, .int .i64 p.dst, .int .i64 p.pos, .bool p.more, .slice a p.body.length c] 24)) fun e w1 => (∃ a1 c1, e = .returned (.tuple #[.slice a1 0 c1, .iface 33 (.int .i64 (splitE p size))])) ∧ PkAt w1 w.heap.size p (.slice a p.body.length c) ∧ Bytes w1 (.slice a p.body.length c) p.body ∧ Below w.heap.size w w1 := by
    refine hsp.mono ?_
    rintro e w1 ⟨v, qs, rfl, hq, hk, _, hw⟩
    obtain ⟨h1, h2, h3, _⟩ := hbox w1 hw
    have hq0 : qs = [] := by
      have : splitL p size = [] := by unfold splitL; rw [if_neg hE]
      rw [this] at hq; exact List.map_eq_nil_iff.1 hq
    subst hq0
    obtain ⟨a1, c1, rfl⟩ := hk.len
    exact ⟨⟨a1, c1, by unfold errV; rw [if_neg hE]; rfl⟩, h1, h2, h3⟩
  clear hsp hbox
  unfold pkV at hsp2 ⊢
  have HE : Hid (¬ splitE p size = 0) := hE
  have HEQ : Hid (splitE p size = splitE p size) := rfl
  by_cases h8 : size < 8
  · generalize splitE p size = n at hsp2
    clear hb hE
    go_enter Try.func3, Try.ntmps3
    go_wp2_with (go_at_call 4; refine hsp2.mono ?_; rintro e w1 ⟨⟨a1, c1, rfl⟩, h1, h2, h3⟩)
    go_ret
    exact ⟨rfl, h3⟩
  · by_cases h4 : 4000 < size
    · generalize splitE p size = n at hsp2
      clear hb hE
      go_enter Try.func3, Try.ntmps3
      go_wp2_with (go_at_call 4; refine hsp2.mono ?_; rintro e w1 ⟨⟨a1, c1, rfl⟩, h1, h2, h3⟩)
      go_ret
      exact ⟨rfl, h3⟩
    · by_cases he : pkErr p = 0
      · have hfar := far_len (by omega) he hE
        have hp := (of_pkIn (pkErr_ok he).1).2.2.2.2.2
        have hl := (pkErr_ok he).2
        have HE0 : Hid (pkErr p = 0) := he
        obtain ⟨L, hL⟩ : ∃ L, p.body.length = L := ⟨_, rfl⟩
        have HL : Hid (p.body.length = L) := hL
        generalize splitE p size = n at hsp2
        rw [hL] at hsp2 hfar hl ⊢
        clear hb hE he hL HEQ
        go_enter Try.func3, Try.ntmps3
        go_wp2_with (first
          | (go_at_call 4; refine hsp2.mono ?_; rintro e w1 ⟨⟨a1, c1, rfl⟩, h1, h2, h3⟩; obtain ⟨d0, d1, d2, d3, d4, d5, d6, d7⟩ := h1.cells; have hck := check_any p (.slice a L c) w1 h2; rw [HE0.out, show errV 0 = .nilIface from rfl] at hck; unfold pkV at hck)
          | (go_at_call 5; refine hck.mono ?_; rintro e w2 ⟨rfl, bw2⟩; have hp2 := h1.below h1.lt bw2; obtain ⟨_, _, _, _, _, y5, _, y7⟩ := hp2.cells; clear d0 d1 d2 d3 d4 d5 d6 d7))
        go_ret
        exact ⟨rfl, h3.trans (bw2.mono h3.size)⟩
      · generalize splitE p size = n at hsp2
        have HE0 : Hid (¬ pkErr p = 0) := he
        obtain ⟨L, hL⟩ : ∃ L, p.body.length = L := ⟨_, rfl⟩
        rw [hL] at hsp2 ⊢
        clear hb hE he hL HEQ
        go_enter Try.func3, Try.ntmps3
        go_wp2_with (first
          | (go_at_call 4; refine hsp2.mono ?_; rintro e w1 ⟨⟨a1, c1, rfl⟩, h1, h2, h3⟩; obtain ⟨d0, d1, d2, d3, d4, d5, d6, d7⟩ := h1.cells; have hck := check_any p (.slice a L c) w1 h2; rw [show errV (pkErr p) = .iface 33 (.int .i64 (pkErr p)) by unfold errV; rw [if_neg HE0.out]] at hck; unfold pkV at hck; generalize pkErr p = m at hck)
          | (go_at_call 5; refine hck.mono ?_; rintro e w2 ⟨rfl, bw2⟩; clear d0 d1 d2 d3 d4 d5 d6 d7))
        go_ret
        exact ⟨rfl, h3.trans (bw2.mono h3.size)⟩
end Go.Proofs.Ytlfckmigbeanhad
