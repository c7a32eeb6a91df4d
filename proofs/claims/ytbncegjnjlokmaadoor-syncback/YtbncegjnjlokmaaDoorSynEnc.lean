/- What Encode of package sync returns, for every note: its bytes, in a row of the call's own, or what is wrong. -/
import Derived.Test.YtbncegjnjlokmaaDoorSynNum
import Derived.Test.YtbncegjnjlokmaaDoorSynWr
namespace Go.Proofs.YtbncegjnjlokmaaDoor
open Go.RowKit
set_option linter.unusedVariables false

theorem OwnB.lower {w : World} {v : Value} {zs : List Int} {base b0 : Nat} (hv : OwnB w base v zs) (hb : b0 ≤ base) : OwnB w b0 v zs := by
  refine ⟨⟨hv.1.1, ?_⟩, hv.2⟩
  rcases hv.1.2 with h2 | ⟨g, cap, cur, e, hg, hh, hr⟩
  · exact .inl h2
  · exact .inr ⟨g, cap, cur, e, Nat.le_trans hb hg, hh, hr⟩
theorem getD_mem (l : List Int) (i : Nat) (h : i < l.length) : l.getD i 0 ∈ l := by simp [List.getD, h]
theorem nums_getD (n : Nt) (i : Nat) (h : i < manyN n.what) : (allN n).getD i 0 = (numsN n).getD i 0 := by
  unfold numsN
  simp [List.getD, h]
theorem flat_step (l : List Int) (i : Nat) (h : i < l.length) : flatW (l.take (i + 1)) = flatW (l.take i) ++ wrL (l.getD i 0) := by
  rw [show l.take (i + 1) = l.take i ++ [l.getD i 0] by rw [List.take_succ_eq_append_getElem h]; simp [List.getD, h], flatW_app]
  simp [flatW]
theorem flat_take (l : List Int) (i : Nat) : (flatW (l.take i)).length ≤ 10 * i := by
  have h := flatW_len (l.take i)
  have : (l.take i).length ≤ i := by simp; omega
  omega
set_option maxRecDepth 100000 in
set_option maxHeartbeats 16000000 in
theorem encode_any (n : Nt) (w : World) (hL : Lives w) :
    Calls Tryd.prog 9 #[ntV n] w fun e w' => ∃ v, e = .returned (.tuple #[v, errV (ntE n)]) ∧ OwnB w' w.heap.size v (if ntE n = 0 then encN n else []) ∧ Below w.heap.size w w' := by
  have b1 : Below w.heap.size w (w.alloc (.cells #[.int .i64 n.what, .int .i64 n.seq, .int .i64 n.fl.key.kind, .int .i64 n.fl.key.src, .int .i64 n.fl.key.frm, .int .i64 n.fl.key.dst, .int .i64 n.fl.key.too, .int .i64 n.fl.st, .int .i64 n.fl.unt, .int .i64 n.fl.stp, .int .i64 n.fl.h0, .int .i64 n.fl.h1, .int .i64 n.fl.w0, .int .i64 n.fl.w1, .bool n.fl.d0, .bool n.fl.d1, .int .i64 n.fl.num] 29)) := (Below.refl _ _).alloc (Nat.le_refl _) _
  have p1 := NtAt.new w n
  obtain ⟨W1, hW1⟩ : ∃ W1, w.alloc (.cells #[.int .i64 n.what, .int .i64 n.seq, .int .i64 n.fl.key.kind, .int .i64 n.fl.key.src, .int .i64 n.fl.key.frm, .int .i64 n.fl.key.dst, .int .i64 n.fl.key.too, .int .i64 n.fl.st, .int .i64 n.fl.unt, .int .i64 n.fl.stp, .int .i64 n.fl.h0, .int .i64 n.fl.h1, .int .i64 n.fl.w0, .int .i64 n.fl.w1, .bool n.fl.d0, .bool n.fl.d1, .int .i64 n.fl.num] 29) = W1 := ⟨_, rfl⟩
  rw [hW1] at b1 p1
  have c := ntChk_any n W1 (hL.below b1)
  clear hL
  unfold ntV at c
  by_cases hz : ntE n = 0
  · rw [if_pos hz]
    rw [hz, show errV 0 = .nilIface from rfl] at c
    rw [hz, show errV 0 = .nilIface from rfl]
    have HF : Hid (∀ x ∈ numsN n, Fit x) := nums_fit hz
    have HL : Hid ((numsN n).length = manyN n.what) := nums_len n
    have cN := fun W => numbers_any n W
    unfold ntV at cN
    have hm16 : manyN n.what ≤ 16 := by unfold manyN; split <;> (try split) <;> (try split) <;> omega
    unfold ntV
    clear hz
    go_enter Tryd.func9, Tryd.ntmps9
    go_upto_region 1 with fail
    try rw [hW1]
    clear hW1
    obtain ⟨q0, q1, q2, q3, q4, q5, q6, q7, q8, q9, q10, q11, q12, q13, q14, q15, q16⟩ := p1.cells
    go_upto_region 5 with (go_at_call 27; refine c.mono ?_; rintro e w2 ⟨rfl, b2⟩)
    have p2 := p1.below p1.lt b2
    have b2a := b1.trans (b2.mono b1.size)
    clear b2
    clear q0 q1 q2 q3 q4 q5 q6 q7 q8 q9 q10 q11 q12 q13 q14 q15 q16 c
    obtain ⟨q0, q1, q2, q3, q4, q5, q6, q7, q8, q9, q10, q11, q12, q13, q14, q15, q16⟩ := p2.cells
    go_wp2_with (go_at_call 28; refine (cN w2).mono ?_; rintro e w3 ⟨g, rfl, hg, a3, b3⟩)
    clear q0 q1 q2 q3 q4 q5 q6 q7 q8 q9 q10 q11 q12 q13 q14 q15 q16 p1 p2 cN
    have b3' := b2a.trans (b3.mono b2a.size)
    have hge : w.heap.size ≤ g := Nat.le_trans b2a.size hg
    go_loopw [5, 16] (fun vb vi wr => ∃ i : Nat, i ≤ manyN n.what ∧ vi = .int .i64 (i : Int) ∧ OwnB wr w3.heap.size vb (flatW ((numsN n).take i)) ∧ ArN wr g n ∧ Below w3.heap.size w3 wr) (fun _ vi _ => (manyN n.what - intOf vi).toNat)
    case atStart => exact ⟨0, by omega, rfl, by simpa [flatW] using OwnB.nil _ _, a3, Below.refl _ _⟩
    case round =>

      obtain ⟨i, hi, rfl, own, a4, b4⟩ := hrel
      have hlen := HL.out
      by_cases hlt : i < manyN n.what
      · have c0 := a4.cell i (by omega)
        rw [nums_getD n i hlt] at c0
        have hfit : Fit ((numsN n).getD i 0) := by
          refine HF.out _ ?_
          exact getD_mem _ _ (by omega)
        have HS : Hid (flatW ((numsN n).take (i + 1)) = flatW ((numsN n).take i) ++ wrL ((numsN n).getD i 0)) := flat_step _ _ (by omega)
        have hl := flat_take (numsN n) i
        have i0 : (i : Int) < ((manyN n.what : Nat) : Int) := by omega
        generalize (numsN n).getD i 0 = x at c0 hfit HS
        have cW := wr_any u5 _ x w3.heap.size wr own hfit (by omega) b4.size
        clear hlen hfit
        go_wp2_with (go_at_call 29; refine cW.mono ?_; rintro e w5 ⟨v5, rfl, own5, gr5⟩)
        go_roundw
        case rel => exact ⟨i + 1, by omega, by go_num, by rw [HS.out]; exact own5, a4.grown gr5.1 (fun e => by have := own.block_ge _ e; have := a3.lt; omega), gr5.below b4 b4.size own.block_ge⟩
        case measure => simp [intOf]; omega
      · have HE : Hid (flatW ((numsN n).take i) = encN n) := by
          show _ = _
          unfold encN
          rw [List.take_of_length_le (by omega)]
        have hge3 : w.heap.size ≤ w3.heap.size := b3'.size
        clear hlen
        go_wp2
        go_ret2
        refine ⟨_, rfl, ?_, b3'.trans (b4.mono hge3)⟩
        rw [← HE.out]
        exact own.lower hge3
  · rw [if_neg hz]
    rw [show errV (ntE n) = .iface 70 (.int .i64 (ntE n)) by unfold errV; rw [if_neg hz]] at c ⊢
    generalize ntE n = z at c
    unfold ntV
    clear hz
    go_enter Tryd.func9, Tryd.ntmps9
    go_upto_region 1 with fail
    try rw [hW1]
    clear hW1
    obtain ⟨q0, q1, q2, q3, q4, q5, q6, q7, q8, q9, q10, q11, q12, q13, q14, q15, q16⟩ := p1.cells
    go_wp2_with (go_at_call 27; refine c.mono ?_; rintro e w2 ⟨rfl, b2⟩)
    go_ret2
    exact ⟨_, rfl, OwnB.nil _ _, b1.trans (b2.mono b1.size)⟩
end Go.Proofs.YtbncegjnjlokmaaDoor
