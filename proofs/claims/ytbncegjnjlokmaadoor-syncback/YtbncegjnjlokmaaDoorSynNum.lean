/- What numbers of package sync returns: the numbers of a note, in a row of the call's own. -/
import Derived.Test.YtbncegjnjlokmaaDoorSynChk
import Derived.Test.YtbncegjnjlokmaaDoorSynIx
import Derived.Deep.DeepCutAuto
namespace Go.Proofs.YtbncegjnjlokmaaDoor
open Go.RowKit
set_option linter.unusedVariables false

def ArN (w : World) (b : Nat) (n : Nt) : Prop := w.heap[b]? = some (.cells #[.int .i64 n.what, .int .i64 n.seq, .int .i64 n.fl.key.kind, .int .i64 n.fl.key.src, .int .i64 n.fl.key.frm, .int .i64 n.fl.key.dst, .int .i64 n.fl.key.too, .int .i64 n.fl.st, .int .i64 n.fl.unt, .int .i64 n.fl.stp, .int .i64 n.fl.h0, .int .i64 n.fl.h1, .int .i64 n.fl.w0, .int .i64 n.fl.w1, .int .i64 (dnI n.fl), .int .i64 n.fl.num] 96 (0, 0))
theorem ArN.lt {w : World} {b : Nat} {n : Nt} (h : ArN w b n) : b < w.heap.size := by
  rcases Nat.lt_or_ge b w.heap.size with h1 | h1
  · exact h1
  · unfold ArN at h; simp [Array.getElem?_eq_none h1] at h
theorem ArN.below {w w' : World} {b B : Nat} {n : Nt} (h : ArN w b n) (hB : b < B) (hb : Below B w w') : ArN w' b n := by
  unfold ArN; rw [hb.block b hB]; exact h
theorem ArN.grown {w w' : World} {b : Nat} {n : Nt} {row : Option Nat} (h : ArN w b n) (hg : w.grownBy w' row) (hne : row ≠ some b) : ArN w' b n := by
  unfold ArN; rw [hg.block b h.lt (fun e => hne e.symm)]; exact h
theorem ArN.cell {w : World} {b : Nat} {n : Nt} (h : ArN w b n) (i : Nat) (hi : i < 16) : w.cell? ⟨b, i, none⟩ = some (.int .i64 ((allN n).getD i 0)) := by
  rw [cell_of_row w b _ _ _ _ h]
  have : i = 0 ∨ i = 1 ∨ i = 2 ∨ i = 3 ∨ i = 4 ∨ i = 5 ∨ i = 6 ∨ i = 7 ∨ i = 8 ∨ i = 9 ∨ i = 10 ∨ i = 11 ∨ i = 12 ∨ i = 13 ∨ i = 14 ∨ i = 15 := by omega
  rcases this with rfl | rfl | rfl | rfl | rfl | rfl | rfl | rfl | rfl | rfl | rfl | rfl | rfl | rfl | rfl | rfl <;> rfl
theorem fk_one (W : World) (f : Fl) : FlAt ((W.alloc (.cells #[.int .i64 f.key.kind, .int .i64 f.key.src, .int .i64 f.key.frm, .int .i64 f.key.dst, .int .i64 f.key.too, .int .i64 f.st, .int .i64 f.unt, .int .i64 f.stp, .int .i64 f.h0, .int .i64 f.h1, .int .i64 f.w0, .int .i64 f.w1, .bool f.d0, .bool f.d1, .int .i64 f.num] 27)).alloc (.cells #[.int .i64 f.key.kind, .int .i64 f.key.src, .int .i64 f.key.frm, .int .i64 f.key.dst, .int .i64 f.key.too] 23)) W.heap.size f ∧ KyAt ((W.alloc (.cells #[.int .i64 f.key.kind, .int .i64 f.key.src, .int .i64 f.key.frm, .int .i64 f.key.dst, .int .i64 f.key.too, .int .i64 f.st, .int .i64 f.unt, .int .i64 f.stp, .int .i64 f.h0, .int .i64 f.h1, .int .i64 f.w0, .int .i64 f.w1, .bool f.d0, .bool f.d1, .int .i64 f.num] 27)).alloc (.cells #[.int .i64 f.key.kind, .int .i64 f.key.src, .int .i64 f.key.frm, .int .i64 f.key.dst, .int .i64 f.key.too] 23)) (W.heap.size + 1) f.key := by
  refine ⟨(FlAt.new W f).alloc _, ?_⟩
  have h := KyAt.new (W.alloc (.cells #[.int .i64 f.key.kind, .int .i64 f.key.src, .int .i64 f.key.frm, .int .i64 f.key.dst, .int .i64 f.key.too, .int .i64 f.st, .int .i64 f.unt, .int .i64 f.stp, .int .i64 f.h0, .int .i64 f.h1, .int .i64 f.w0, .int .i64 f.w1, .bool f.d0, .bool f.d1, .int .i64 f.num] 27)) f.key
  rw [show (W.alloc (.cells #[.int .i64 f.key.kind, .int .i64 f.key.src, .int .i64 f.key.frm, .int .i64 f.key.dst, .int .i64 f.key.too, .int .i64 f.st, .int .i64 f.unt, .int .i64 f.stp, .int .i64 f.h0, .int .i64 f.h1, .int .i64 f.w0, .int .i64 f.w1, .bool f.d0, .bool f.d1, .int .i64 f.num] 27)).heap.size = W.heap.size + 1 by simp] at h
  exact h
theorem fk_two (W : World) (f : Fl) : FlAt ((W.alloc (.cells #[.int .i64 f.key.kind, .int .i64 f.key.src, .int .i64 f.key.frm, .int .i64 f.key.dst, .int .i64 f.key.too] 23)).alloc (.cells #[.int .i64 f.key.kind, .int .i64 f.key.src, .int .i64 f.key.frm, .int .i64 f.key.dst, .int .i64 f.key.too, .int .i64 f.st, .int .i64 f.unt, .int .i64 f.stp, .int .i64 f.h0, .int .i64 f.h1, .int .i64 f.w0, .int .i64 f.w1, .bool f.d0, .bool f.d1, .int .i64 f.num] 27)) (W.heap.size + 1) f ∧ KyAt ((W.alloc (.cells #[.int .i64 f.key.kind, .int .i64 f.key.src, .int .i64 f.key.frm, .int .i64 f.key.dst, .int .i64 f.key.too] 23)).alloc (.cells #[.int .i64 f.key.kind, .int .i64 f.key.src, .int .i64 f.key.frm, .int .i64 f.key.dst, .int .i64 f.key.too, .int .i64 f.st, .int .i64 f.unt, .int .i64 f.stp, .int .i64 f.h0, .int .i64 f.h1, .int .i64 f.w0, .int .i64 f.w1, .bool f.d0, .bool f.d1, .int .i64 f.num] 27)) W.heap.size f.key := by
  refine ⟨?_, (KyAt.new W f.key).alloc _⟩
  have h := FlAt.new (W.alloc (.cells #[.int .i64 f.key.kind, .int .i64 f.key.src, .int .i64 f.key.frm, .int .i64 f.key.dst, .int .i64 f.key.too] 23)) f
  rw [show (W.alloc (.cells #[.int .i64 f.key.kind, .int .i64 f.key.src, .int .i64 f.key.frm, .int .i64 f.key.dst, .int .i64 f.key.too] 23)).heap.size = W.heap.size + 1 by simp] at h
  exact h
def dnP (f : Fl) (k : Nat) : Int := if k = 0 then 0 else if k = 1 then (if f.d0 = true then 1 else 0) else dnI f
theorem kyAt_lt {w : World} {b : Nat} {p : Ky} (h : KyAt w b p) : b < w.heap.size := h.lt
set_option maxRecDepth 100000 in
set_option maxHeartbeats 16000000 in
theorem numbers_any (n : Nt) (w : World) :
    Calls Tryd.prog 28 #[ntV n] w fun e w' => ∃ b, e = .returned (.slice (some ⟨b, 0, none⟩) (manyN n.what) 16) ∧ w.heap.size ≤ b ∧ ArN w' b n ∧ Below w.heap.size w w' := by
  have b1 : Below w.heap.size w (w.alloc (.cells #[.int .i64 n.what, .int .i64 n.seq, .int .i64 n.fl.key.kind, .int .i64 n.fl.key.src, .int .i64 n.fl.key.frm, .int .i64 n.fl.key.dst, .int .i64 n.fl.key.too, .int .i64 n.fl.st, .int .i64 n.fl.unt, .int .i64 n.fl.stp, .int .i64 n.fl.h0, .int .i64 n.fl.h1, .int .i64 n.fl.w0, .int .i64 n.fl.w1, .bool n.fl.d0, .bool n.fl.d1, .int .i64 n.fl.num] 29)) := (Below.refl _ _).alloc (Nat.le_refl _) _
  have p1 := NtAt.new w n
  obtain ⟨W1, hW1⟩ : ∃ W1, w.alloc (.cells #[.int .i64 n.what, .int .i64 n.seq, .int .i64 n.fl.key.kind, .int .i64 n.fl.key.src, .int .i64 n.fl.key.frm, .int .i64 n.fl.key.dst, .int .i64 n.fl.key.too, .int .i64 n.fl.st, .int .i64 n.fl.unt, .int .i64 n.fl.stp, .int .i64 n.fl.h0, .int .i64 n.fl.h1, .int .i64 n.fl.w0, .int .i64 n.fl.w1, .bool n.fl.d0, .bool n.fl.d1, .int .i64 n.fl.num] 29) = W1 := ⟨_, rfl⟩
  rw [hW1] at b1 p1
  have hM := fun W => many_any n.what W
  have hm16 : manyN n.what ≤ 16 := by unfold manyN; split <;> (try split) <;> (try split) <;> omega
  obtain ⟨m, Hm⟩ : ∃ m, manyN n.what = m := ⟨_, rfl⟩
  rw [Hm] at hM hm16 ⊢
  unfold ntV
  go_enter Tryd.func28, Tryd.ntmps28
  go_upto_region 1 with fail
  try rw [hW1]
  clear hW1 Hm
  have hlt := p1.lt
  obtain ⟨q0, q1, q2, q3, q4, q5, q6, q7, q8, q9, q10, q11, q12, q13, q14, q15, q16⟩ := p1.cells
  go_cut [3, 4] (fun v3 v4 wc => ∃ b3 b4, v3 = .pointer (some ⟨b3, 0, none⟩) ∧ v4 = .pointer (some ⟨b4, 0, none⟩) ∧ FlAt wc b3 n.fl ∧ KyAt wc b4 n.fl.key ∧ NtAt wc w.heap.size n ∧ Below w.heap.size w wc)
  case first =>
    go_region
    all_goals (go_wp2_with fail; go_meet; case rel => first
      | exact ⟨_, _, rfl, rfl, (fk_one W1 n.fl).1, (fk_one W1 n.fl).2, (p1.alloc _).alloc _, ((b1.alloc b1.size _).alloc (b1.alloc b1.size _).size _).drew⟩
      | exact ⟨_, _, rfl, rfl, (fk_two W1 n.fl).1, (fk_two W1 n.fl).2, (p1.alloc _).alloc _, ((b1.alloc b1.size _).alloc (b1.alloc b1.size _).size _).drew⟩)
  case rest =>
    obtain ⟨b3, b4, rfl, rfl, f2, k2, p2, b2⟩ := hcut
    clear q0 q1 q2 q3 q4 q5 q6 q7 q8 q9 q10 q11 q12 q13 q14 q15 q16 p1 b1 hlt
    obtain ⟨q0, q1, q2, q3, q4, q5, q6, q7, q8, q9, q10, q11, q12, q13, q14, q15, q16⟩ := p2.cells
    obtain ⟨g0, g1, g2, g3, g4, g5, g6, g7, g8, g9, g10, g11, g12, g13, g14⟩ := f2.cells
    obtain ⟨k0, k1, k2', k3, k4⟩ := k2.cells
    have o00 : bits .or .i64 0 1 = 1 := by decide
    have o01 : bits .or .i64 0 2 = 2 := by decide
    have o12 : bits .or .i64 1 2 = 3 := by decide
    obtain ⟨d, Hd⟩ : ∃ d, Hid (d = dnI n.fl) := ⟨_, rfl⟩
    go_wp2
    go_loopw [5, 16] (fun v5 vi wr => ∃ k : Nat, k ≤ 2 ∧ vi = .int .i64 (k : Int) ∧ v5 = .int .i64 (dnP n.fl k) ∧ wr = wc) (fun _ i _ => (2 - intOf i).toNat)
    case atStart => exact ⟨0, by omega, rfl, rfl, rfl⟩
    case round =>
      obtain ⟨k, hk, rfl, rfl, rfl⟩ := hrel
      have : k = 0 ∨ k = 1 ∨ k = 2 := by omega
      rcases this with rfl | rfl | rfl
      · rw [show dnP n.fl 0 = 0 from rfl, show (((0 : Nat) : Int)) = 0 from rfl]
        cases hd : n.fl.d0
        · have hx := Tryd.idxB0 false n.fl.d1
          go_wp2
          go_roundw
          case rel => exact ⟨1, by omega, by go_num, by unfold dnP; rw [hd]; rfl, by first | rfl | trivial⟩
          case measure => simp [intOf]
        · have hx := Tryd.idxB0 true n.fl.d1
          go_wp2
          go_roundw
          case rel => exact ⟨1, by omega, by go_num, by unfold dnP; rw [hd]; rfl, by first | rfl | trivial⟩
          case measure => simp [intOf]
      · rw [show (((1 : Nat) : Int)) = 1 from rfl]
        cases hd : n.fl.d0
        · rw [show dnP n.fl 1 = 0 by unfold dnP; rw [hd]; rfl]
          cases he : n.fl.d1
          · have hx := Tryd.idxB1 false false
            go_wp2 
            go_roundw
            case rel => exact ⟨2, by omega, by go_num, by first | (rw [o00]; unfold dnP dnI; rw [hd, he]; rfl) | (rw [o01]; unfold dnP dnI; rw [hd, he]; rfl) | (rw [o12]; unfold dnP dnI; rw [hd, he]; rfl) | (unfold dnP dnI; rw [hd, he]; rfl), by first | rfl | trivial⟩
            case measure => simp [intOf]
          · have hx := Tryd.idxB1 false true
            go_wp2 
            go_roundw
            case rel => exact ⟨2, by omega, by go_num, by first | (rw [o00]; unfold dnP dnI; rw [hd, he]; rfl) | (rw [o01]; unfold dnP dnI; rw [hd, he]; rfl) | (rw [o12]; unfold dnP dnI; rw [hd, he]; rfl) | (unfold dnP dnI; rw [hd, he]; rfl), by first | rfl | trivial⟩
            case measure => simp [intOf]
        · rw [show dnP n.fl 1 = 1 by unfold dnP; rw [hd]; rfl]
          cases he : n.fl.d1
          · have hx := Tryd.idxB1 true false
            go_wp2 
            go_roundw
            case rel => exact ⟨2, by omega, by go_num, by first | (rw [o00]; unfold dnP dnI; rw [hd, he]; rfl) | (rw [o01]; unfold dnP dnI; rw [hd, he]; rfl) | (rw [o12]; unfold dnP dnI; rw [hd, he]; rfl) | (unfold dnP dnI; rw [hd, he]; rfl), by first | rfl | trivial⟩
            case measure => simp [intOf]
          · have hx := Tryd.idxB1 true true
            go_wp2 
            go_roundw
            case rel => exact ⟨2, by omega, by go_num, by first | (rw [o00]; unfold dnP dnI; rw [hd, he]; rfl) | (rw [o01]; unfold dnP dnI; rw [hd, he]; rfl) | (rw [o12]; unfold dnP dnI; rw [hd, he]; rfl) | (unfold dnP dnI; rw [hd, he]; rfl), by first | rfl | trivial⟩
            case measure => simp [intOf]
      · rw [show dnP n.fl 2 = dnI n.fl from rfl, ← Hd.out, show (((2 : Nat) : Int)) = 2 from rfl]
        have a1 : ArN (wr.alloc (.cells #[.int .i64 n.what, .int .i64 n.seq, .int .i64 n.fl.key.kind, .int .i64 n.fl.key.src, .int .i64 n.fl.key.frm, .int .i64 n.fl.key.dst, .int .i64 n.fl.key.too, .int .i64 n.fl.st, .int .i64 n.fl.unt, .int .i64 n.fl.stp, .int .i64 n.fl.h0, .int .i64 n.fl.h1, .int .i64 n.fl.w0, .int .i64 n.fl.w1, .int .i64 d, .int .i64 n.fl.num] 96)) wr.heap.size n := by
          unfold ArN; rw [← Hd.out]; exact heap_alloc_new wr _
        have b3' := b2.alloc b2.size (.cells #[.int .i64 n.what, .int .i64 n.seq, .int .i64 n.fl.key.kind, .int .i64 n.fl.key.src, .int .i64 n.fl.key.frm, .int .i64 n.fl.key.dst, .int .i64 n.fl.key.too, .int .i64 n.fl.st, .int .i64 n.fl.unt, .int .i64 n.fl.stp, .int .i64 n.fl.h0, .int .i64 n.fl.h1, .int .i64 n.fl.w0, .int .i64 n.fl.w1, .int .i64 d, .int .i64 n.fl.num] 96)
        have n3 := p2.lt
        obtain ⟨W3, hW3⟩ : ∃ W3, wr.alloc (.cells #[.int .i64 n.what, .int .i64 n.seq, .int .i64 n.fl.key.kind, .int .i64 n.fl.key.src, .int .i64 n.fl.key.frm, .int .i64 n.fl.key.dst, .int .i64 n.fl.key.too, .int .i64 n.fl.st, .int .i64 n.fl.unt, .int .i64 n.fl.stp, .int .i64 n.fl.h0, .int .i64 n.fl.h1, .int .i64 n.fl.w0, .int .i64 n.fl.w1, .int .i64 d, .int .i64 n.fl.num] 96) = W3 := ⟨_, rfl⟩
        rw [hW3] at a1 b3'
        have p3 : NtAt W3 w.heap.size n := by rw [← hW3]; exact p2.alloc _
        clear Hd
        go_upto_region 10 with fail
        try rw [hW3]
        clear hW3 q0 q1 q2 q3 q4 q5 q6 q7 q8 q9 q10 q11 q12 q13 q14 q15 q16
        obtain ⟨q0, q1, q2, q3, q4, q5, q6, q7, q8, q9, q10, q11, q12, q13, q14, q15, q16⟩ := p3.cells
        have hmi : (m : Int) ≤ 16 := by omega
        have hm0 : (0 : Int) ≤ (m : Int) := by omega
        go_wp2_with (go_at_call 41; refine (hM _).mono ?_; rintro e w2 ⟨rfl, rfl⟩)
        go_ret
        exact ⟨_, rfl, b2.size, a1, b3'⟩
end Go.Proofs.YtbncegjnjlokmaaDoor
