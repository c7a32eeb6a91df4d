/- What write, signed and read of package sync return: the bytes of any number behind bytes of the call's own, the number that any bytes begin with. -/
import Derived.Test.YtbncegjnjlokmaaDoorSynMath
import Derived.Test.YtbncegjnjlokmaaDoorMgC
import Derived.Laws.BitsLemmas
namespace Go.Proofs.YtbncegjnjlokmaaDoor
open Go.RowKit
set_option linter.unusedVariables false

theorem u64w (n : Int) : IntKind.u64.wrap n = n % 18446744073709551616 := by simp [IntKind.wrap, IntKind.bits, IntKind.signed]
theorem xor_u64 (x : Int) (h0 : 0 ≤ x) (h1 : x < 18446744073709551616) : bits .xor .u64 IntKind.u64.max x = 18446744073709551615 - x := by
  obtain ⟨a, rfl⟩ := Int.eq_ofNat_of_zero_le h0
  have ha : a < 2 ^ 64 := by omega
  have e : ((BitVec.ofInt 64 18446744073709551615) ^^^ (BitVec.ofNat 64 a)).toNat = 18446744073709551615 - a := by
    rw [show BitVec.ofInt 64 18446744073709551615 = BitVec.allOnes 64 from rfl, BitVec.allOnes_xor, BitVec.toNat_not, BitVec.toNat_ofNat, Nat.mod_eq_of_lt ha]
  simp only [bits, BitVec.ofInt_natCast]
  show IntKind.u64.wrap ((((BitVec.ofInt 64 18446744073709551615) ^^^ (BitVec.ofNat 64 a)).toNat : Nat) : Int) = _
  rw [e, u64w]
  omega
theorem xor_i64 (x : Int) (h0 : 0 ≤ x) (h1 : x < 9223372036854775808) : bits .xor .i64 (-1) x = -x - 1 := by
  obtain ⟨a, rfl⟩ := Int.eq_ofNat_of_zero_le h0
  have ha : a < 2 ^ 64 := by omega
  have e : ((BitVec.ofInt 64 (-1)) ^^^ (BitVec.ofNat 64 a)).toNat = 18446744073709551615 - a := by
    rw [show BitVec.ofInt 64 (-1) = BitVec.allOnes 64 from rfl, BitVec.allOnes_xor, BitVec.toNat_not, BitVec.toNat_ofNat, Nat.mod_eq_of_lt ha]
  simp only [bits, BitVec.ofInt_natCast]
  show IntKind.i64.wrap ((((BitVec.ofInt 64 (-1)) ^^^ (BitVec.ofNat 64 a)).toNat : Nat) : Int) = _
  rw [e, IntKind.wrap_i64]
  omega
theorem zig_neg {n : Int} (h : n < 0) (h0 : -9223372036854775808 ≤ n) : bits .xor .u64 IntKind.u64.max (IntKind.u64.wrap (IntKind.u64.wrap n * 2)) = zigI n := by
  rw [u64w, u64w, xor_u64 _ (by omega) (by omega)]
  unfold zigI; rw [if_pos h]; omega
theorem zig_pos {n : Int} (h : ¬ n < 0) (h0 : n < 9223372036854775808) : IntKind.u64.wrap (IntKind.u64.wrap n * 2) = zigI n := by
  rw [u64w, u64w]
  unfold zigI; rw [if_neg h]; omega
theorem pow7 {f : Nat} {z : Int} (h : z < 2 ^ (7 * (f + 1) + 1)) : z / 128 < 2 ^ (7 * f + 1) := by rw [two7] at h; omega
set_option maxRecDepth 100000 in
set_option maxHeartbeats 4000000 in
theorem wr_any (v : Value) (ys : List Int) (n : Int) (base : Nat) (w : World) (hown : OwnB w base v ys) (hn : Fit n) (hy : ys.length ≤ 100000) (hbase : base ≤ w.heap.size) :
    Calls Tryd.prog 29 #[v, .int .i64 n] w fun e w' => ∃ v', e = .returned v' ∧ OwnB w' base v' (ys ++ wrL n) ∧ Grew v v' w w' := by
  have hz := zig_range hn.1 hn.2
  obtain ⟨n0, n1⟩ := hn
  have hsg : IntKind.u64.signed = false := rfl
  by_cases h0 : n < 0
  · have HE : Hid (bits .xor .u64 IntKind.u64.max (IntKind.u64.wrap (IntKind.u64.wrap n * 2)) = zigI n) := zig_neg h0 n0
    go_enter Tryd.func29, Tryd.ntmps29
    go_wp2
    go_loopw [0, 5] (fun vr vz wr => ∃ (f : Nat) (z : Int) (cur : List Int), f ≤ 9 ∧ vz = .int .u64 z ∧ 0 ≤ z ∧ z < 2 ^ (7 * f + 1) ∧ OwnB wr base vr cur ∧ Grew v vr w wr ∧ cur.length ≤ 100009 - f ∧ Hid (cur ++ wrG f z = ys ++ wrL n)) (fun _ i _ => (intOf i).toNat)
    case atStart => exact ⟨9, zigI n, ys, by omega, congrArg (Value.int .u64) HE.out, hz.1, hz.2, hown, Grew.refl _ _, by omega, rfl⟩
    case round =>
      rename_i vr _ wr
      obtain ⟨f, z, cur, hf, rfl, z0, z1, ho, hg, hl, hT⟩ := hrel
      have hb0 : base ≤ wr.heap.size := Nat.le_trans hbase hg.1.size
      have zU : z < 18446744073709551616 := by
        have : f = 0 ∨ f = 1 ∨ f = 2 ∨ f = 3 ∨ f = 4 ∨ f = 5 ∨ f = 6 ∨ f = 7 ∨ f = 8 ∨ f = 9 := by omega
        rcases this with rfl | rfl | rfl | rfl | rfl | rfl | rfl | rfl | rfl | rfl <;> omega
      clear hown hbase HE hz
      by_cases hc : z < 128
      · have HT : Hid (cur ++ [z] = ys ++ wrL n) := by
          show cur ++ [z] = ys ++ wrL n
          rw [← hT.out]
          cases f with
          | zero => rfl
          | succ f => simp only [wrG]; rw [if_pos hc]
        clear hT z1
        go_wp2_with (at_builtin; refine wpList_append_byte rfl (.tmp 24) (.tmp 27) rfl base _ cur rfl ho z (by omega) rfl (by omega) hb0 ?_; intro v2 w2 own2 grew2)
        go_ret
        exact ⟨_, rfl, HT.out ▸ own2, hg.trans grew2⟩
      · cases f with
        | zero => exfalso; have : z < 2 := by simpa using z1
                  omega
        | succ f =>
          have HT : Hid (cur ++ [z % 128 + 128] ++ wrG f (z / 128) = ys ++ wrL n) := by
            show cur ++ [z % 128 + 128] ++ wrG f (z / 128) = ys ++ wrL n
            rw [← hT.out, List.append_assoc]
            simp only [wrG]; rw [if_neg hc]; rfl
          have HP : Hid (z / 128 < 2 ^ (7 * f + 1)) := pow7 z1
          clear hT z1
          go_wp2_with (at_builtin; refine wpList_append_byte rfl (.tmp 17) (.tmp 22) rfl base _ cur rfl ho (z % 128 + 128) (by omega) rfl (by omega) hb0 ?_; intro v2 w2 own2 grew2)
          go_roundw
          case rel => exact ⟨f, z / 128, cur ++ [z % 128 + 128], by omega, by go_num, by omega, HP.out, own2, hg.trans grew2, by simp; omega, HT⟩
          case measure => simp [intOf]; omega
  · have HE : Hid (n * 2 = zigI n) := by show n * 2 = zigI n; unfold zigI; rw [if_neg h0]; omega
    go_enter Tryd.func29, Tryd.ntmps29
    go_wp2
    go_loopw [0, 5] (fun vr vz wr => ∃ (f : Nat) (z : Int) (cur : List Int), f ≤ 9 ∧ vz = .int .u64 z ∧ 0 ≤ z ∧ z < 2 ^ (7 * f + 1) ∧ OwnB wr base vr cur ∧ Grew v vr w wr ∧ cur.length ≤ 100009 - f ∧ Hid (cur ++ wrG f z = ys ++ wrL n)) (fun _ i _ => (intOf i).toNat)
    case atStart => exact ⟨9, zigI n, ys, by omega, congrArg (Value.int .u64) HE.out, hz.1, hz.2, hown, Grew.refl _ _, by omega, rfl⟩
    case round =>
      rename_i vr _ wr
      obtain ⟨f, z, cur, hf, rfl, z0, z1, ho, hg, hl, hT⟩ := hrel
      have hb0 : base ≤ wr.heap.size := Nat.le_trans hbase hg.1.size
      have zU : z < 18446744073709551616 := by
        have : f = 0 ∨ f = 1 ∨ f = 2 ∨ f = 3 ∨ f = 4 ∨ f = 5 ∨ f = 6 ∨ f = 7 ∨ f = 8 ∨ f = 9 := by omega
        rcases this with rfl | rfl | rfl | rfl | rfl | rfl | rfl | rfl | rfl | rfl <;> omega
      clear hown hbase HE hz
      by_cases hc : z < 128
      · have HT : Hid (cur ++ [z] = ys ++ wrL n) := by
          show cur ++ [z] = ys ++ wrL n
          rw [← hT.out]
          cases f with
          | zero => rfl
          | succ f => simp only [wrG]; rw [if_pos hc]
        clear hT z1
        go_wp2_with (at_builtin; refine wpList_append_byte rfl (.tmp 24) (.tmp 27) rfl base _ cur rfl ho z (by omega) rfl (by omega) hb0 ?_; intro v2 w2 own2 grew2)
        go_ret
        exact ⟨_, rfl, HT.out ▸ own2, hg.trans grew2⟩
      · cases f with
        | zero => exfalso; have : z < 2 := by simpa using z1
                  omega
        | succ f =>
          have HT : Hid (cur ++ [z % 128 + 128] ++ wrG f (z / 128) = ys ++ wrL n) := by
            show cur ++ [z % 128 + 128] ++ wrG f (z / 128) = ys ++ wrL n
            rw [← hT.out, List.append_assoc]
            simp only [wrG]; rw [if_neg hc]; rfl
          have HP : Hid (z / 128 < 2 ^ (7 * f + 1)) := pow7 z1
          clear hT z1
          go_wp2_with (at_builtin; refine wpList_append_byte rfl (.tmp 17) (.tmp 22) rfl base _ cur rfl ho (z % 128 + 128) (by omega) rfl (by omega) hb0 ?_; intro v2 w2 own2 grew2)
          go_roundw
          case rel => exact ⟨f, z / 128, cur ++ [z % 128 + 128], by omega, by go_num, by omega, HP.out, own2, hg.trans grew2, by simp; omega, HT⟩
          case measure => simp [intOf]; omega
end Go.Proofs.YtbncegjnjlokmaaDoor
