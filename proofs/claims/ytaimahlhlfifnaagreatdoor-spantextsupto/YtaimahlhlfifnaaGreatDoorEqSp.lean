/- '==' and '!=' of two spans ([2]int), as the walk meets them. -/
import Derived.Test.YtaimahlhlfifnaaGreatDoorSpnAt
import Derived.ChangeKeysEq
namespace Go.Proofs.YtaimahlhlfifnaaGreatDoor
open Go.RowKit
set_option linter.unusedVariables false

theorem Tryz.spGuard : Tryz.prog.eqGuardType Tryz.prog.depth 38 = false := by kernel_rfl
theorem Tryz.infoIntE : (Tryz.prog.info? 3).map (fun i => (i.zero, i.size, i.bytes)) = some (some (.int .i64 0), 1, 8) := by kernel_rfl
theorem Tryz.spEqual (a b c d : Int) (w : World) : (Op.equalIn 10000 38 (.agg #[.int .i64 a, .int .i64 b]) (.agg #[.int .i64 c, .int .i64 d])).run Tryz.prog w = .ok (a == c && b == d) w := by
  obtain ⟨i0, hi, hz0, hz1, hz2⟩ := info_parts Tryz.infoIntE
  have h := run_equalIn_array (P := Tryz.prog) w 9999 #[.int .i64 a, .int .i64 b] #[.int .i64 c, .int .i64 d] Tryz.underlying38 hi
  refine h.trans ?_
  rw [show List.range 2 = [0, 1] from rfl, show Tryz.prog.cellsOf 3 = 1 by kernel_rfl]
  simp [Op.eqItems, part, isAgg, underlying, Tryz.underlying3, Result.andThen, run_equalIn_int (P := Tryz.prog) _ 9998 3 .i64 .i64 _ _ Tryz.underlying3]
  by_cases h1 : a = c <;> by_cases h2 : b = d <;> simp [h1, h2]
theorem Tryz.spNeq (a b c d : Int) (w : World) : (binOp .neq 38 (.agg #[.int .i64 a, .int .i64 b]) (.agg #[.int .i64 c, .int .i64 d])).run Tryz.prog w = .ok (.bool (!(a == c && b == d))) w := by
  rw [run_neq_struct, Tryz.spEqual]; rfl
theorem Tryz.spNeqSame (a b : Int) (w : World) : (binOp .neq 38 (.agg #[.int .i64 a, .int .i64 b]) (.agg #[.int .i64 a, .int .i64 b])).run Tryz.prog w = .ok (.bool false) w := by
  rw [Tryz.spNeq]; simp
set_option maxHeartbeats 4000000 in
theorem sameSp (v1 v2 : Value) (ps : List Sp) (w : World) (h1 : Spns w v1 ps) (h2 : Spns w v2 ps) :
    Calls Tryz.prog 12 #[v1, v2] w fun e w' => e = .returned (.bool true) ∧ Below w.heap.size w w' := by
  obtain ⟨a1, c1, rfl⟩ := h1.len
  obtain ⟨a2, c2, rfl⟩ := h2.len
  obtain ⟨N, hN⟩ : ∃ N, ps.length = N := ⟨_, rfl⟩
  rw [hN] at h1 h2 ⊢
  have HN : Hid (ps.length = N) := hN
  have H1 : Hid (Spns w (.slice a1 N c1) ps) := h1
  have H2 : Hid (Spns w (.slice a2 N c2) ps) := h2
  have hg := Tryz.spGuard
  have hne := Tryz.spNeqSame
  clear h1 h2 hN
  go_enter Tryz.func12, Tryz.ntmps12
  go_wp2_with fail
  go_loopw [5] (fun i wr => ∃ k : Nat, k ≤ N ∧ i = .int .i64 (k : Int) ∧ Below w.heap.size w wr) (fun i _ => ((N : Int) - intOf i).toNat)
  case atStart => exact ⟨0, by omega, rfl, Below.refl _ _⟩
  case round =>
    obtain ⟨k, hk, rfl, hb⟩ := hrel
    by_cases hkn : k < N
    · have i1 : (k : Int) < (N : Int) := by omega
      have i2 : (0 : Int) ≤ (k : Int) := by omega
      have hps : 0 < ps.length := by have := HN.out; omega
      obtain ⟨b1, o1, e1, hb1, hl1, hx1, hc1⟩ := H1.out.shape hps
      obtain ⟨b2, o2, e2, hb2, hl2, hx2, hc2⟩ := H2.out.shape hps
      subst e1 e2
      have hkp : k < ps.length := by have := HN.out; omega
      obtain ⟨x0, x1⟩ := (hc1 k hkp).keep (hb.block b1 hb1)
      obtain ⟨y0, y1⟩ := (hc2 k hkp).keep (hb.block b2 hb2)
      generalize ps[k] = q at x0 x1 y0 y1
      have hx1' : c1 ≤ 9223372036854775807 := by unfold maxLen at hx1; omega
      have hx2' : c2 ≤ 9223372036854775807 := by unfold maxLen at hx2; omega
      have HB : Hid (Below w.heap.size w wr) := hb
      clear hc1 hc2 hx1 hx2 hb hps hkp
      go_upto_region 6 with fail
      go_region
      all_goals
        go_wp2_with fail
        go_roundw
        case rel => exact ⟨k + 1, by omega, by go_num, HB.out.drew⟩
        case measure => simp [intOf]; omega
    · have hkn' : k = N := by omega
      subst hkn'
      have i1 : ¬ (k : Int) < (k : Int) := by omega
      have HB : Hid (Below w.heap.size w wr) := hb
      clear hb
      go_wp2_with fail
      go_ret
      exact ⟨rfl, HB.out⟩
end Go.Proofs.YtaimahlhlfifnaaGreatDoor
