/- '==' and '!=' of two pairs of numbers (api.Prefix), as the walk meets them. -/
import Derived.Test.YthnkjfgiclolaaaGreatDoorMgA
import Derived.Test.YthnkjfgiclolaaaGreatDoorRuleRow
import Derived.Deep.RegionHeld3
import Derived.Test.YthnkjfgiclolaaaGreatDoorAs
import Derived.Below
namespace Go.Proofs.YthnkjfgiclolaaaGreatDoor
open Go.RowKit
set_option linter.unusedVariables false

theorem Tryz.prefGuard : Tryz.prog.eqGuardType Tryz.prog.depth 30 = false := by kernel_rfl
theorem Tryz.prefHeld : Tryz.prog.stoodInHeld 30 = false := by kernel_rfl
theorem Tryz.prefFields : Tryz.prog.underlying 30 = some (.struct (Tryz.prog.fieldsOf 30)) := by kernel_rfl
theorem Tryz.prefEqual (a b c d : Int) (w : World) : (Op.equalIn 10000 30 (.agg #[.int .i64 a, .int .i64 b]) (.agg #[.int .i64 c, .int .i64 d])).run Tryz.prog w = .ok (a == c && b == d) w := by
  have h := run_equalIn_agg (P := Tryz.prog) w 9999 30 #[.int .i64 a, .int .i64 b] #[.int .i64 c, .int .i64 d] Tryz.prefFields Tryz.prefHeld
  refine h.trans ?_
  simp [Program.fieldsOf, Tryz.underlying30, Op.eqFields, part, isAgg, underlying, Tryz.underlying3, Result.andThen, run_equalIn_int (P := Tryz.prog) _ 9998 3 .i64 .i64 _ _ Tryz.underlying3]
  by_cases h1 : a = c <;> by_cases h2 : b = d <;> simp [h1, h2]
theorem Tryz.prefNeq (a b c d : Int) (w : World) : (binOp .neq 30 (.agg #[.int .i64 a, .int .i64 b]) (.agg #[.int .i64 c, .int .i64 d])).run Tryz.prog w = .ok (.bool (!(a == c && b == d))) w := by
  rw [run_neq_struct, Tryz.prefEqual]; rfl
theorem Tryz.prefEql (a b c d : Int) (w : World) : (binOp .eql 30 (.agg #[.int .i64 a, .int .i64 b]) (.agg #[.int .i64 c, .int .i64 d])).run Tryz.prog w = .ok (.bool (a == c && b == d)) w := by
  rw [run_eql_struct, Tryz.prefEqual]; rfl
end Go.Proofs.YthnkjfgiclolaaaGreatDoor

namespace Go.Proofs.YthnkjfgiclolaaaGreatDoor
open Go.RowKit
set_option linter.unusedVariables false

set_option maxRecDepth 10000 in
set_option maxHeartbeats 8000000 in
theorem sameRl (r : Rl) (fv tv fv' tv' : Value) (w : World) (h1 : Spns w fv r.fr) (h2 : Spns w tv r.tl) (h3 : Spns w fv' r.fr) (h4 : Spns w tv' r.tl) :
    Calls Tryz.prog 26 #[rlV r fv tv, rlV r fv' tv'] w fun e w' => e = .returned (.bool true) ∧ Below w.heap.size w w' := by
  have hR1 := RlAt.new w r fv tv
  have b1 : Below w.heap.size w (w.alloc (.cells #[.bool r.pass, .bool r.quick, .bool r.keep, .int .i64 r.way, .int .i64 r.kind, .int .i64 r.sa, .int .i64 r.sl, .int .i64 r.da, .int .i64 r.dl, fv, tv] 33)) := (Below.refl _ _).alloc (Nat.le_refl _) _
  have hR2 := RlAt.new (w.alloc (.cells #[.bool r.pass, .bool r.quick, .bool r.keep, .int .i64 r.way, .int .i64 r.kind, .int .i64 r.sa, .int .i64 r.sl, .int .i64 r.da, .int .i64 r.dl, fv, tv] 33)) r fv' tv'
  have b2 : Below w.heap.size w ((w.alloc (.cells #[.bool r.pass, .bool r.quick, .bool r.keep, .int .i64 r.way, .int .i64 r.kind, .int .i64 r.sa, .int .i64 r.sl, .int .i64 r.da, .int .i64 r.dl, fv, tv] 33)).alloc (.cells #[.bool r.pass, .bool r.quick, .bool r.keep, .int .i64 r.way, .int .i64 r.kind, .int .i64 r.sa, .int .i64 r.sl, .int .i64 r.da, .int .i64 r.dl, fv', tv'] 33)) := b1.alloc (by simp) _
  have hR1' := hR1.keep (Below.heap_alloc (w.alloc (.cells #[.bool r.pass, .bool r.quick, .bool r.keep, .int .i64 r.way, .int .i64 r.kind, .int .i64 r.sa, .int .i64 r.sl, .int .i64 r.da, .int .i64 r.dl, fv, tv] 33)) (.cells #[.bool r.pass, .bool r.quick, .bool r.keep, .int .i64 r.way, .int .i64 r.kind, .int .i64 r.sa, .int .i64 r.sl, .int .i64 r.da, .int .i64 r.dl, fv', tv'] 33) w.heap.size (by simp))
  rw [show (w.alloc (.cells #[.bool r.pass, .bool r.quick, .bool r.keep, .int .i64 r.way, .int .i64 r.kind, .int .i64 r.sa, .int .i64 r.sl, .int .i64 r.da, .int .i64 r.dl, fv, tv] 33)).heap.size = w.heap.size + 1 by simp] at hR2
  obtain ⟨a1, c1, e1⟩ := h1.len
  obtain ⟨a2, c2, e2⟩ := h2.len
  obtain ⟨a3, c3, e3⟩ := h3.len
  obtain ⟨a4, c4, e4⟩ := h4.len
  generalize r.fr.length = nf at e1 e3
  generalize r.tl.length = nt at e2 e4
  subst e1 e2 e3 e4
  have HS1 := hidE (fun (W : World) (hW : Below w.heap.size w W) => sameSp _ _ r.fr W (h1.below hW) (h3.below hW))
  have HS2 := hidE (fun (W : World) (hW : Below w.heap.size w W) => sameSp _ _ r.tl W (h2.below hW) (h4.below hW))
  unfold rlV
  have hg := Tryz.prefGuard
  have hq1 := Tryz.prefEql r.sa r.sl r.sa r.sl
  have hq2 := Tryz.prefEql r.da r.dl r.da r.dl
  rw [show (r.sa == r.sa && r.sl == r.sl) = true by simp] at hq1
  rw [show (r.da == r.da && r.dl == r.dl) = true by simp] at hq2
  clear h1 h2 h3 h4 hR1 b1
  go_enter Tryz.func26, Tryz.ntmps26
  go_upto_region 1 with fail
  obtain ⟨W2, hW2⟩ : ∃ W2, ((w.alloc (.cells #[.bool r.pass, .bool r.quick, .bool r.keep, .int .i64 r.way, .int .i64 r.kind, .int .i64 r.sa, .int .i64 r.sl, .int .i64 r.da, .int .i64 r.dl, .slice a1 nf c1, .slice a2 nt c2] 33)).alloc (.cells #[.bool r.pass, .bool r.quick, .bool r.keep, .int .i64 r.way, .int .i64 r.kind, .int .i64 r.sa, .int .i64 r.sl, .int .i64 r.da, .int .i64 r.dl, .slice a3 nf c3, .slice a4 nt c4] 33)) = W2 := ⟨_, rfl⟩
  rw [hW2] at hR1' hR2 b2 ⊢
  have HA := hidE hR1'
  have HB := hidE hR2
  have HBL := hidE b2
  obtain ⟨x0, x1, x2, x3, x4, x5, x6, x7, x8, x9, x10⟩ := hR1'.cells
  obtain ⟨y0, y1, y2, y3, y4, y5, y6, y7, y8, y9, y10⟩ := hR2.cells
  have hs1 := HS1.out W2 b2
  clear hW2 hR1' hR2 b2
  go_upto_region 2 with (go_at_call 63; go_must (refine hs1.mono ?_; rintro e w3 ⟨rfl, b3⟩))
  have HA3 := hidE (HA.out.below HA.out.lt b3)
  have HB3 := hidE (HB.out.below HB.out.lt b3)
  have HBL3 := hidE (HBL.out.trans (b3.mono HBL.out.size))
  have hs2 := HS2.out w3 HBL3.out
  clear x0 x1 x2 x3 x4 x5 x6 x7 x8 x9 x10 y0 y1 y2 y3 y4 y5 y6 y7 y8 y9 y10 hs1 b3 HA HB HBL
  obtain ⟨x0, x1, x2, x3, x4, x5, x6, x7, x8, x9, x10⟩ := HA3.out.cells
  obtain ⟨y0, y1, y2, y3, y4, y5, y6, y7, y8, y9, y10⟩ := HB3.out.cells
  go_upto_region 3 with (go_at_call 63; go_must (refine hs2.mono ?_; rintro e w4 ⟨rfl, b4⟩))
  have HA4 := hidE (HA3.out.below HA3.out.lt b4)
  have HB4 := hidE (HB3.out.below HB3.out.lt b4)
  have HBL4 := hidE (HBL3.out.trans (b4.mono HBL3.out.size))
  clear x0 x1 x2 x3 x4 x5 x6 x7 x8 x9 x10 y0 y1 y2 y3 y4 y5 y6 y7 y8 y9 y10 hs2 b4 HA3 HB3 HBL3
  obtain ⟨x0, x1, x2, x3, x4, x5, x6, x7, x8, x9, x10⟩ := HA4.out.cells
  obtain ⟨y0, y1, y2, y3, y4, y5, y6, y7, y8, y9, y10⟩ := HB4.out.cells
  go_wp2_with fail
  go_ret
  exact ⟨rfl, HBL4.out⟩
end Go.Proofs.YthnkjfgiclolaaaGreatDoor

namespace Go.Proofs.YthnkjfgiclolaaaGreatDoor
open Go.RowKit
set_option linter.unusedVariables false

set_option maxRecDepth 10000 in
set_option maxHeartbeats 8000000 in
theorem sameRls (v1 v2 : Value) (p q : List (Rl × Value × Value)) (w : World) (h1 : Rls w v1 p) (h2 : Rls w v2 q) (he : p.map Prod.fst = q.map Prod.fst) :
    Calls Tryz.prog 12 #[v1, v2] w fun e w' => e = .returned (.bool true) ∧ Below w.heap.size w w' := by
  obtain ⟨a1, c1, e1⟩ := h1.len
  obtain ⟨a2, c2, e2⟩ := h2.len
  have hl : p.length = q.length := by have := congrArg List.length he; simpa using this
  have HEQ : Hid (∀ i (hi : i < p.length) (hj : i < q.length), p[i].1 = q[i].1) := fun i hi hj => by
    have h := congrArg (fun l => l[i]?) he
    simp only [List.getElem?_map, List.getElem?_eq_getElem hi, List.getElem?_eq_getElem hj, Option.map_some, Option.some.injEq] at h
    exact h
  obtain ⟨N, hN⟩ : ∃ N, p.length = N := ⟨_, rfl⟩
  have hq : q.length = N := by omega
  rw [hN] at e1
  rw [hq] at e2
  subst e1 e2
  have HN := hidE (show p.length = N ∧ q.length = N from ⟨hN, hq⟩)
  have H1 := hidE h1
  have H2 := hidE h2
  have hnn : ((N : Int) != (N : Int)) = false := by simp
  clear h1 h2 he hl hN hq
  go_enter Tryz.func12, Tryz.ntmps12
  go_upto_region 4 with fail
  go_loopw [5, 6] (fun i _ wr => ∃ k : Nat, k ≤ N ∧ i = .int .i64 (k : Int) ∧ Below w.heap.size w wr) (fun i _ _ => ((N : Int) - intOf i).toNat)
  case atStart => exact ⟨0, by omega, rfl, Below.refl _ _⟩
  case round =>
    obtain ⟨k, hk, rfl, hb⟩ := hrel
    by_cases hkn : k < N
    · have i1 : (k : Int) < (N : Int) := by omega
      have i2 : (0 : Int) ≤ (k : Int) := by omega
      have hkp : k < p.length := by have := HN.out.1; omega
      have hkq : k < q.length := by have := HN.out.2; omega
      obtain ⟨b1, o1, e1, hb1, hl1, hx1, hc1⟩ := H1.out.shape (by omega)
      obtain ⟨b2, o2, e2, hb2, hl2, hx2, hc2⟩ := H2.out.shape (by omega)
      subst e1 e2
      have hx1' : c1 ≤ 9223372036854775807 := by unfold maxLen at hx1; omega
      have hx2' : c2 ≤ 9223372036854775807 := by unfold maxLen at hx2; omega
      have hC1 := (hc1 k hkp).below hb1 hb
      have hC2 := (hc2 k hkq).below hb2 hb
      rw [← HEQ.out k hkp hkq] at hC2
      generalize p[k].1 = r at hC1 hC2
      generalize p[k].2.1 = fv at hC1
      generalize p[k].2.2 = tv at hC1
      generalize q[k].2.1 = fv' at hC2
      generalize q[k].2.2 = tv' at hC2
      obtain ⟨f1, g1, hf1⟩ := hC1.2.1.len
      obtain ⟨t1, u1, ht1⟩ := hC1.2.2.1.len
      obtain ⟨f2, g2, hf2⟩ := hC2.2.1.len
      obtain ⟨t2, u2, ht2⟩ := hC2.2.2.1.len
      generalize r.fr.length = nf at hf1 hf2
      generalize r.tl.length = nt at ht1 ht2
      subst hf1 ht1 hf2 ht2
      obtain ⟨⟨x0, x1, x2, x3, x4, x5, x6, x7, x8, x9, x10⟩, s1, s2, _, _⟩ := hC1
      obtain ⟨⟨y0, y1, y2, y3, y4, y5, y6, y7, y8, y9, y10⟩, s3, s4, _, _⟩ := hC2
      have hsr := sameRl r (.slice f1 nf g1) (.slice t1 nt u1) (.slice f2 nf g2) (.slice t2 nt u2) wr.drew s1.drew s2.drew s3.drew s4.drew
      unfold rlV at hsr
      have HB := hidE hb
      have hS : wr.cell? ⟨b1, o1 + k * 11, none⟩ = some (.bool r.pass) ∧ wr.cell? ⟨b1, o1 + k * 11 + 1, none⟩ = some (.bool r.quick) ∧ wr.cell? ⟨b1, o1 + k * 11 + 2, none⟩ = some (.bool r.keep) ∧ wr.cell? ⟨b1, o1 + k * 11 + 3, none⟩ = some (.int .i64 r.way) ∧ wr.cell? ⟨b1, o1 + k * 11 + 4, none⟩ = some (.int .i64 r.kind) ∧ wr.cell? ⟨b1, o1 + k * 11 + 5, none⟩ = some (.int .i64 r.sa) ∧ wr.cell? ⟨b1, o1 + k * 11 + 6, none⟩ = some (.int .i64 r.sl) ∧ wr.cell? ⟨b1, o1 + k * 11 + 7, none⟩ = some (.int .i64 r.da) ∧ wr.cell? ⟨b1, o1 + k * 11 + 8, none⟩ = some (.int .i64 r.dl) ∧ wr.cell? ⟨b1, o1 + k * 11 + 9, none⟩ = some (.slice f1 nf g1) ∧ wr.cell? ⟨b1, o1 + k * 11 + 10, none⟩ = some (.slice t1 nt u1) ∧ wr.cell? ⟨b2, o2 + k * 11, none⟩ = some (.bool r.pass) ∧ wr.cell? ⟨b2, o2 + k * 11 + 1, none⟩ = some (.bool r.quick) ∧ wr.cell? ⟨b2, o2 + k * 11 + 2, none⟩ = some (.bool r.keep) ∧ wr.cell? ⟨b2, o2 + k * 11 + 3, none⟩ = some (.int .i64 r.way) ∧ wr.cell? ⟨b2, o2 + k * 11 + 4, none⟩ = some (.int .i64 r.kind) ∧ wr.cell? ⟨b2, o2 + k * 11 + 5, none⟩ = some (.int .i64 r.sa) ∧ wr.cell? ⟨b2, o2 + k * 11 + 6, none⟩ = some (.int .i64 r.sl) ∧ wr.cell? ⟨b2, o2 + k * 11 + 7, none⟩ = some (.int .i64 r.da) ∧ wr.cell? ⟨b2, o2 + k * 11 + 8, none⟩ = some (.int .i64 r.dl) ∧ wr.cell? ⟨b2, o2 + k * 11 + 9, none⟩ = some (.slice f2 nf g2) ∧ wr.cell? ⟨b2, o2 + k * 11 + 10, none⟩ = some (.slice t2 nt u2) := ⟨x0, x1, x2, x3, x4, x5, x6, x7, x8, x9, x10, y0, y1, y2, y3, y4, y5, y6, y7, y8, y9, y10⟩
      have hB1 : b1 < wr.heap.size := Nat.lt_of_lt_of_le hb1 hb.size
      have hB2 : b2 < wr.heap.size := Nat.lt_of_lt_of_le hb2 hb.size
      clear hc1 hc2 hx1 hx2 s1 s2 s3 s4 hb
      go_upto_region 6 with fail
      go_region_held3 (fun X => X.cell? ⟨b1, o1 + k * 11, none⟩ = some (.bool r.pass) ∧ X.cell? ⟨b1, o1 + k * 11 + 1, none⟩ = some (.bool r.quick) ∧ X.cell? ⟨b1, o1 + k * 11 + 2, none⟩ = some (.bool r.keep) ∧ X.cell? ⟨b1, o1 + k * 11 + 3, none⟩ = some (.int .i64 r.way) ∧ X.cell? ⟨b1, o1 + k * 11 + 4, none⟩ = some (.int .i64 r.kind) ∧ X.cell? ⟨b1, o1 + k * 11 + 5, none⟩ = some (.int .i64 r.sa) ∧ X.cell? ⟨b1, o1 + k * 11 + 6, none⟩ = some (.int .i64 r.sl) ∧ X.cell? ⟨b1, o1 + k * 11 + 7, none⟩ = some (.int .i64 r.da) ∧ X.cell? ⟨b1, o1 + k * 11 + 8, none⟩ = some (.int .i64 r.dl) ∧ X.cell? ⟨b1, o1 + k * 11 + 9, none⟩ = some (.slice f1 nf g1) ∧ X.cell? ⟨b1, o1 + k * 11 + 10, none⟩ = some (.slice t1 nt u1) ∧ X.cell? ⟨b2, o2 + k * 11, none⟩ = some (.bool r.pass) ∧ X.cell? ⟨b2, o2 + k * 11 + 1, none⟩ = some (.bool r.quick) ∧ X.cell? ⟨b2, o2 + k * 11 + 2, none⟩ = some (.bool r.keep) ∧ X.cell? ⟨b2, o2 + k * 11 + 3, none⟩ = some (.int .i64 r.way) ∧ X.cell? ⟨b2, o2 + k * 11 + 4, none⟩ = some (.int .i64 r.kind) ∧ X.cell? ⟨b2, o2 + k * 11 + 5, none⟩ = some (.int .i64 r.sa) ∧ X.cell? ⟨b2, o2 + k * 11 + 6, none⟩ = some (.int .i64 r.sl) ∧ X.cell? ⟨b2, o2 + k * 11 + 7, none⟩ = some (.int .i64 r.da) ∧ X.cell? ⟨b2, o2 + k * 11 + 8, none⟩ = some (.int .i64 r.dl) ∧ X.cell? ⟨b2, o2 + k * 11 + 9, none⟩ = some (.slice f2 nf g2) ∧ X.cell? ⟨b2, o2 + k * 11 + 10, none⟩ = some (.slice t2 nt u2)) (with_reducible first | assumption | go_keep) (first
        | (go_at_call 26; refine hsr.mono ?_; rintro e w2 ⟨rfl, bw2⟩; have b2' := belowD wr bw2; have hS2 : w2.cell? ⟨b1, o1 + k * 11, none⟩ = some (.bool r.pass) ∧ w2.cell? ⟨b1, o1 + k * 11 + 1, none⟩ = some (.bool r.quick) ∧ w2.cell? ⟨b1, o1 + k * 11 + 2, none⟩ = some (.bool r.keep) ∧ w2.cell? ⟨b1, o1 + k * 11 + 3, none⟩ = some (.int .i64 r.way) ∧ w2.cell? ⟨b1, o1 + k * 11 + 4, none⟩ = some (.int .i64 r.kind) ∧ w2.cell? ⟨b1, o1 + k * 11 + 5, none⟩ = some (.int .i64 r.sa) ∧ w2.cell? ⟨b1, o1 + k * 11 + 6, none⟩ = some (.int .i64 r.sl) ∧ w2.cell? ⟨b1, o1 + k * 11 + 7, none⟩ = some (.int .i64 r.da) ∧ w2.cell? ⟨b1, o1 + k * 11 + 8, none⟩ = some (.int .i64 r.dl) ∧ w2.cell? ⟨b1, o1 + k * 11 + 9, none⟩ = some (.slice f1 nf g1) ∧ w2.cell? ⟨b1, o1 + k * 11 + 10, none⟩ = some (.slice t1 nt u1) ∧ w2.cell? ⟨b2, o2 + k * 11, none⟩ = some (.bool r.pass) ∧ w2.cell? ⟨b2, o2 + k * 11 + 1, none⟩ = some (.bool r.quick) ∧ w2.cell? ⟨b2, o2 + k * 11 + 2, none⟩ = some (.bool r.keep) ∧ w2.cell? ⟨b2, o2 + k * 11 + 3, none⟩ = some (.int .i64 r.way) ∧ w2.cell? ⟨b2, o2 + k * 11 + 4, none⟩ = some (.int .i64 r.kind) ∧ w2.cell? ⟨b2, o2 + k * 11 + 5, none⟩ = some (.int .i64 r.sa) ∧ w2.cell? ⟨b2, o2 + k * 11 + 6, none⟩ = some (.int .i64 r.sl) ∧ w2.cell? ⟨b2, o2 + k * 11 + 7, none⟩ = some (.int .i64 r.da) ∧ w2.cell? ⟨b2, o2 + k * 11 + 8, none⟩ = some (.int .i64 r.dl) ∧ w2.cell? ⟨b2, o2 + k * 11 + 9, none⟩ = some (.slice f2 nf g2) ∧ w2.cell? ⟨b2, o2 + k * 11 + 10, none⟩ = some (.slice t2 nt u2) := ⟨(b2'.cell (p := ⟨b1, o1 + k * 11, none⟩) hB1).trans x0, (b2'.cell (p := ⟨b1, o1 + k * 11 + 1, none⟩) hB1).trans x1, (b2'.cell (p := ⟨b1, o1 + k * 11 + 2, none⟩) hB1).trans x2, (b2'.cell (p := ⟨b1, o1 + k * 11 + 3, none⟩) hB1).trans x3, (b2'.cell (p := ⟨b1, o1 + k * 11 + 4, none⟩) hB1).trans x4, (b2'.cell (p := ⟨b1, o1 + k * 11 + 5, none⟩) hB1).trans x5, (b2'.cell (p := ⟨b1, o1 + k * 11 + 6, none⟩) hB1).trans x6, (b2'.cell (p := ⟨b1, o1 + k * 11 + 7, none⟩) hB1).trans x7, (b2'.cell (p := ⟨b1, o1 + k * 11 + 8, none⟩) hB1).trans x8, (b2'.cell (p := ⟨b1, o1 + k * 11 + 9, none⟩) hB1).trans x9, (b2'.cell (p := ⟨b1, o1 + k * 11 + 10, none⟩) hB1).trans x10, (b2'.cell (p := ⟨b2, o2 + k * 11, none⟩) hB2).trans y0, (b2'.cell (p := ⟨b2, o2 + k * 11 + 1, none⟩) hB2).trans y1, (b2'.cell (p := ⟨b2, o2 + k * 11 + 2, none⟩) hB2).trans y2, (b2'.cell (p := ⟨b2, o2 + k * 11 + 3, none⟩) hB2).trans y3, (b2'.cell (p := ⟨b2, o2 + k * 11 + 4, none⟩) hB2).trans y4, (b2'.cell (p := ⟨b2, o2 + k * 11 + 5, none⟩) hB2).trans y5, (b2'.cell (p := ⟨b2, o2 + k * 11 + 6, none⟩) hB2).trans y6, (b2'.cell (p := ⟨b2, o2 + k * 11 + 7, none⟩) hB2).trans y7, (b2'.cell (p := ⟨b2, o2 + k * 11 + 8, none⟩) hB2).trans y8, (b2'.cell (p := ⟨b2, o2 + k * 11 + 9, none⟩) hB2).trans y9, (b2'.cell (p := ⟨b2, o2 + k * 11 + 10, none⟩) hB2).trans y10⟩))
      go_wp2_with fail
      go_roundw
      case rel => exact ⟨k + 1, by omega, by go_num, HB.out.trans (b2'.mono HB.out.size)⟩
      case measure => simp [intOf]; omega
    · have i1 : ¬ (k : Int) < (N : Int) := by omega
      go_wp2_with fail
      go_ret
      exact ⟨rfl, hb⟩
end Go.Proofs.YthnkjfgiclolaaaGreatDoor

namespace Go.Proofs.YthnkjfgiclolaaaGreatDoor
open Go.RowKit
set_option linter.unusedVariables false

theorem ErrLaid.lt {w : World} (h : ErrLaid w) : 2 < w.heap.size := by
  rcases Nat.lt_or_ge 2 w.heap.size with h1 | h1
  · exact h1
  · unfold ErrLaid at h; simp [World.cell?, Array.getElem?_eq_none h1] at h
theorem ErrLaid.below {w w' : World} (h : ErrLaid w) (hb : Below w.heap.size w w') : ErrLaid w' := by
  have e := hb.cell (p := ⟨2, 0, none⟩) h.lt
  unfold ErrLaid at *
  rw [e]; exact h

/-- An error that is nil (0), or the Errno k. -/
def ErrVal (v : Value) (k : Int) : Prop := (v = .nilIface ∧ k = 0) ∨ v = .iface 45 (.int .i64 k)

theorem told_nil (w : World) :
    Calls Tryz.prog 15 #[.nilIface] w fun e w' => e = .returned (.int .i64 0) ∧ w' = w := by
  go_enter Tryz.func15, Tryz.ntmps15
  go_wp2
  go_ret
  exact ⟨rfl, rfl⟩

set_option maxHeartbeats 1000000 in
theorem told_errno (k : Int) (w : World) (hg : ErrLaid w) :
    Calls Tryz.prog 15 #[.iface 45 (.int .i64 k)] w fun e w' => e = .returned (.int .i64 k) ∧ Below w.heap.size w w' := by
  have b1 : Below w.heap.size w (w.alloc (.cells #[.int .i64 0] 45)) := (Below.refl _ _).alloc (Nat.le_refl _) _
  have hg1 := hg.below b1
  go_enter Tryz.func15, Tryz.ntmps15
  go_wp2_with (go_at_call 34; refine (as_errno k ⟨w.heap.size, 0, none⟩ (.int .i64 0) _ hg1 (by simp) (by simp)).mono ?_; rintro e w' ⟨rfl, rfl⟩)
  go_ret
  refine ⟨rfl, ?_⟩
  exact (((((Below.refl _ _).alloc (Nat.le_refl _) _).alloc (by simp) _).alloc (by simp; omega) _).alloc (by simp; omega) _).alloc (by simp; omega) _

theorem told_val {v : Value} {k : Int} (h : ErrVal v k) (w : World) (hg : ErrLaid w) :
    Calls Tryz.prog 15 #[v] w fun e w' => e = .returned (.int .i64 k) ∧ Below w.heap.size w w' := by
  rcases h with ⟨rfl, rfl⟩ | rfl
  · refine (told_nil w).mono ?_
    rintro e w' ⟨rfl, rfl⟩
    exact ⟨rfl, Below.refl _ _⟩
  · exact told_errno k w hg

theorem error_val {v : Value} {k : Int} (h : ErrVal v k) (n : Int) (w : World) (hg : ErrLaid w) :
    Calls Tryz.prog 6 #[v, .int .i64 n] w fun e w' => e = .returned (.bool (k == n)) ∧ Below w.heap.size w w' := by
  go_enter Tryz.func6, Tryz.ntmps6
  go_wp2_with (go_at_call 15; refine (told_val h w hg).mono ?_; rintro e w' ⟨rfl, hb⟩)
  go_ret
  exact ⟨rfl, hb⟩
end Go.Proofs.YthnkjfgiclolaaaGreatDoor
