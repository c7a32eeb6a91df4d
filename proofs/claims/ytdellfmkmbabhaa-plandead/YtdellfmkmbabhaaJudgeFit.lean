/- What package judge's anyOr, open, upTo, isKey and Fits return. -/
import Derived.Test.YtdellfmkmbabhaaJudgeMath
import Derived.Test.YtdellfmkmbabhaaRlV
import Derived.Test.YtdellfmkmbabhaaAddrHas
import Derived.Test.YtdellfmkmbabhaaSpnHas
import Derived.Deep.DeepMust
namespace Go.Proofs.Ytdellfmkmbabhaa
open Go.RowKit
set_option linter.unusedVariables false
set_option maxRecDepth 4000

theorem anyOr_any (a b : Int) (w : World) : Calls Try.prog 58 #[.int .i64 a, .int .i64 b] w fun e w' => e = .returned (.bool (anyB a b)) ∧ w' = w := by
  rcases h1 : (a == 0) with _ | _
  · rcases h2 : (a == b) with _ | _
    · rw [show anyB a b = false by unfold anyB; rw [h1, h2]; rfl]
      go_enter Try.func58, Try.ntmps58
      go_wp2; go_ret; exact ⟨rfl, rfl⟩
    · rw [show anyB a b = true by unfold anyB; rw [h1, h2]; rfl]
      go_enter Try.func58, Try.ntmps58
      go_wp2; go_ret; exact ⟨rfl, rfl⟩
  · rw [show anyB a b = true by unfold anyB; rw [h1]; rfl]
    go_enter Try.func58, Try.ntmps58
    go_wp2; go_ret; exact ⟨rfl, rfl⟩
def upQ (n m : Int) : Bool := decide (0 ≤ n) && decide (n ≤ m)
theorem upTo_any (n m : Int) (w : World) : Calls Try.prog 57 #[.int .i64 n, .int .i64 m] w fun e w' => e = .returned (.bool (upQ n m)) ∧ w' = w := by
  by_cases h1 : 0 ≤ n
  · by_cases h2 : n ≤ m
    · rw [show upQ n m = true by simp [upQ, h1, h2]]
      go_enter Try.func57, Try.ntmps57
      go_wp2; go_ret; exact ⟨rfl, rfl⟩
    · rw [show upQ n m = false by simp [upQ, h2]]
      go_enter Try.func57, Try.ntmps57
      go_wp2; go_ret; exact ⟨rfl, rfl⟩
  · rw [show upQ n m = false by simp [upQ, h1]]
    go_enter Try.func57, Try.ntmps57
    go_wp2; go_ret; exact ⟨rfl, rfl⟩
theorem open_any (v : Value) (l : List Sp) (n : Int) (w : World) (hv : Spns w v l) (hl : l.length ≤ 140737488355328) :
    Calls Try.prog 60 #[v, .int .i64 n] w fun e w' => e = .returned (.bool (portB l n)) ∧ Below w.heap.size w w' := by
  have hh := Has_any v l n w hv hl
  obtain ⟨ao, co, rfl⟩ := hv.len
  by_cases h0 : l.length = 0
  · rw [show portB l n = true by unfold portB; rw [decide_eq_true h0]; rfl]
    rw [h0] at hh ⊢
    clear hv hh
    go_enter Try.func60, Try.ntmps60
    go_wp2; go_ret; exact ⟨rfl, Below.refl _ _⟩
  · rw [show portB l n = (decide (spE l = 0) && inB l n) by unfold portB; rw [decide_eq_false h0]; rfl]
    generalize (decide (spE l = 0) && inB l n) = t at hh ⊢
    have i1 : ((l.length : Int) == 0) = false := by rw [beq_eq_false_iff_ne]; omega
    generalize l.length = N at hh i1 ⊢
    clear hv h0
    go_enter Try.func60, Try.ntmps60
    go_wp2_with (go_at_call 68; go_must (refine hh.mono ?_; rintro e w2 ⟨rfl, b2⟩))
    go_ret
    exact ⟨rfl, b2⟩
theorem keyB_up (k : Ky) (way : Int) : keyB k way = ((upQ k.kind 15 && (upQ k.src 4294967295 && (upQ k.dst 4294967295 && (upQ k.frm 65535 && upQ k.too 65535)))) && (way == 1 || way == 2)) := by
  have ha : ∀ n, isAddr n = upQ n 4294967295 := fun n => by unfold isAddr upQ; rw [Bool.decide_and]
  unfold keyB
  rw [ha, ha]
  unfold upQ
  simp only [Bool.and_assoc]
def isKeyB (k : Ky) : Bool := upQ k.kind 15 && (upQ k.src 4294967295 && (upQ k.dst 4294967295 && (upQ k.frm 65535 && upQ k.too 65535)))
set_option maxHeartbeats 4000000 in
theorem isKey_any (k : Ky) (w : World) : Calls Try.prog 38 #[keyV k] w fun e w' => e = .returned (.bool (isKeyB k)) ∧ Below w.heap.size w w' := by
  have b1 : Below w.heap.size w (w.alloc (.cells #[.int .i64 k.kind, .int .i64 k.src, .int .i64 k.frm, .int .i64 k.dst, .int .i64 k.too] 24)) := (Below.refl _ _).alloc (Nat.le_refl _) _
  have u0 := upTo_any k.kind 15
  have u1 := upTo_any k.src 4294967295
  have u2 := upTo_any k.dst 4294967295
  have u3 := upTo_any k.frm 65535
  have u4 := upTo_any k.too 65535
  unfold keyV isKeyB
  obtain ⟨a, b, c, d, e⟩ := k
  simp only at u0 u1 u2 u3 u4 b1 ⊢
  generalize upQ a 15 = t0 at u0 ⊢
  generalize upQ b 4294967295 = t1 at u1 ⊢
  generalize upQ d 4294967295 = t2 at u2 ⊢
  generalize upQ c 65535 = t3 at u3 ⊢
  generalize upQ e 65535 = t4 at u4 ⊢
  have m0 : True := trivial
  cases t0 with
  | false =>
    go_enter Try.func38, Try.ntmps38
    go_wp2_with (go_at_call 57; refine (u0 _).mono ?_; rintro e w2 ⟨rfl, h⟩; rw [h]; clear h)
    go_ret; exact ⟨rfl, b1⟩
  | true =>
  cases t1 with
  | false =>
    go_enter Try.func38, Try.ntmps38
    go_wp2_with (go_at_call 57; first
      | (have m1 : True := m0; clear m0; refine (u0 _).mono ?_; rintro e w2 ⟨rfl, h⟩; rw [h]; clear h)
      | (have m2 : True := m1; clear m1; refine (u1 _).mono ?_; rintro e w2 ⟨rfl, h⟩; rw [h]; clear h))
    go_ret; exact ⟨rfl, b1⟩
  | true =>
  cases t2 with
  | false =>
    go_enter Try.func38, Try.ntmps38
    go_wp2_with (go_at_call 57; first
      | (have m1 : True := m0; clear m0; refine (u0 _).mono ?_; rintro e w2 ⟨rfl, h⟩; rw [h]; clear h)
      | (have m2 : True := m1; clear m1; refine (u1 _).mono ?_; rintro e w2 ⟨rfl, h⟩; rw [h]; clear h)
      | (have m3 : True := m2; clear m2; refine (u2 _).mono ?_; rintro e w2 ⟨rfl, h⟩; rw [h]; clear h))
    go_ret; exact ⟨rfl, b1⟩
  | true =>
  cases t3 with
  | false =>
    go_enter Try.func38, Try.ntmps38
    go_wp2_with (go_at_call 57; first
      | (have m1 : True := m0; clear m0; refine (u0 _).mono ?_; rintro e w2 ⟨rfl, h⟩; rw [h]; clear h)
      | (have m2 : True := m1; clear m1; refine (u1 _).mono ?_; rintro e w2 ⟨rfl, h⟩; rw [h]; clear h)
      | (have m3 : True := m2; clear m2; refine (u2 _).mono ?_; rintro e w2 ⟨rfl, h⟩; rw [h]; clear h)
      | (have m4 : True := m3; clear m3; refine (u3 _).mono ?_; rintro e w2 ⟨rfl, h⟩; rw [h]; clear h))
    go_ret; exact ⟨rfl, b1⟩
  | true =>
    go_enter Try.func38, Try.ntmps38
    go_wp2_with (go_at_call 57; first
      | (have m1 : True := m0; clear m0; refine (u0 _).mono ?_; rintro e w2 ⟨rfl, h⟩; rw [h]; clear h)
      | (have m2 : True := m1; clear m1; refine (u1 _).mono ?_; rintro e w2 ⟨rfl, h⟩; rw [h]; clear h)
      | (have m3 : True := m2; clear m2; refine (u2 _).mono ?_; rintro e w2 ⟨rfl, h⟩; rw [h]; clear h)
      | (have m4 : True := m3; clear m3; refine (u3 _).mono ?_; rintro e w2 ⟨rfl, h⟩; rw [h]; clear h)
      | (have m5 : True := m4; clear m4; refine (u4 _).mono ?_; rintro e w2 ⟨rfl, h⟩; rw [h]; clear h))
    go_ret; exact ⟨rfl, b1⟩
/-- Behind the boxes of a rule and a key. -/
structure FitW (w W : World) (r : Rl) (k : Ky) (fv tv : Value) : Prop where
  rl : RlAt W w.heap.size r fv tv
  ky : KyAt W (w.heap.size + 1) k
  pf : Spns W fv r.fr
  pt : Spns W tv r.tl
  bel : Below w.heap.size w W
theorem FitW.step {w W W' : World} {r : Rl} {k : Ky} {fv tv : Value} (h : FitW w W r k fv tv) (hb : Below W.heap.size W W') : FitW w W' r k fv tv :=
  ⟨h.rl.below h.rl.lt hb, h.ky.below h.ky.lt hb, h.pf.below hb, h.pt.below hb, h.bel.trans (hb.mono h.bel.size)⟩
theorem FitW.cells {w W : World} {r : Rl} {k : Ky} {fv tv : Value} (h : FitW w W r k fv tv) :
    (W.cell? ⟨w.heap.size, 3, none⟩ = some (.int .i64 r.way) ∧ W.cell? ⟨w.heap.size, 4, none⟩ = some (.int .i64 r.kind) ∧
    W.cell? ⟨w.heap.size, 5, none⟩ = some (.int .i64 r.sa) ∧ W.cell? ⟨w.heap.size, 6, none⟩ = some (.int .i64 r.sl) ∧ W.cell? ⟨w.heap.size, 7, none⟩ = some (.int .i64 r.da) ∧ W.cell? ⟨w.heap.size, 8, none⟩ = some (.int .i64 r.dl) ∧ W.cell? ⟨w.heap.size, 9, none⟩ = some fv ∧ W.cell? ⟨w.heap.size, 10, none⟩ = some tv) ∧
    (W.cell? ⟨w.heap.size + 1, 0, none⟩ = some (.int .i64 k.kind) ∧ W.cell? ⟨w.heap.size + 1, 1, none⟩ = some (.int .i64 k.src) ∧ W.cell? ⟨w.heap.size + 1, 2, none⟩ = some (.int .i64 k.frm) ∧ W.cell? ⟨w.heap.size + 1, 3, none⟩ = some (.int .i64 k.dst) ∧ W.cell? ⟨w.heap.size + 1, 4, none⟩ = some (.int .i64 k.too)) := by
  obtain ⟨_, _, _, d3, d4, d5, d6, d7, d8, d9, d10⟩ := h.rl.cells
  exact ⟨⟨d3, d4, d5, d6, d7, d8, d9, d10⟩, h.ky.cells⟩
theorem FitW.new (w : World) (r : Rl) (k : Ky) (fv tv : Value) (hf : Spns w fv r.fr) (ht : Spns w tv r.tl) :
    FitW w ((w.alloc (.cells #[.bool r.pass, .bool r.quick, .bool r.keep, .int .i64 r.way, .int .i64 r.kind, .int .i64 r.sa, .int .i64 r.sl, .int .i64 r.da, .int .i64 r.dl, fv, tv] 34)).alloc (.cells #[.int .i64 k.kind, .int .i64 k.src, .int .i64 k.frm, .int .i64 k.dst, .int .i64 k.too] 24)) r k fv tv := by
  have b1 : Below w.heap.size w (w.alloc (.cells #[.bool r.pass, .bool r.quick, .bool r.keep, .int .i64 r.way, .int .i64 r.kind, .int .i64 r.sa, .int .i64 r.sl, .int .i64 r.da, .int .i64 r.dl, fv, tv] 34)) := (Below.refl _ _).alloc (Nat.le_refl _) _
  have hr := RlAt.new w r fv tv
  have hz : (w.alloc (.cells #[.bool r.pass, .bool r.quick, .bool r.keep, .int .i64 r.way, .int .i64 r.kind, .int .i64 r.sa, .int .i64 r.sl, .int .i64 r.da, .int .i64 r.dl, fv, tv] 34)).heap.size = w.heap.size + 1 := by simp
  generalize w.alloc (.cells #[.bool r.pass, .bool r.quick, .bool r.keep, .int .i64 r.way, .int .i64 r.kind, .int .i64 r.sa, .int .i64 r.sl, .int .i64 r.da, .int .i64 r.dl, fv, tv] 34) = W1 at b1 hr hz ⊢
  have b2 : Below W1.heap.size W1 (W1.alloc (.cells #[.int .i64 k.kind, .int .i64 k.src, .int .i64 k.frm, .int .i64 k.dst, .int .i64 k.too] 24)) := (Below.refl _ _).alloc (Nat.le_refl _) _
  have hk := KyAt.new W1 k
  rw [hz] at hk
  exact ⟨hr.below hr.lt b2, hk, (hf.below b1).below b2, (ht.below b1).below b2, b1.trans (b2.mono b1.size)⟩
set_option maxHeartbeats 16000000 in
theorem Fits_any (r : Rl) (fv tv : Value) (k : Ky) (way : Int) (w : World) (hf : Spns w fv r.fr) (ht : Spns w tv r.tl) (hlf : r.fr.length ≤ 140737488355328) (hlt : r.tl.length ≤ 140737488355328) :
    Calls Try.prog 39 #[rlV r fv tv, keyV k, .int .i64 way] w fun e w' => e = .returned (.bool (fitsB r k way)) ∧ Below w.heap.size w w' := by
  have F0 := FitW.new w r k fv tv hf ht
  have u0 := anyOr_any r.way way
  have u1 := anyOr_any r.kind k.kind
  have u2 := has_any r.sa r.sl k.src
  have u3 := has_any r.da r.dl k.dst
  obtain ⟨af, cf, hfe⟩ := hf.len
  obtain ⟨at', ct, hte⟩ := ht.len
  have u4 := fun (W : World) (h : FitW w W r k fv tv) => open_any fv r.fr k.frm W h.pf hlf
  have u5 := fun (W : World) (h : FitW w W r k fv tv) => open_any tv r.tl k.too W h.pt hlt
  unfold keyV rlV fitsB
  generalize anyB r.way way = t0 at u0 ⊢
  generalize anyB r.kind k.kind = t1 at u1 ⊢
  generalize hasB r.sa r.sl k.src = t2 at u2 ⊢
  generalize hasB r.da r.dl k.dst = t3 at u3 ⊢
  generalize portB r.fr k.frm = t4 at u4 ⊢
  generalize portB r.tl k.too = t5 at u5 ⊢
  generalize r.fr.length = nf at hfe
  generalize r.tl.length = nt at hte
  subst hfe hte
  obtain ⟨W0, hW0⟩ : ∃ W0, (w.alloc (.cells #[.bool r.pass, .bool r.quick, .bool r.keep, .int .i64 r.way, .int .i64 r.kind, .int .i64 r.sa, .int .i64 r.sl, .int .i64 r.da, .int .i64 r.dl, .slice af nf cf, .slice at' nt ct] 34)).alloc (.cells #[.int .i64 k.kind, .int .i64 k.src, .int .i64 k.frm, .int .i64 k.dst, .int .i64 k.too] 24) = W0 := ⟨_, rfl⟩
  rw [hW0] at F0
  have HW0 : Hid ((w.alloc (.cells #[.bool r.pass, .bool r.quick, .bool r.keep, .int .i64 r.way, .int .i64 r.kind, .int .i64 r.sa, .int .i64 r.sl, .int .i64 r.da, .int .i64 r.dl, .slice af nf cf, .slice at' nt ct] 34)).alloc (.cells #[.int .i64 k.kind, .int .i64 k.src, .int .i64 k.frm, .int .i64 k.dst, .int .i64 k.too] 24) = W0) := hW0
  clear hW0 hf ht hlf hlt
  go_enter Try.func39, Try.ntmps39
  go_upto_region 1 with fail
  rw [HW0.out]
  clear HW0
  have F := F0
  clear F0
  obtain ⟨⟨c3, c4, c5, c6, c7, c8, c9, c10⟩, k0, k1, k2, k3, k4⟩ := id F.cells
  have m0 : True := trivial
  cases t0 with
  | false =>
    go_wp2_with (go_at_call 58; refine (u0 _).mono ?_; rintro e w2 ⟨rfl, h⟩; rw [h]; clear h)
    go_ret; exact ⟨rfl, F.bel⟩
  | true =>
  cases t1 with
  | false =>
    go_wp2_with (go_at_call 58; first
      | (have m1 : True := m0; clear m0; refine (u0 _).mono ?_; rintro e w2 ⟨rfl, h⟩; rw [h]; clear h)
      | (have m2 : True := m1; clear m1; refine (u1 _).mono ?_; rintro e w2 ⟨rfl, h⟩; rw [h]; clear h))
    go_ret; exact ⟨rfl, F.bel⟩
  | true =>
  cases t2 with
  | false =>
    go_wp2_with (first
      | (go_at_call 58; have m1 : True := m0; clear m0; refine (u0 _).mono ?_; rintro e w2 ⟨rfl, h⟩; rw [h]; clear h)
      | (go_at_call 58; have m2 : True := m1; clear m1; refine (u1 _).mono ?_; rintro e w2 ⟨rfl, h⟩; rw [h]; clear h)
      | (go_at_call 59; refine (u2 _).mono ?_; rintro e w2 ⟨rfl, b2⟩; have F := F.step b2))
    go_ret; exact ⟨rfl, F.bel⟩
  | true =>
  cases t3 with
  | false =>
    go_wp2_with (first
      | (go_at_call 58; have m1 : True := m0; clear m0; refine (u0 _).mono ?_; rintro e w2 ⟨rfl, h⟩; rw [h]; clear h)
      | (go_at_call 58; have m2 : True := m1; clear m1; refine (u1 _).mono ?_; rintro e w2 ⟨rfl, h⟩; rw [h]; clear h)
      | (go_at_call 59; have m3 : True := m2; clear m2; refine (u2 _).mono ?_; rintro e w2 ⟨rfl, b2⟩; have F := F.step b2; obtain ⟨⟨c3, c4, c5, c6, c7, c8, c9, c10⟩, k0, k1, k2, k3, k4⟩ := id F.cells)
      | (go_at_call 59; have m4 : True := m3; clear m3; refine (u3 _).mono ?_; rintro e w3 ⟨rfl, b3⟩; have F := F.step b3))
    go_ret; exact ⟨rfl, F.bel⟩
  | true =>
  cases t4 with
  | false =>
    go_wp2_with (first
      | (go_at_call 58; have m1 : True := m0; clear m0; refine (u0 _).mono ?_; rintro e w2 ⟨rfl, h⟩; rw [h]; clear h)
      | (go_at_call 58; have m2 : True := m1; clear m1; refine (u1 _).mono ?_; rintro e w2 ⟨rfl, h⟩; rw [h]; clear h)
      | (go_at_call 59; have m3 : True := m2; clear m2; refine (u2 _).mono ?_; rintro e w2 ⟨rfl, b2⟩; have F := F.step b2; obtain ⟨⟨c3, c4, c5, c6, c7, c8, c9, c10⟩, k0, k1, k2, k3, k4⟩ := id F.cells)
      | (go_at_call 59; have m4 : True := m3; clear m3; refine (u3 _).mono ?_; rintro e w3 ⟨rfl, b3⟩; have F := F.step b3; obtain ⟨⟨c3, c4, c5, c6, c7, c8, c9, c10⟩, k0, k1, k2, k3, k4⟩ := id F.cells)
      | (go_at_call 60; have m5 : True := m4; clear m4; refine (u4 _ F).mono ?_; rintro e w4 ⟨rfl, b4⟩; have F := F.step b4))
    go_ret; exact ⟨rfl, F.bel⟩
  | true =>
    go_wp2_with (first
      | (go_at_call 58; have m1 : True := m0; clear m0; refine (u0 _).mono ?_; rintro e w2 ⟨rfl, h⟩; rw [h]; clear h)
      | (go_at_call 58; have m2 : True := m1; clear m1; refine (u1 _).mono ?_; rintro e w2 ⟨rfl, h⟩; rw [h]; clear h)
      | (go_at_call 59; have m3 : True := m2; clear m2; refine (u2 _).mono ?_; rintro e w2 ⟨rfl, b2⟩; have F := F.step b2; obtain ⟨⟨c3, c4, c5, c6, c7, c8, c9, c10⟩, k0, k1, k2, k3, k4⟩ := id F.cells)
      | (go_at_call 59; have m4 : True := m3; clear m3; refine (u3 _).mono ?_; rintro e w3 ⟨rfl, b3⟩; have F := F.step b3; obtain ⟨⟨c3, c4, c5, c6, c7, c8, c9, c10⟩, k0, k1, k2, k3, k4⟩ := id F.cells)
      | (go_at_call 60; have m5 : True := m4; clear m4; refine (u4 _ F).mono ?_; rintro e w4 ⟨rfl, b4⟩; have F := F.step b4; obtain ⟨⟨c3, c4, c5, c6, c7, c8, c9, c10⟩, k0, k1, k2, k3, k4⟩ := id F.cells)
      | (go_at_call 60; have m6 : True := m5; clear m5; refine (u5 _ F).mono ?_; rintro e w5 ⟨rfl, b5⟩; have F := F.step b5))
    go_ret; exact ⟨rfl, F.bel⟩
end Go.Proofs.Ytdellfmkmbabhaa
