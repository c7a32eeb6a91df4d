/- What the program's Has and Inside return (package addr), for every input. -/
import Derived.Test.YtdellfmkmbabhaaGreatDoorAddrNum
import Derived.Test.YtdellfmkmbabhaaGreatDoorJudgeMath
import Derived.Test.YtdellfmkmbabhaaGreatDoorRlV
import Derived.Test.YtdellfmkmbabhaaGreatDoorSpnHas
import Derived.Deep.DeepMust
import Derived.Test.YtdellfmkmbabhaaGreatDoorRuleRow
import Derived.Test.YtdellfmkmbabhaaGreatDoorOwnI
import Derived.Test.YtdellfmkmbabhaaGreatDoorMgA
namespace Go.Proofs.YtdellfmkmbabhaaGreatDoor
open Go.RowKit
set_option linter.unusedVariables false

theorem hasB_eq {a l x : Int} (h : prefE a l = 0) : hasB a l x = (decide (a ≤ x) && decide (x ≤ a + pw (32 - l) - 1)) := by
  unfold hasB
  by_cases c : a ≤ x ∧ x ≤ a + pw (32 - l) - 1
  · obtain ⟨c1, c2⟩ := c
    have hx : isAddr x = true := by
      obtain ⟨hA, hL, hm⟩ := prefE_zero h
      apply isAddr_yes (by omega)
      have := pref_top h
      omega
    simp [h, hx, c1, c2]
  · by_cases c1 : a ≤ x
    · have c2 : ¬ x ≤ a + pw (32 - l) - 1 := fun h => c ⟨c1, h⟩
      simp [c2]
    · simp [c1]

/-- Two boxed pairs of numbers read as they did behind whatever only makes memory. -/
theorem boxed2 {w w1 : World} {a l b m : Int} {t : TypeId} (hb : Below ((w.alloc (.cells #[.int .i64 a, .int .i64 l] t)).alloc (.cells #[.int .i64 b, .int .i64 m] t)).heap.size ((w.alloc (.cells #[.int .i64 a, .int .i64 l] t)).alloc (.cells #[.int .i64 b, .int .i64 m] t)) w1) :
    w1.cell? ⟨w.heap.size, 0, none⟩ = some (.int .i64 a) ∧ w1.cell? ⟨w.heap.size, 1, none⟩ = some (.int .i64 l) ∧ w1.cell? ⟨w.heap.size + 1, 0, none⟩ = some (.int .i64 b) ∧ w1.cell? ⟨w.heap.size + 1, 1, none⟩ = some (.int .i64 m) ∧ Below w.heap.size w w1 ∧ w.heap.size + 1 < w1.heap.size := by
  have e : (w.alloc (.cells #[.int .i64 a, .int .i64 l] t)).heap.size = w.heap.size + 1 := by simp
  obtain ⟨c0, c1, b1, z1⟩ := boxed hb
  rw [e] at c0 c1 b1 z1
  have h0 : Below (w.alloc (.cells #[.int .i64 a, .int .i64 l] t)).heap.size (w.alloc (.cells #[.int .i64 a, .int .i64 l] t)) w1 := by rw [e]; exact b1
  obtain ⟨d0, d1, b2, z2⟩ := boxed h0
  exact ⟨d0, d1, c0, c1, b2, z1⟩

theorem boxed2' {w1 w2 : World} {B : Nat} {a l b m : Int} (c0 : w1.cell? ⟨B, 0, none⟩ = some (.int .i64 a)) (c1 : w1.cell? ⟨B, 1, none⟩ = some (.int .i64 l)) (c2 : w1.cell? ⟨B + 1, 0, none⟩ = some (.int .i64 b)) (c3 : w1.cell? ⟨B + 1, 1, none⟩ = some (.int .i64 m)) (z : B + 1 < w1.heap.size) (hb : Below w1.heap.size w1 w2) :
    w2.cell? ⟨B, 0, none⟩ = some (.int .i64 a) ∧ w2.cell? ⟨B, 1, none⟩ = some (.int .i64 l) ∧ w2.cell? ⟨B + 1, 0, none⟩ = some (.int .i64 b) ∧ w2.cell? ⟨B + 1, 1, none⟩ = some (.int .i64 m) := by
  refine ⟨?_, ?_, ?_, ?_⟩
  · rw [hb.cell (p := ⟨B, 0, none⟩) (by show B < _; omega)]; exact c0
  · rw [hb.cell (p := ⟨B, 1, none⟩) (by show B < _; omega)]; exact c1
  · rw [hb.cell (p := ⟨B + 1, 0, none⟩) z]; exact c2
  · rw [hb.cell (p := ⟨B + 1, 1, none⟩) z]; exact c3

set_option maxHeartbeats 1000000 in
theorem has_any (a l x : Int) (w : World) :
    Calls Tryz.prog 51 #[.agg #[.int .i64 a, .int .i64 l], .int .i64 x] w fun e w' => e = .returned (.bool (hasB a l x)) ∧ Below w.heap.size w w' := by
  by_cases h : prefE a l = 0
  · have e := hasB_eq (x := x) h
    rw [e]
    have hck := fun w => check_ok a l w h
    have hen := fun w => ends_ok a l w h
    clear e h
    generalize a + pw (32 - l) - 1 = y at hen ⊢
    by_cases c : a ≤ x
    all_goals
      go_enter Tryz.func51, Tryz.ntmps51
      go_wp2_with (first
        | (go_at_call 57; refine (hen _).mono ?_; rintro e w1 ⟨rfl, hb1⟩; obtain ⟨c0, c1, b1, z1⟩ := boxed hb1)
        | (go_at_call 26; refine (hck _).mono ?_; rintro e w2 ⟨rfl, hb2⟩))
      go_ret
      refine ⟨?_, b1.trans (hb2.mono (Nat.le_of_lt z1))⟩
      first | (simp [c]; done) | (simp; omega)
  · have e : hasB a l x = false := by unfold hasB; simp [h]
    rw [e]
    have hck := fun w => check_bad a l w h
    have hen := fun w => ends_bad a l w h
    clear e h
    go_enter Tryz.func51, Tryz.ntmps51
    go_wp2_with (first
      | (go_at_call 57; refine (hen _).mono ?_; rintro e w1 ⟨rfl, hb1⟩; obtain ⟨c0, c1, b1, z1⟩ := boxed hb1)
      | (go_at_call 26; refine (hck _).mono ?_; rintro e w2 ⟨rfl, hb2⟩))
    go_ret
    exact ⟨rfl, b1.trans (hb2.mono (Nat.le_of_lt z1))⟩

/-- Is the prefix a/l inside the prefix b/m? -/
def insideB (a l b m : Int) : Bool := decide (prefE a l = 0) && (hasB b m a && decide (m ≤ l))

end Go.Proofs.YtdellfmkmbabhaaGreatDoor

namespace Go.Proofs.YtdellfmkmbabhaaGreatDoor
open Go.RowKit
set_option linter.unusedVariables false
set_option maxRecDepth 4000

theorem anyOr_any (a b : Int) (w : World) : Calls Tryz.prog 50 #[.int .i64 a, .int .i64 b] w fun e w' => e = .returned (.bool (anyB a b)) ∧ w' = w := by
  rcases h1 : (a == 0) with _ | _
  · rcases h2 : (a == b) with _ | _
    · rw [show anyB a b = false by unfold anyB; rw [h1, h2]; rfl]
      go_enter Tryz.func50, Tryz.ntmps50
      go_wp2; go_ret; exact ⟨rfl, rfl⟩
    · rw [show anyB a b = true by unfold anyB; rw [h1, h2]; rfl]
      go_enter Tryz.func50, Tryz.ntmps50
      go_wp2; go_ret; exact ⟨rfl, rfl⟩
  · rw [show anyB a b = true by unfold anyB; rw [h1]; rfl]
    go_enter Tryz.func50, Tryz.ntmps50
    go_wp2; go_ret; exact ⟨rfl, rfl⟩
def upQ (n m : Int) : Bool := decide (0 ≤ n) && decide (n ≤ m)
theorem upTo_any (n m : Int) (w : World) : Calls Tryz.prog 49 #[.int .i64 n, .int .i64 m] w fun e w' => e = .returned (.bool (upQ n m)) ∧ w' = w := by
  by_cases h1 : 0 ≤ n
  · by_cases h2 : n ≤ m
    · rw [show upQ n m = true by simp [upQ, h1, h2]]
      go_enter Tryz.func49, Tryz.ntmps49
      go_wp2; go_ret; exact ⟨rfl, rfl⟩
    · rw [show upQ n m = false by simp [upQ, h2]]
      go_enter Tryz.func49, Tryz.ntmps49
      go_wp2; go_ret; exact ⟨rfl, rfl⟩
  · rw [show upQ n m = false by simp [upQ, h1]]
    go_enter Tryz.func49, Tryz.ntmps49
    go_wp2; go_ret; exact ⟨rfl, rfl⟩
theorem open_any (v : Value) (l : List Sp) (n : Int) (w : World) (hv : Spns w v l) (hl : l.length ≤ 140737488355328) :
    Calls Tryz.prog 52 #[v, .int .i64 n] w fun e w' => e = .returned (.bool (portB l n)) ∧ Below w.heap.size w w' := by
  have hh := Has_any v l n w hv hl
  obtain ⟨ao, co, rfl⟩ := hv.len
  by_cases h0 : l.length = 0
  · rw [show portB l n = true by unfold portB; rw [decide_eq_true h0]; rfl]
    rw [h0] at hh ⊢
    clear hv hh
    go_enter Tryz.func52, Tryz.ntmps52
    go_wp2; go_ret; exact ⟨rfl, Below.refl _ _⟩
  · rw [show portB l n = (decide (spE l = 0) && inB l n) by unfold portB; rw [decide_eq_false h0]; rfl]
    generalize (decide (spE l = 0) && inB l n) = t at hh ⊢
    have i1 : ((l.length : Int) == 0) = false := by rw [beq_eq_false_iff_ne]; omega
    generalize l.length = N at hh i1 ⊢
    clear hv h0
    go_enter Tryz.func52, Tryz.ntmps52
    go_wp2_with (go_at_call 65; go_must (refine hh.mono ?_; rintro e w2 ⟨rfl, b2⟩))
    go_ret
    exact ⟨rfl, b2⟩
theorem keyB_up (k : Ky) (way : Int) : keyB k way = ((upQ k.kind 15 && (upQ k.src 4294967295 && (upQ k.dst 4294967295 && (upQ k.frm 65535 && upQ k.too 65535)))) && (way == 1 || way == 2)) := by
  have ha : ∀ n, isAddr n = upQ n 4294967295 := fun n => by unfold isAddr upQ; rw [Bool.decide_and]
  unfold keyB
  rw [ha, ha]
  unfold upQ
  simp only [Bool.and_assoc]
def isKeyB (k : Ky) : Bool := upQ k.kind 15 && (upQ k.src 4294967295 && (upQ k.dst 4294967295 && (upQ k.frm 65535 && upQ k.too 65535)))
set_option maxHeartbeats 4000000 in
theorem isKey_any (k : Ky) (w : World) : Calls Tryz.prog 23 #[keyV k] w fun e w' => e = .returned (.bool (isKeyB k)) ∧ Below w.heap.size w w' := by
  have b1 : Below w.heap.size w (w.alloc (.cells #[.int .i64 k.kind, .int .i64 k.src, .int .i64 k.frm, .int .i64 k.dst, .int .i64 k.too] 24)) := (Below.refl _ _).alloc (Nat.le_refl _) _
  have u0 := upTo_any k.kind 15
  have u1 := upTo_any k.src 4294967295
  have u2 := upTo_any k.dst 4294967295
  have u3 := upTo_any k.frm 65535
  have u4 := upTo_any k.too 65535
  unfold keyV isKeyB
  obtain ⟨a, b, c, d, e⟩ := k
  simp only at u0 u1 u2 u3 u4 b1 ⊢
  generalize upQ a 15 = t0 at u0 ⊢
  generalize upQ b 4294967295 = t1 at u1 ⊢
  generalize upQ d 4294967295 = t2 at u2 ⊢
  generalize upQ c 65535 = t3 at u3 ⊢
  generalize upQ e 65535 = t4 at u4 ⊢
  have m0 : True := trivial
  cases t0 with
  | false =>
    go_enter Tryz.func23, Tryz.ntmps23
    go_wp2_with (go_at_call 49; refine (u0 _).mono ?_; rintro e w2 ⟨rfl, h⟩; rw [h]; clear h)
    go_ret; exact ⟨rfl, b1⟩
  | true =>
  cases t1 with
  | false =>
    go_enter Tryz.func23, Tryz.ntmps23
    go_wp2_with (go_at_call 49; first
      | (have m1 : True := m0; clear m0; refine (u0 _).mono ?_; rintro e w2 ⟨rfl, h⟩; rw [h]; clear h)
      | (have m2 : True := m1; clear m1; refine (u1 _).mono ?_; rintro e w2 ⟨rfl, h⟩; rw [h]; clear h))
    go_ret; exact ⟨rfl, b1⟩
  | true =>
  cases t2 with
  | false =>
    go_enter Tryz.func23, Tryz.ntmps23
    go_wp2_with (go_at_call 49; first
      | (have m1 : True := m0; clear m0; refine (u0 _).mono ?_; rintro e w2 ⟨rfl, h⟩; rw [h]; clear h)
      | (have m2 : True := m1; clear m1; refine (u1 _).mono ?_; rintro e w2 ⟨rfl, h⟩; rw [h]; clear h)
      | (have m3 : True := m2; clear m2; refine (u2 _).mono ?_; rintro e w2 ⟨rfl, h⟩; rw [h]; clear h))
    go_ret; exact ⟨rfl, b1⟩
  | true =>
  cases t3 with
  | false =>
    go_enter Tryz.func23, Tryz.ntmps23
    go_wp2_with (go_at_call 49; first
      | (have m1 : True := m0; clear m0; refine (u0 _).mono ?_; rintro e w2 ⟨rfl, h⟩; rw [h]; clear h)
      | (have m2 : True := m1; clear m1; refine (u1 _).mono ?_; rintro e w2 ⟨rfl, h⟩; rw [h]; clear h)
      | (have m3 : True := m2; clear m2; refine (u2 _).mono ?_; rintro e w2 ⟨rfl, h⟩; rw [h]; clear h)
      | (have m4 : True := m3; clear m3; refine (u3 _).mono ?_; rintro e w2 ⟨rfl, h⟩; rw [h]; clear h))
    go_ret; exact ⟨rfl, b1⟩
  | true =>
    go_enter Tryz.func23, Tryz.ntmps23
    go_wp2_with (go_at_call 49; first
      | (have m1 : True := m0; clear m0; refine (u0 _).mono ?_; rintro e w2 ⟨rfl, h⟩; rw [h]; clear h)
      | (have m2 : True := m1; clear m1; refine (u1 _).mono ?_; rintro e w2 ⟨rfl, h⟩; rw [h]; clear h)
      | (have m3 : True := m2; clear m2; refine (u2 _).mono ?_; rintro e w2 ⟨rfl, h⟩; rw [h]; clear h)
      | (have m4 : True := m3; clear m3; refine (u3 _).mono ?_; rintro e w2 ⟨rfl, h⟩; rw [h]; clear h)
      | (have m5 : True := m4; clear m4; refine (u4 _).mono ?_; rintro e w2 ⟨rfl, h⟩; rw [h]; clear h))
    go_ret; exact ⟨rfl, b1⟩
/-- Behind the boxes of a rule and a key. -/
structure FitW (w W : World) (r : Rl) (k : Ky) (fv tv : Value) : Prop where
  rl : RlAt W w.heap.size r fv tv
  ky : KyAt W (w.heap.size + 1) k
  pf : Spns W fv r.fr
  pt : Spns W tv r.tl
  bel : Below w.heap.size w W
theorem FitW.step {w W W' : World} {r : Rl} {k : Ky} {fv tv : Value} (h : FitW w W r k fv tv) (hb : Below W.heap.size W W') : FitW w W' r k fv tv :=
  ⟨h.rl.below h.rl.lt hb, h.ky.below h.ky.lt hb, h.pf.below hb, h.pt.below hb, h.bel.trans (hb.mono h.bel.size)⟩
theorem FitW.cells {w W : World} {r : Rl} {k : Ky} {fv tv : Value} (h : FitW w W r k fv tv) :
    (W.cell? ⟨w.heap.size, 3, none⟩ = some (.int .i64 r.way) ∧ W.cell? ⟨w.heap.size, 4, none⟩ = some (.int .i64 r.kind) ∧
    W.cell? ⟨w.heap.size, 5, none⟩ = some (.int .i64 r.sa) ∧ W.cell? ⟨w.heap.size, 6, none⟩ = some (.int .i64 r.sl) ∧ W.cell? ⟨w.heap.size, 7, none⟩ = some (.int .i64 r.da) ∧ W.cell? ⟨w.heap.size, 8, none⟩ = some (.int .i64 r.dl) ∧ W.cell? ⟨w.heap.size, 9, none⟩ = some fv ∧ W.cell? ⟨w.heap.size, 10, none⟩ = some tv) ∧
    (W.cell? ⟨w.heap.size + 1, 0, none⟩ = some (.int .i64 k.kind) ∧ W.cell? ⟨w.heap.size + 1, 1, none⟩ = some (.int .i64 k.src) ∧ W.cell? ⟨w.heap.size + 1, 2, none⟩ = some (.int .i64 k.frm) ∧ W.cell? ⟨w.heap.size + 1, 3, none⟩ = some (.int .i64 k.dst) ∧ W.cell? ⟨w.heap.size + 1, 4, none⟩ = some (.int .i64 k.too)) := by
  obtain ⟨_, _, _, d3, d4, d5, d6, d7, d8, d9, d10⟩ := h.rl.cells
  exact ⟨⟨d3, d4, d5, d6, d7, d8, d9, d10⟩, h.ky.cells⟩
theorem FitW.new (w : World) (r : Rl) (k : Ky) (fv tv : Value) (hf : Spns w fv r.fr) (ht : Spns w tv r.tl) :
    FitW w ((w.alloc (.cells #[.bool r.pass, .bool r.quick, .bool r.keep, .int .i64 r.way, .int .i64 r.kind, .int .i64 r.sa, .int .i64 r.sl, .int .i64 r.da, .int .i64 r.dl, fv, tv] 34)).alloc (.cells #[.int .i64 k.kind, .int .i64 k.src, .int .i64 k.frm, .int .i64 k.dst, .int .i64 k.too] 24)) r k fv tv := by
  have b1 : Below w.heap.size w (w.alloc (.cells #[.bool r.pass, .bool r.quick, .bool r.keep, .int .i64 r.way, .int .i64 r.kind, .int .i64 r.sa, .int .i64 r.sl, .int .i64 r.da, .int .i64 r.dl, fv, tv] 34)) := (Below.refl _ _).alloc (Nat.le_refl _) _
  have hr := RlAt.new w r fv tv
  have hz : (w.alloc (.cells #[.bool r.pass, .bool r.quick, .bool r.keep, .int .i64 r.way, .int .i64 r.kind, .int .i64 r.sa, .int .i64 r.sl, .int .i64 r.da, .int .i64 r.dl, fv, tv] 34)).heap.size = w.heap.size + 1 := by simp
  generalize w.alloc (.cells #[.bool r.pass, .bool r.quick, .bool r.keep, .int .i64 r.way, .int .i64 r.kind, .int .i64 r.sa, .int .i64 r.sl, .int .i64 r.da, .int .i64 r.dl, fv, tv] 34) = W1 at b1 hr hz ⊢
  have b2 : Below W1.heap.size W1 (W1.alloc (.cells #[.int .i64 k.kind, .int .i64 k.src, .int .i64 k.frm, .int .i64 k.dst, .int .i64 k.too] 24)) := (Below.refl _ _).alloc (Nat.le_refl _) _
  have hk := KyAt.new W1 k
  rw [hz] at hk
  exact ⟨hr.below hr.lt b2, hk, (hf.below b1).below b2, (ht.below b1).below b2, b1.trans (b2.mono b1.size)⟩
set_option maxHeartbeats 16000000 in
theorem Fits_any (r : Rl) (fv tv : Value) (k : Ky) (way : Int) (w : World) (hf : Spns w fv r.fr) (ht : Spns w tv r.tl) (hlf : r.fr.length ≤ 140737488355328) (hlt : r.tl.length ≤ 140737488355328) :
    Calls Tryz.prog 24 #[rlV r fv tv, keyV k, .int .i64 way] w fun e w' => e = .returned (.bool (fitsB r k way)) ∧ Below w.heap.size w w' := by
  have F0 := FitW.new w r k fv tv hf ht
  have u0 := anyOr_any r.way way
  have u1 := anyOr_any r.kind k.kind
  have u2 := has_any r.sa r.sl k.src
  have u3 := has_any r.da r.dl k.dst
  obtain ⟨af, cf, hfe⟩ := hf.len
  obtain ⟨at', ct, hte⟩ := ht.len
  have u4 := fun (W : World) (h : FitW w W r k fv tv) => open_any fv r.fr k.frm W h.pf hlf
  have u5 := fun (W : World) (h : FitW w W r k fv tv) => open_any tv r.tl k.too W h.pt hlt
  unfold keyV rlV fitsB
  generalize anyB r.way way = t0 at u0 ⊢
  generalize anyB r.kind k.kind = t1 at u1 ⊢
  generalize hasB r.sa r.sl k.src = t2 at u2 ⊢
  generalize hasB r.da r.dl k.dst = t3 at u3 ⊢
  generalize portB r.fr k.frm = t4 at u4 ⊢
  generalize portB r.tl k.too = t5 at u5 ⊢
  generalize r.fr.length = nf at hfe
  generalize r.tl.length = nt at hte
  subst hfe hte
  obtain ⟨W0, hW0⟩ : ∃ W0, (w.alloc (.cells #[.bool r.pass, .bool r.quick, .bool r.keep, .int .i64 r.way, .int .i64 r.kind, .int .i64 r.sa, .int .i64 r.sl, .int .i64 r.da, .int .i64 r.dl, .slice af nf cf, .slice at' nt ct] 34)).alloc (.cells #[.int .i64 k.kind, .int .i64 k.src, .int .i64 k.frm, .int .i64 k.dst, .int .i64 k.too] 24) = W0 := ⟨_, rfl⟩
  rw [hW0] at F0
  have HW0 : Hid ((w.alloc (.cells #[.bool r.pass, .bool r.quick, .bool r.keep, .int .i64 r.way, .int .i64 r.kind, .int .i64 r.sa, .int .i64 r.sl, .int .i64 r.da, .int .i64 r.dl, .slice af nf cf, .slice at' nt ct] 34)).alloc (.cells #[.int .i64 k.kind, .int .i64 k.src, .int .i64 k.frm, .int .i64 k.dst, .int .i64 k.too] 24) = W0) := hW0
  clear hW0 hf ht hlf hlt
  go_enter Tryz.func24, Tryz.ntmps24
  go_upto_region 1 with fail
  rw [HW0.out]
  clear HW0
  have F := F0
  clear F0
  obtain ⟨⟨c3, c4, c5, c6, c7, c8, c9, c10⟩, k0, k1, k2, k3, k4⟩ := id F.cells
  have m0 : True := trivial
  cases t0 with
  | false =>
    go_wp2_with (go_at_call 50; refine (u0 _).mono ?_; rintro e w2 ⟨rfl, h⟩; rw [h]; clear h)
    go_ret; exact ⟨rfl, F.bel⟩
  | true =>
  cases t1 with
  | false =>
    go_wp2_with (go_at_call 50; first
      | (have m1 : True := m0; clear m0; refine (u0 _).mono ?_; rintro e w2 ⟨rfl, h⟩; rw [h]; clear h)
      | (have m2 : True := m1; clear m1; refine (u1 _).mono ?_; rintro e w2 ⟨rfl, h⟩; rw [h]; clear h))
    go_ret; exact ⟨rfl, F.bel⟩
  | true =>
  cases t2 with
  | false =>
    go_wp2_with (first
      | (go_at_call 50; have m1 : True := m0; clear m0; refine (u0 _).mono ?_; rintro e w2 ⟨rfl, h⟩; rw [h]; clear h)
      | (go_at_call 50; have m2 : True := m1; clear m1; refine (u1 _).mono ?_; rintro e w2 ⟨rfl, h⟩; rw [h]; clear h)
      | (go_at_call 51; refine (u2 _).mono ?_; rintro e w2 ⟨rfl, b2⟩; have F := F.step b2))
    go_ret; exact ⟨rfl, F.bel⟩
  | true =>
  cases t3 with
  | false =>
    go_wp2_with (first
      | (go_at_call 50; have m1 : True := m0; clear m0; refine (u0 _).mono ?_; rintro e w2 ⟨rfl, h⟩; rw [h]; clear h)
      | (go_at_call 50; have m2 : True := m1; clear m1; refine (u1 _).mono ?_; rintro e w2 ⟨rfl, h⟩; rw [h]; clear h)
      | (go_at_call 51; have m3 : True := m2; clear m2; refine (u2 _).mono ?_; rintro e w2 ⟨rfl, b2⟩; have F := F.step b2; obtain ⟨⟨c3, c4, c5, c6, c7, c8, c9, c10⟩, k0, k1, k2, k3, k4⟩ := id F.cells)
      | (go_at_call 51; have m4 : True := m3; clear m3; refine (u3 _).mono ?_; rintro e w3 ⟨rfl, b3⟩; have F := F.step b3))
    go_ret; exact ⟨rfl, F.bel⟩
  | true =>
  cases t4 with
  | false =>
    go_wp2_with (first
      | (go_at_call 50; have m1 : True := m0; clear m0; refine (u0 _).mono ?_; rintro e w2 ⟨rfl, h⟩; rw [h]; clear h)
      | (go_at_call 50; have m2 : True := m1; clear m1; refine (u1 _).mono ?_; rintro e w2 ⟨rfl, h⟩; rw [h]; clear h)
      | (go_at_call 51; have m3 : True := m2; clear m2; refine (u2 _).mono ?_; rintro e w2 ⟨rfl, b2⟩; have F := F.step b2; obtain ⟨⟨c3, c4, c5, c6, c7, c8, c9, c10⟩, k0, k1, k2, k3, k4⟩ := id F.cells)
      | (go_at_call 51; have m4 : True := m3; clear m3; refine (u3 _).mono ?_; rintro e w3 ⟨rfl, b3⟩; have F := F.step b3; obtain ⟨⟨c3, c4, c5, c6, c7, c8, c9, c10⟩, k0, k1, k2, k3, k4⟩ := id F.cells)
      | (go_at_call 52; have m5 : True := m4; clear m4; refine (u4 _ F).mono ?_; rintro e w4 ⟨rfl, b4⟩; have F := F.step b4))
    go_ret; exact ⟨rfl, F.bel⟩
  | true =>
    go_wp2_with (first
      | (go_at_call 50; have m1 : True := m0; clear m0; refine (u0 _).mono ?_; rintro e w2 ⟨rfl, h⟩; rw [h]; clear h)
      | (go_at_call 50; have m2 : True := m1; clear m1; refine (u1 _).mono ?_; rintro e w2 ⟨rfl, h⟩; rw [h]; clear h)
      | (go_at_call 51; have m3 : True := m2; clear m2; refine (u2 _).mono ?_; rintro e w2 ⟨rfl, b2⟩; have F := F.step b2; obtain ⟨⟨c3, c4, c5, c6, c7, c8, c9, c10⟩, k0, k1, k2, k3, k4⟩ := id F.cells)
      | (go_at_call 51; have m4 : True := m3; clear m3; refine (u3 _).mono ?_; rintro e w3 ⟨rfl, b3⟩; have F := F.step b3; obtain ⟨⟨c3, c4, c5, c6, c7, c8, c9, c10⟩, k0, k1, k2, k3, k4⟩ := id F.cells)
      | (go_at_call 52; have m5 : True := m4; clear m4; refine (u4 _ F).mono ?_; rintro e w4 ⟨rfl, b4⟩; have F := F.step b4; obtain ⟨⟨c3, c4, c5, c6, c7, c8, c9, c10⟩, k0, k1, k2, k3, k4⟩ := id F.cells)
      | (go_at_call 52; have m6 : True := m5; clear m5; refine (u5 _ F).mono ?_; rintro e w5 ⟨rfl, b5⟩; have F := F.step b5))
    go_ret; exact ⟨rfl, F.bel⟩
end Go.Proofs.YtdellfmkmbabhaaGreatDoor

namespace Go.Proofs.YtdellfmkmbabhaaGreatDoor
open Go.RowKit
set_option linter.unusedVariables false
set_option maxRecDepth 10000

/-- What is wrong with what is judged. -/
def judE (rs : List Rl) (k : Ky) (way : Int) : Int := if rusE rs = 0 then keyE k way else rusE rs
def trcL (rs : List Rl) (k : Ky) (way : Int) : List Int := if judE rs k way = 0 then traceL k way 0 rs else []
theorem keyE_is (k : Ky) (way : Int) : keyE k way = if (isKeyB k && (way == 1 || way == 2)) = true then 0 else 1 := by
  unfold keyE; rw [keyB_up]; rfl
theorem bool_not_not (b : Bool) : (!b) = (if b = true then false else true) := by cases b <;> rfl
theorem OwnI.off_new {W W' : World} {base : Nat} {v : Value} {acc : List Int} {g : Nat} {o : Obj} (h : OwnI W base v acc) (hg : ∀ k, v.ownBlock = some k → k ≠ g) (hl : g < (W.alloc o).heap.size) (hgr : (W.alloc o).grownBy W' v.ownBlock) : W'.heap[g]? = (W.alloc o).heap[g]? :=
  hgr.block g hl (fun e => hg g e.symm rfl)
theorem OwnI.base0 {w : World} {b b' : Nat} {v : Value} {zs : List Int} (h : OwnI w b v zs) (hb : b' ≤ b) : OwnI w b' v zs := by
  obtain ⟨h1, h2⟩ := h
  refine ⟨h1, ?_⟩
  rcases h2 with h2 | ⟨g, cap, cur, hv, hbg, rest⟩
  · exact .inl h2
  · exact .inr ⟨g, cap, cur, hv, Nat.le_trans hb hbg, rest⟩
theorem drop_at {l : List Rl} {j : Nat} (h : j < l.length) : l.drop j = l[j] :: l.drop (j + 1) := (List.drop_eq_getElem_cons h)
set_option maxHeartbeats 16000000 in
theorem trace_any (v : Value) (rs : List (Rl × Value × Value)) (k : Ky) (way : Int) (w : World) (hv : Rls w v rs) :
    Calls Tryz.prog 14 #[v, keyV k, .int .i64 way] w fun e w' => ∃ v', e = .returned (.tuple #[v', erV (judE (rs.map Prod.fst) k way)]) ∧ OwnI w' w.heap.size v' (trcL (rs.map Prod.fst) k way) ∧ Below w.heap.size w w' := by
  obtain ⟨ao, co, hve⟩ := hv.len
  obtain ⟨Q, hQ⟩ : ∃ Q : Ending → World → Prop, Q = fun e w' => ∃ v', e = .returned (.tuple #[v', erV (judE (rs.map Prod.fst) k way)]) ∧ OwnI w' w.heap.size v' (trcL (rs.map Prod.fst) k way) ∧ Below w.heap.size w w' := ⟨_, rfl⟩
  have HQ : Hid (∀ v' w', OwnI w' w.heap.size v' (trcL (rs.map Prod.fst) k way) → Below w.heap.size w w' → Q (.returned (.tuple #[v', erV (judE (rs.map Prod.fst) k way)])) w') := by rw [hQ]; exact fun v' w' h1 h2 => ⟨v', rfl, h1, h2⟩
  rw [← hQ]
  clear hQ
  have b0 : Below w.heap.size w (w.alloc (.cells #[.int .i64 k.kind, .int .i64 k.src, .int .i64 k.frm, .int .i64 k.dst, .int .i64 k.too] 24)) := (Below.refl _ _).alloc (Nat.le_refl _) _
  have hky := KyAt.new w k
  have hz0 : (w.alloc (.cells #[.int .i64 k.kind, .int .i64 k.src, .int .i64 k.frm, .int .i64 k.dst, .int .i64 k.too] 24)).heap.size = w.heap.size + 1 := by simp
  have HZ0 := hidE hz0
  have hck := rusCheck_any v rs (w.alloc (.cells #[.int .i64 k.kind, .int .i64 k.src, .int .i64 k.frm, .int .i64 k.dst, .int .i64 k.too] 24)) (hv.below b0)
  have HB0 := hidE b0
  have HV := hidE hv
  obtain ⟨N, hN⟩ : ∃ N, rs.length = N := ⟨_, rfl⟩
  have HNN := hidE hN
  rw [hN] at hve
  subst hve
  obtain ⟨RS, hRS⟩ : ∃ RS, rs.map Prod.fst = RS := ⟨_, rfl⟩
  have HRS := hidE hRS
  rw [hRS] at HQ hck
  clear hv hN b0 hRS hz0
  by_cases hr0 : rusE RS = 0
  case neg =>
    have e1 : judE RS k way = rusE RS := by unfold judE; rw [if_neg hr0]
    have e2 : trcL RS k way = [] := by unfold trcL; rw [e1, if_neg hr0]
    rw [e1, e2, erV_ne hr0] at HQ
    rw [erV_ne hr0] at hck
    generalize rusE RS = z at HQ hck
    unfold keyV
    clear e1 e2 hr0 HV hky
    go_enter Tryz.func14, Tryz.ntmps14
    go_wp2_with (go_at_call 7; go_must (refine hck.mono ?_; rintro e w1 ⟨rfl, b1⟩))
    exact HQ.out _ _ (OwnI.nil _ _) (HB0.out.trans (b1.mono (by rw [HZ0.out]; omega)))
  have e1 : judE RS k way = keyE k way := by unfold judE; rw [if_pos hr0]
  rw [hr0, show erV 0 = .nilIface from rfl] at hck
  have hik := isKey_any k
  unfold keyV at hik ⊢
  obtain ⟨W0, hW0⟩ : ∃ W0, w.alloc (.cells #[.int .i64 k.kind, .int .i64 k.src, .int .i64 k.frm, .int .i64 k.dst, .int .i64 k.too] 24) = W0 := ⟨_, rfl⟩
  have HW0 := hidE hW0
  rw [hW0] at hck hky HZ0 HB0
  clear hW0
  go_enter Tryz.func14, Tryz.ntmps14
  go_upto_region 1 with fail
  rw [HW0.out]
  clear HW0
  go_upto_region 4 with (go_at_call 7; go_must (refine hck.mono ?_; rintro e w1 ⟨rfl, b1⟩))
  have hky1 := hky.below hky.lt b1
  have B1 := hidE (HB0.out.trans (b1.mono (by rw [HZ0.out]; omega)))
  have S1 := hidE (show w.heap.size + 1 ≤ w1.heap.size by have := b1.size; rw [HZ0.out] at this; exact this)
  clear hck b1 HB0 HZ0 hky
  obtain ⟨k0, k1, k2, k3, k4⟩ := hky1.cells
  have hik1 := hik w1
  have hke := keyE_is k way
  rw [hke] at e1
  clear hke hik
  generalize isKeyB k = t at hik1 e1
  rcases h1 : (t && (way == 1 || way == 2)) with _ | _
  · rw [h1] at e1
    have e1' : judE RS k way = 1 := e1
    have e2 : trcL RS k way = [] := by unfold trcL; rw [e1']; rfl
    rw [e1', e2, show erV 1 = .iface 40 (.int .i64 1) from rfl] at HQ
    clear e1 e1' e2 HV
    cases t with
    | false =>
      clear h1
      go_wp2_with (go_at_call 23; go_must (refine hik1.mono ?_; rintro e w2 ⟨rfl, b2⟩))
      exact HQ.out _ _ (OwnI.nil _ _) (B1.out.trans (b2.mono B1.out.size))
    | true =>
      rw [Bool.true_and, Bool.or_eq_false_iff] at h1
      have i1 : (way != 1) = true := by rw [bne, h1.1]; rfl
      have i2 : (way != 2) = true := by rw [bne, h1.2]; rfl
      clear h1
      go_wp2_with (go_at_call 23; go_must (refine hik1.mono ?_; rintro e w2 ⟨rfl, b2⟩))
      exact HQ.out _ _ (OwnI.nil _ _) (B1.out.trans (b2.mono B1.out.size))
  rw [h1] at e1
  have e1' : judE RS k way = 0 := e1
  have e2 : trcL RS k way = traceL k way 0 RS := by unfold trcL; rw [e1', if_pos rfl]
  rw [e1', e2, show erV 0 = .nilIface from rfl] at HQ
  clear e1 e1' e2
  obtain ⟨L, hL⟩ : ∃ L, traceL k way 0 RS = L := ⟨_, rfl⟩
  have HL := hidE hL
  rw [hL] at HQ
  clear hL
  rw [Bool.and_eq_true] at h1
  obtain ⟨rfl, h2⟩ := h1
  have i3 : ((way != 1) && (way != 2)) = false := by
    rw [Bool.or_eq_true] at h2
    rcases h2 with h | h
    · rw [bne, h]; rfl
    · rw [bne, bne, h, Bool.not_true, Bool.and_false]
  go_cut [27] from 17 to 27 (fun x wr => x = .bool false ∧ Below w1.heap.size w1 wr)
  case first =>
    rcases h3 : (way == 1) with _ | _
    · have i1 : (way != 1) = true := by rw [bne, h3]; rfl
      have i2 : (way != 2) = false := by rw [i1, Bool.true_and] at i3; exact i3
      clear h3 h2 i3 HV HL HQ
      go_wp2_with (go_at_call 23; go_must (refine hik1.mono ?_; rintro e w2 ⟨rfl, b2⟩))
      go_meet
      case rel => exact ⟨rfl, b2⟩
    · have i1 : (way != 1) = false := by rw [bne, h3]; rfl
      clear h3 h2 i3 HV HL HQ
      go_wp2_with (go_at_call 23; go_must (refine hik1.mono ?_; rintro e w2 ⟨rfl, b2⟩))
      go_meet
      case rel => exact ⟨rfl, b2⟩
  case rest =>
    obtain ⟨rfl, b2⟩ := hcut
    have hky2 := hky1.below hky1.lt b2
    have B2 := hidE (B1.out.trans (b2.mono B1.out.size))
    have S2 := hidE (Nat.le_trans S1.out b2.size)
    clear hky1 B1 S1 b2 hik1 k0 k1 k2 k3 k4 h2 i3
    have HK2 := hidE hky2
    clear hky2
    go_upto_region 8 with fail
    go_loopw [9, 10, 11, 31] (fun f _ _ i wr => ∃ (j : Nat) (acc : List Int), j ≤ N ∧ i = .int .i64 (j : Int) ∧ Hid (OwnI wr (w.heap.size + 1) f acc) ∧ Hid (acc.length ≤ j) ∧ Hid (KyAt wr w.heap.size k) ∧ Hid (Below w.heap.size w wr) ∧ Hid (w.heap.size + 1 ≤ wr.heap.size) ∧ Hid (L = acc ++ traceL k way j (RS.drop j))) (fun _ _ _ i _ => ((N : Int) - intOf i).toNat)
    case atStart => exact ⟨0, [], by omega, rfl, OwnI.nil _ _, Nat.le_refl _, HK2.out, B2.out, S2.out, by rw [Hid, List.drop_zero, List.nil_append]; exact HL.out.symm⟩
    case round =>
      clear HK2 B2 S2 HL
      obtain ⟨j, acc, hj, rfl, HO, HA, HK, HB, HS, HT⟩ := hrel
      by_cases hjn : j < N
      · have j1 : (j : Int) < (N : Int) := by omega
        have j2 : (0 : Int) ≤ (j : Int) := by omega
        have hkl : j < rs.length := by have := HNN.out; omega
        have hN20 : N ≤ 20 := by have := (rusE_zero.1 hr0).1; have h3 := HRS.out; have h4 := HNN.out; rw [← h3, List.length_map, h4] at this; exact this
        obtain ⟨b1, o1, e1, hb1, hl1, hx1, hc1⟩ := HV.out.shape (by omega)
        subst e1
        have hx1' : co ≤ 9223372036854775807 := by unfold maxLen at hx1; omega
        have hC := (hc1 j hkl).below hb1 HB.out
        have hd : RS.drop j = rs[j].1 :: RS.drop (j + 1) := by
          rw [← HRS.out, List.drop_eq_getElem_cons (by rw [List.length_map]; exact hkl), List.getElem_map]
        rw [hd] at HT
        clear hd
        generalize rs[j].1 = r at hC HT
        generalize rs[j].2.1 = fv at hC
        generalize rs[j].2.2 = tv at hC
        obtain ⟨af, cf, hfe⟩ := hC.2.1.len
        obtain ⟨at', ct, hte⟩ := hC.2.2.1.len
        generalize hnf : r.fr.length = nf at hfe
        generalize hnt : r.tl.length = nt at hte
        subst hfe hte
        clear hc1 hx1
        obtain ⟨⟨c0, c1, c2, c3, c4, c5, c6, c7, c8, c9, c10⟩, s1, s2, s3, s4⟩ := hC
        have b2 : Below wr.heap.size wr (wr.alloc (.cells #[.bool r.pass, .bool r.quick, .bool r.keep, .int .i64 r.way, .int .i64 r.kind, .int .i64 r.sa, .int .i64 r.sl, .int .i64 r.da, .int .i64 r.dl, .slice af nf cf, .slice at' nt ct] 34)) := (Below.refl _ _).alloc (Nat.le_refl _) _
        have hR2 := RlAt.new wr r (.slice af nf cf) (.slice at' nt ct)
        have hfit := Fits_any r (.slice af nf cf) (.slice at' nt ct) k way (wr.alloc (.cells #[.bool r.pass, .bool r.quick, .bool r.keep, .int .i64 r.way, .int .i64 r.kind, .int .i64 r.sa, .int .i64 r.sl, .int .i64 r.da, .int .i64 r.dl, .slice af nf cf, .slice at' nt ct] 34)) (s1.below b2) (s2.below b2) s3 s4
        unfold rlV keyV at hfit
        have HB2 := hidE b2
        have hK2 := HK.out.below HK.out.lt b2
        have HO2 := hidE (HO.out.below b2)
        obtain ⟨W2, hW2⟩ : ∃ W2, wr.alloc (.cells #[.bool r.pass, .bool r.quick, .bool r.keep, .int .i64 r.way, .int .i64 r.kind, .int .i64 r.sa, .int .i64 r.sl, .int .i64 r.da, .int .i64 r.dl, .slice af nf cf, .slice at' nt ct] 34) = W2 := ⟨_, rfl⟩
        have HW2 := hidE hW2
        rw [hW2] at hR2 hfit HB2 hK2 HO2
        obtain ⟨d0, d1, d2, d3, d4, d5, d6, d7, d8, d9, d10⟩ := hR2.cells
        obtain ⟨k0, k1, k2, k3, k4⟩ := hK2.cells
        have HR2 := hidE hR2
        have HKW := hidE hK2
        clear s1 s2 s3 s4 b2 hR2 hW2 hK2 hnf hnt HV HRS HNN
        go_upto_region 10 with fail
        rw [HW2.out]
        clear c0 c1 c2 c3 c4 c5 c6 c7 c8 c9 c10 HW2
        rcases hfb : fitsB r k way with _ | _
        · rw [traceL_no hfb] at HT
          rw [hfb] at hfit
          clear hfb
          go_wp2_with (go_at_call 24; go_must (refine hfit.mono ?_; rintro e w3 ⟨rfl, b3⟩))
          go_roundw
          case rel =>
            have hbb := HB2.out.trans (b3.mono HB2.out.size)
            exact ⟨j + 1, acc, by omega, by go_num, HO2.out.below b3, Nat.le_succ_of_le HA.out, HKW.out.below HKW.out.lt b3, HB.out.trans (hbb.mono HB.out.size), Nat.le_trans HS.out hbb.size, HT.out⟩
          case measure => simp [intOf]; omega
        · rw [hfb] at hfit
          have HF := hidE hfb
          obtain ⟨q, hq⟩ : ∃ q, r.quick = q := ⟨_, rfl⟩
          have HQ1 := hidE hq
          rw [hq] at hfit d1
          clear hfb hq
          have hal : acc.length ≤ 4398046511104 := by have := HA.out; omega
          have HOB := hidE (fun g (hg : u9.ownBlock = some g) => HO.out.lt g hg)
          have FIN : Hid (∀ w3 w5, Below W2.heap.size W2 w3 → (w3.alloc (.cells #[.int .i64 (j : Int)] 3)).grownBy w5 u9.ownBlock → w5.cell? ⟨wr.heap.size, 1, none⟩ = some (.bool q) ∧ KyAt w5 w.heap.size k ∧ Below w.heap.size w w5 ∧ w.heap.size + 1 ≤ w5.heap.size) := by
            intro w3 w5 b3 gr
            have b4 : Below w3.heap.size w3 (w3.alloc (.cells #[.int .i64 (j : Int)] 3)) := (Below.refl _ _).alloc (Nat.le_refl _) _
            have r4 := (HR2.out.below HR2.out.lt b3)
            have k4 := (HKW.out.below HKW.out.lt b3)
            have b34 := HB2.out.trans ((b3.trans (b4.mono b3.size)).mono HB2.out.size)
            have r4' := r4.below r4.lt b4
            have k4' := k4.below k4.lt b4
            generalize w3.alloc (.cells #[.int .i64 (j : Int)] 3) = A at gr r4' k4' b34
            have r5 : RlAt w5 wr.heap.size r (.slice af nf cf) (.slice at' nt ct) := r4'.keep (gr.block _ r4'.lt (fun e => by have := HOB.out _ e.symm; omega))
            have k5 : KyAt w5 w.heap.size k := (gr.block _ k4'.lt (fun e => by have := HOB.out _ e.symm; omega)).trans k4'
            have b5 : Below w.heap.size A w5 := grown_below gr (by have := b34.size; have := HB.out.size; omega) (fun k hk => by have := HOB.out _ hk; omega)
            refine ⟨?_, k5, (HB.out.trans (b34.mono HB.out.size)).trans b5, ?_⟩
            · rw [r5.cells.2.1, HQ1.out]
            · have := k5.lt; omega
          have hown2 := HO2.out
          have HSZ := hidE (show w.heap.size + 1 ≤ W2.heap.size from Nat.le_trans HS.out HB2.out.size)
          clear HO HO2 HOB HR2 HKW HB2 HK
          cases q with
          | true =>
            rw [traceL_quick HF.out HQ1.out] at HT
            go_wp2_with (first
              | (go_at_call 24; go_must (refine hfit.mono ?_; rintro e w3 ⟨rfl, b3⟩; have own3 := hown2.below b3; have hs3 := Nat.le_trans HSZ.out b3.size))
              | (at_builtin; refine wpList_append_int rfl (.tmp 41) (.tmp 43) rfl (w.heap.size + 1) u9 acc rfl own3 (j : Int) rfl hal hs3 ?_; intro v5 w5 own5 grow5 lie5; have F5 := hidE (FIN.out w3 w5 b3 grow5); have q5 := F5.out.1))
            rw [← HT.out] at own5
            exact HQ.out _ _ (own5.base0 (by omega)) F5.out.2.2.1
          | false =>
            rw [traceL_yes HF.out HQ1.out] at HT
            go_wp2_with (first
              | (go_at_call 24; go_must (refine hfit.mono ?_; rintro e w3 ⟨rfl, b3⟩; have own3 := hown2.below b3; have hs3 := Nat.le_trans HSZ.out b3.size))
              | (at_builtin; refine wpList_append_int rfl (.tmp 41) (.tmp 43) rfl (w.heap.size + 1) u9 acc rfl own3 (j : Int) rfl hal hs3 ?_; intro v5 w5 own5 grow5 lie5; have F5 := hidE (FIN.out w3 w5 b3 grow5); have q5 := F5.out.1))
            go_roundw
            case rel =>
              refine ⟨j + 1, acc ++ [(j : Int)], by omega, by go_num, own5, ?_, F5.out.2.1, F5.out.2.2.1, F5.out.2.2.2, ?_⟩
              · rw [Hid, List.length_append]; exact Nat.succ_le_succ HA.out
              · rw [Hid, HT.out, List.append_assoc]; rfl
            case measure => simp [intOf]; omega
      · have j1 : ¬ (j : Int) < (N : Int) := by omega
        have hown := HO.out
        have hL : L = acc := by
          rw [HT.out, List.drop_of_length_le (by rw [← HRS.out, List.length_map, HNN.out]; omega)]
          rw [show traceL k way j [] = [] from rfl, List.append_nil]
        rw [hL] at HQ
        clear hL HT HV HRS HNN
        go_wp2_with fail
        exact HQ.out _ _ (hown.base0 (by omega)) HB.out
end Go.Proofs.YtdellfmkmbabhaaGreatDoor

namespace Go.Proofs.YtdellfmkmbabhaaGreatDoor
open Go.RowKit
set_option linter.unusedVariables false
set_option maxRecDepth 10000

theorem results_tmp4 {fn : Func} {t u v x : Tmp} (h : fn.results = #[.tmp t, .tmp u, .tmp v, .tmp x]) (tmps : Array Value) (P : Program) (w : World) :
    (results fn tmps).run P w = .ok (.tuple #[tmps.getD t undef, tmps.getD u undef, tmps.getD v undef, tmps.getD x undef]) w := by
  simp [results, h]
def judP (rs : List Rl) (k : Ky) (way : Int) : Bool := if judE rs k way = 0 then (judR rs (lastN (traceL k way 0 rs))).pass else false
def judK (rs : List Rl) (k : Ky) (way : Int) : Bool := if judE rs k way = 0 then (judR rs (lastN (traceL k way 0 rs))).keep else false
def judN (rs : List Rl) (k : Ky) (way : Int) : Int := if judE rs k way = 0 then lastN (traceL k way 0 rs) else 0
theorem trace_nil (v : Value) (rs : List (Rl × Value × Value)) (k : Ky) (way : Int) (w : World) (hv : Rls w v rs) (hE : judE (rs.map Prod.fst) k way = 0) (hT : traceL k way 0 (rs.map Prod.fst) = []) :
    Calls Tryz.prog 14 #[v, keyV k, .int .i64 way] w fun e w' => ∃ a c, e = .returned (.tuple #[.slice a 0 c, .nilIface]) ∧ Below w.heap.size w w' := by
  refine (trace_any v rs k way w hv).mono ?_
  rintro e w' ⟨v', rfl, own, b⟩
  have : trcL (rs.map Prod.fst) k way = [] := by unfold trcL; rw [if_pos hE, hT]
  rw [this] at own
  obtain ⟨a, c, rfl⟩ := own.form
  refine ⟨a, c, ?_, b⟩
  rw [hE]; rfl
theorem trace_some (v : Value) (rs : List (Rl × Value × Value)) (k : Ky) (way : Int) (w : World) (hv : Rls w v rs) (hE : judE (rs.map Prod.fst) k way = 0) (hT : traceL k way 0 (rs.map Prod.fst) ≠ []) :
    ∃ M : Nat, Calls Tryz.prog 14 #[v, keyV k, .int .i64 way] w fun e w' => ∃ g c, e = .returned (.tuple #[.slice (some ⟨g, 0, none⟩) (M + 1) c, .nilIface]) ∧ M + 1 ≤ c ∧ c ≤ maxLen ∧ w'.cell? ⟨g, M, none⟩ = some (.int .i64 (lastN (traceL k way 0 (rs.map Prod.fst)))) ∧ Below w.heap.size w w' := by
  have hl : 0 < (traceL k way 0 (rs.map Prod.fst)).length := List.length_pos_iff.2 hT
  refine ⟨(traceL k way 0 (rs.map Prod.fst)).length - 1, ?_⟩
  refine (trace_any v rs k way w hv).mono ?_
  rintro e w' ⟨v', rfl, own, b⟩
  have : trcL (rs.map Prod.fst) k way = traceL k way 0 (rs.map Prod.fst) := by unfold trcL; rw [if_pos hE]
  rw [this] at own
  obtain ⟨g, c, rfl, _, _, h1, h2⟩ := own.shape hl
  have hc := own.cell rfl ((traceL k way 0 (rs.map Prod.fst)).length - 1) (by omega)
  have e1 : (traceL k way 0 (rs.map Prod.fst)).length - 1 + 1 = (traceL k way 0 (rs.map Prod.fst)).length := by omega
  refine ⟨g, c, ?_, by omega, h2, ?_, b⟩
  · rw [hE, e1]; rfl
  · rw [hc]
    unfold lastN
    rw [List.getLast?_eq_getElem?, List.getElem?_eq_getElem (by omega)]
    rfl
theorem judR_at {rs : List Rl} {m : Nat} (h : m < rs.length) : judR rs (m : Int) = rs[m] := by
  unfold judR
  rw [if_neg (by omega), Int.toNat_natCast, List.getElem?_eq_getElem h, Option.getD_some]
set_option maxHeartbeats 16000000 in
theorem judge_any (v : Value) (rs : List (Rl × Value × Value)) (k : Ky) (way : Int) (w : World) (hv : Rls w v rs) :
    Calls Tryz.prog 6 #[v, keyV k, .int .i64 way] w fun e w' => e = .returned (.tuple #[.bool (judP (rs.map Prod.fst) k way), .bool (judK (rs.map Prod.fst) k way), .int .i64 (judN (rs.map Prod.fst) k way), erV (judE (rs.map Prod.fst) k way)]) ∧ Below w.heap.size w w' := by
  obtain ⟨ao, co, hve⟩ := hv.len
  have b0 : Below w.heap.size w (w.alloc (.cells #[.int .i64 k.kind, .int .i64 k.src, .int .i64 k.frm, .int .i64 k.dst, .int .i64 k.too] 24)) := (Below.refl _ _).alloc (Nat.le_refl _) _
  have hz0 : w.heap.size ≤ (w.alloc (.cells #[.int .i64 k.kind, .int .i64 k.src, .int .i64 k.frm, .int .i64 k.dst, .int .i64 k.too] 24)).heap.size := b0.size
  have HB : Hid (∀ w1, Below (w.alloc (.cells #[.int .i64 k.kind, .int .i64 k.src, .int .i64 k.frm, .int .i64 k.dst, .int .i64 k.too] 24)).heap.size (w.alloc (.cells #[.int .i64 k.kind, .int .i64 k.src, .int .i64 k.frm, .int .i64 k.dst, .int .i64 k.too] 24)) w1 → Below w.heap.size w w1) := fun w1 h => b0.trans (h.mono b0.size)
  have hv1 := hv.below b0
  have HV := hidE hv1
  obtain ⟨N, hN⟩ : ∃ N, rs.length = N := ⟨_, rfl⟩
  rw [hN] at hve
  by_cases hE : judE (rs.map Prod.fst) k way = 0
  case neg =>
    have htr := trace_any v rs k way _ hv1
    rw [show judP (rs.map Prod.fst) k way = false by unfold judP; rw [if_neg hE], show judK (rs.map Prod.fst) k way = false by unfold judK; rw [if_neg hE], show judN (rs.map Prod.fst) k way = 0 by unfold judN; rw [if_neg hE]]
    rw [erV_ne hE] at htr ⊢
    generalize judE (rs.map Prod.fst) k way = z at htr
    unfold keyV at htr ⊢
    generalize trcL (rs.map Prod.fst) k way = L at htr
    subst hve
    clear hE hv hv1 HV hN b0 hz0
    obtain ⟨Q, hQ⟩ : ∃ Q : Ending → World → Prop, Q = fun e w' => e = .returned (.tuple #[.bool false, .bool false, .int .i64 0, .iface 40 (.int .i64 z)]) ∧ Below w.heap.size w w' := ⟨_, rfl⟩
    have HQ : Hid (∀ w', Below w.heap.size w w' → Q (.returned (.tuple #[.bool false, .bool false, .int .i64 0, .iface 40 (.int .i64 z)])) w') := by rw [hQ]; exact fun _ h => ⟨rfl, h⟩
    rw [← hQ]
    clear hQ
    go_enter Tryz.func6, Tryz.ntmps6
    go_wp2_with (go_at_call 14; go_must (refine htr.mono ?_; rintro e w1 ⟨v1, rfl, own1, b1⟩; obtain ⟨a1, c1, hv1⟩ := own1.form; clear own1; subst hv1))
    refine bodyPost_ret (results_tmp4 rfl _ _ _) rfl ?_
    exact HQ.out _ (HB.out _ b1)
  rw [show judP (rs.map Prod.fst) k way = (judR (rs.map Prod.fst) (lastN (traceL k way 0 (rs.map Prod.fst)))).pass by unfold judP; rw [if_pos hE], show judK (rs.map Prod.fst) k way = (judR (rs.map Prod.fst) (lastN (traceL k way 0 (rs.map Prod.fst)))).keep by unfold judK; rw [if_pos hE], show judN (rs.map Prod.fst) k way = lastN (traceL k way 0 (rs.map Prod.fst)) by unfold judN; rw [if_pos hE]]
  by_cases hT : traceL k way 0 (rs.map Prod.fst) = []
  · have htr := trace_nil v rs k way _ hv1 hE hT
    rw [hT, hE, show erV 0 = .nilIface from rfl, show lastN [] = -1 from rfl, show judR (rs.map Prod.fst) (-1) = zeroR from rfl, show zeroR.pass = true from rfl, show zeroR.keep = false from rfl]
    unfold keyV at htr ⊢
    subst hve
    clear hE hv hv1 HV hN b0 hz0 hT
    obtain ⟨Q, hQ⟩ : ∃ Q : Ending → World → Prop, Q = fun e w' => e = .returned (.tuple #[.bool true, .bool false, .int .i64 (-1), .nilIface]) ∧ Below w.heap.size w w' := ⟨_, rfl⟩
    have HQ : Hid (∀ w', Below w.heap.size w w' → Q (.returned (.tuple #[.bool true, .bool false, .int .i64 (-1), .nilIface])) w') := by rw [hQ]; exact fun _ h => ⟨rfl, h⟩
    rw [← hQ]
    clear hQ
    go_enter Tryz.func6, Tryz.ntmps6
    go_wp2_with (go_at_call 14; go_must (refine htr.mono ?_; rintro e w1 ⟨a1, c1, rfl, b1⟩))
    refine bodyPost_ret (results_tmp4 rfl _ _ _) rfl ?_
    exact HQ.out _ (HB.out _ b1)
  · obtain ⟨M, htr⟩ := trace_some v rs k way _ hv1 hE hT
    obtain ⟨m, hm, hlast⟩ := lastN_lt hT
    have hmr : m < rs.length := by simpa using hm
    rw [hlast] at htr ⊢
    rw [judR_at hm, List.getElem_map, hE, show erV 0 = .nilIface from rfl]
    have HX := hidE (fun (W : World) (hb : Below (w.alloc (.cells #[.int .i64 k.kind, .int .i64 k.src, .int .i64 k.frm, .int .i64 k.dst, .int .i64 k.too] 24)).heap.size (w.alloc (.cells #[.int .i64 k.kind, .int .i64 k.src, .int .i64 k.frm, .int .i64 k.dst, .int .i64 k.too] 24)) W) => HV.out.below hb)
    unfold keyV at htr ⊢
    have hv1' := HV.out
    rw [hve] at hv1'
    obtain ⟨b1, o1, e1, hb1, hl1, hx1, hc1⟩ := hv1'.shape (by omega)
    have hx1' : co ≤ 9223372036854775807 := by unfold maxLen at hx1; omega
    have HC := hidE (fun (W : World) (hb : Below (w.alloc (.cells #[.int .i64 k.kind, .int .i64 k.src, .int .i64 k.frm, .int .i64 k.dst, .int .i64 k.too] 24)).heap.size (w.alloc (.cells #[.int .i64 k.kind, .int .i64 k.src, .int .i64 k.frm, .int .i64 k.dst, .int .i64 k.too] 24)) W) => (hc1 m hmr).below hb1 hb)
    subst e1
    subst hve
    have hmN : m < N := by omega
    have j1 : (m : Int) < (N : Int) := by omega
    have j2 : (0 : Int) ≤ (m : Int) := by omega
    generalize rs[m].1 = r at HC ⊢
    generalize rs[m].2.1 = fv at HC
    generalize rs[m].2.2 = tv at HC
    have hM : M < 9223372036854775807 ∨ ¬ M < 9223372036854775807 := by omega
    clear hE hv hv1 HV hN b0 hz0 hT hlast hm hmr hv1' hc1 hx1 HX hM
    obtain ⟨Q, hQ⟩ : ∃ Q : Ending → World → Prop, Q = fun e w' => e = .returned (.tuple #[.bool r.pass, .bool r.keep, .int .i64 (m : Int), .nilIface]) ∧ Below w.heap.size w w' := ⟨_, rfl⟩
    have HQ : Hid (∀ w', Below w.heap.size w w' → Q (.returned (.tuple #[.bool r.pass, .bool r.keep, .int .i64 (m : Int), .nilIface])) w') := by rw [hQ]; exact fun _ h => ⟨rfl, h⟩
    rw [← hQ]
    clear hQ
    go_enter Tryz.func6, Tryz.ntmps6
    go_upto_region 7 with (go_at_call 14; go_must (refine htr.mono ?_; rintro e w1 ⟨g1, c1, rfl, hc2, hc3, hcell, bw1⟩; have hc3' : c1 ≤ 9223372036854775807 := by (unfold maxLen at hc3; omega)))
    have hC := HC.out _ bw1
    obtain ⟨⟨c0, _, c2, _⟩, _⟩ := hC
    clear htr HC
    go_big_quiet (fail)
    go_wp2_with fail
    refine bodyPost_ret (results_tmp4 rfl _ _ _) rfl ?_
    exact HQ.out _ (below_drewN (HB.out _ bw1) _)
end Go.Proofs.YtdellfmkmbabhaaGreatDoor

namespace Go.Proofs.YtdellfmkmbabhaaGreatDoor
set_option linter.unusedVariables false

/-- Whether the bits F tell that a and b judge otherwise. -/
def difB (a b : List Rl) (F : Nat) : Bool := ((decF F 0 a (zeroR, -1)).1.pass != (decF (F / 2 ^ a.length) 0 b (zeroR, -1)).1.pass) || ((decF F 0 a (zeroR, -1)).1.keep != (decF (F / 2 ^ a.length) 0 b (zeroR, -1)).1.keep)
/-- Whether a and b judge otherwise of a key. -/
def difJ (a b : List Rl) (k : Ky) (way : Int) : Bool := (judP a k way != judP b k way) || (judK a k way != judK b k way)
/-- What 'Differ' looks for a key of. -/
def goodD (a b : List Rl) : Prop := rusE a = 0 ∧ rusE b = 0 ∧ a.length ≤ 4 ∧ b.length ≤ 4
theorem ones64' {j : Nat} (h : j < 64) : (18446744073709551615 : Nat).testBit j = true := by
  rw [show (18446744073709551615 : Nat) = 2 ^ 64 - 1 from rfl, Nat.testBit_two_pow_sub_one]
  simpa using h
theorem judE_ok {RS : List Rl} {k : Ky} {way : Int} (hr : rusE RS = 0) (hk : keyB k way = true) : judE RS k way = 0 := by unfold judE keyE; rw [if_pos hr, if_pos hk]
theorem jud_not {RS : List Rl} {k : Ky} {way : Int} (hr : rusE RS = 0) (hk : keyB k way = false) : judE RS k way = 1 ∧ judP RS k way = false ∧ judK RS k way = false := by
  have hE : judE RS k way = 1 := by unfold judE keyE; rw [if_pos hr, hk]; rfl
  have hn : ¬ judE RS k way = 0 := by rw [hE]; decide
  refine ⟨hE, ?_, ?_⟩
  · unfold judP; rw [if_neg hn]
  · unfold judK; rw [if_neg hn]
theorem dec_jud {RS : List Rl} {k : Ky} {way : Int} {v : Nat} (hr : rusE RS = 0) (hk : keyB k way = true) (h : ∀ j (h : j < RS.length), v.testBit (0 + j) = fitsB RS[j] k way) : (decF v 0 RS (zeroR, -1)).1.pass = judP RS k way ∧ (decF v 0 RS (zeroR, -1)).1.keep = judK RS k way := by
  have hE := judE_ok hr hk
  have hd := decF_judR h
  refine ⟨?_, ?_⟩
  · unfold judP; rw [if_pos hE, hd]
  · unfold judK; rw [if_pos hE, hd]
theorem dif_is {a b : List Rl} {k : Ky} {way : Int} (h : goodD a b) (hk : keyB k way = true) : difB a b (atV (a ++ b) (ptS k way) 6) = difJ a b k way := by
  obtain ⟨ha, hb, la, lb⟩ := h
  have ra := (rusE_zero.1 ha).2
  have rb := (rusE_zero.1 hb).2
  have hab : ∀ r ∈ a ++ b, ruE r = 0 := fun r hr => by
    rcases List.mem_append.1 hr with h | h
    · exact ra r h
    · exact rb r h
  have hbit := allV_bit (rs := a ++ b) (n := 18446744073709551615) hab hk (fun j hj => ones64' (by rw [List.length_append] at hj; omega))
  rw [← atV_six] at hbit
  have h1 := dec_jud (v := atV (a ++ b) (ptS k way) 6) ha hk (fun j hj => by
    rw [hbit j (by rw [List.length_append]; omega), List.getElem_append_left hj])
  have h2 := dec_jud (v := atV (a ++ b) (ptS k way) 6 / 2 ^ a.length) hb hk (fun j hj => by
    have := hbit (a.length + j) (by rw [List.length_append]; omega)
    rw [Nat.testBit_div_two_pow, show 0 + j + a.length = 0 + (a.length + j) by omega, this]
    rw [List.getElem_append_right (by omega)]
    simp)
  unfold difB difJ
  rw [h1.1, h1.2, h2.1, h2.2]
theorem difJ_self (a : List Rl) (k : Ky) (way : Int) : difJ a a k way = false := by unfold difJ; simp
/-- The law's one rule. -/
def dfR : Rl := ⟨false, false, false, 0, 2, 0, 0, 0, 0, [], [(5, 5)]⟩
theorem dfR_good : goodD [] [dfR] := by unfold goodD; decide
theorem dfR_some : keyB ⟨2, 0, 0, 0, 5⟩ 1 = true ∧ difJ [] [dfR] ⟨2, 0, 0, 0, 5⟩ 1 = true := by decide
theorem dfR_key {k : Ky} {way : Int} (hk : keyB k way = true) (h : difJ [] [dfR] k way = true) : k.kind = 2 ∧ k.too = 5 ∧ 1 ≤ way := by
  have hw := keyB_ok.1 hk 0 (by omega)
  have hE0 := judE_ok dfR_good.1 hk
  have hE1 := judE_ok dfR_good.2.1 hk
  have hf : fitsB dfR k way = true := by
    rcases hf : fitsB dfR k way with _ | _
    · exfalso
      have t : traceL k way 0 [dfR] = [] := by rw [traceL_no hf]; rfl
      have e : difJ [] [dfR] k way = false := by
        unfold difJ judP judK
        rw [if_pos hE0, if_pos hE1, if_pos hE0, if_pos hE1, t]
        rfl
      rw [e] at h; cases h
    · rfl
  unfold fitsB at hf
  simp only [Bool.and_eq_true] at hf
  obtain ⟨_, h2, _, _, _, h6⟩ := hf
  refine ⟨?_, ?_, hw.1⟩
  · have : anyB 2 k.kind = true := h2
    unfold anyB at this
    simp at this
    omega
  · have h6' : portB [(5, 5)] k.too = true := h6
    rw [← inS_port (show spE [(5, 5)] = 0 by decide)] at h6'
    unfold inS at h6'
    rw [show decide ([((5 : Int), (5 : Int))].length = 0) = false from rfl, Bool.false_or] at h6'
    simp [inB] at h6'
    have h7 := insB_iff.1 h6'
    have h8 : (5 : Int) ≤ k.too ∧ k.too ≤ 5 := h7
    omega
end Go.Proofs.YtdellfmkmbabhaaGreatDoor
