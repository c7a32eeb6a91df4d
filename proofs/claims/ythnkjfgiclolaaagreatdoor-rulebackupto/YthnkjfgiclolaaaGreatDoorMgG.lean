/- Rules: what is wrong with one ('ruE'), and with some ('rusE'); spans that are Normed ('tidyB'). Plain facts; no condition is asked of a program. -/
import Derived.Test.YthnkjfgiclolaaaGreatDoorMgB
import Derived.Test.YthnkjfgiclolaaaGreatDoorMgA
import Derived.ChangeKeysEq
import Derived.Laws.Rows
import Derived.Test.YthnkjfgiclolaaaGreatDoorMgE
import Derived.Deep.DeepMust
namespace Go.Proofs.YthnkjfgiclolaaaGreatDoor
set_option linter.unusedVariables false

structure Rl where
  pass : Bool
  quick : Bool
  keep : Bool
  way : Int
  kind : Int
  sa : Int
  sl : Int
  da : Int
  dl : Int
  fr : List Sp
  tl : List Sp
/-- Spans each of which lies behind the one ahead of it, with a gap. -/
def tidyB : List Sp → Bool
  | [] => true
  | [_] => true
  | x :: y :: r => decide (x.2 + 1 < y.1) && tidyB (y :: r)
theorem tidyB_at : ∀ {l : List Sp}, tidyB l = true ↔ ∀ i (h : i + 1 < l.length), l[i].2 + 1 < l[i + 1].1
  | [] => ⟨fun _ i h => by simp at h, fun _ => rfl⟩
  | [a] => ⟨fun _ i h => by simp at h, fun _ => rfl⟩
  | x :: y :: r => by
      have ih := @tidyB_at (y :: r)
      constructor
      · intro h i hi
        simp only [tidyB, Bool.and_eq_true, decide_eq_true_eq] at h
        match i with
        | 0 => exact h.1
        | i + 1 => exact ih.1 h.2 i (by simpa using hi)
      · intro h
        simp only [tidyB, Bool.and_eq_true, decide_eq_true_eq]
        exact ⟨h 0 (by simp), ih.2 (fun i hi => h (i + 1) (by simpa using hi))⟩
theorem tidyB_pair : ∀ {l : List Sp}, OkS l → tidyB l = true → List.Pairwise (fun p q : Sp => p.2 + 1 < q.1) l
  | [], _, _ => .nil
  | [a], _, _ => List.pairwise_singleton _ _
  | x :: y :: r, hk, h => by
      simp only [tidyB, Bool.and_eq_true, decide_eq_true_eq] at h
      have ih := tidyB_pair (l := y :: r) (fun s hs => hk s (List.mem_cons_of_mem _ hs)) h.2
      rw [List.pairwise_cons] at ih ⊢
      refine ⟨fun q hq => ?_, List.pairwise_cons.2 ih⟩
      rcases List.mem_cons.1 hq with rfl | hq
      · exact h.1
      · have h1 := ih.1 q hq
        have h2 := hk y (List.mem_cons_of_mem _ List.mem_cons_self)
        have h3 := h.1
        omega
theorem pair_tidyB : ∀ {l : List Sp}, List.Pairwise (fun p q : Sp => p.2 + 1 < q.1) l → tidyB l = true
  | [], _ => rfl
  | [a], _ => rfl
  | x :: y :: r, h => by
      rw [List.pairwise_cons] at h
      simp only [tidyB, Bool.and_eq_true, decide_eq_true_eq]
      exact ⟨h.1 y List.mem_cons_self, pair_tidyB h.2⟩
theorem tidy_nrm {l : List Sp} (hk : OkS l) : tidyB l = true ↔ Nrm l := ⟨fun h => ⟨hk, tidyB_pair hk h⟩, fun h => pair_tidyB h.2⟩
def twoE (a b : Int) : Int := if a = 0 then b else a
def fullE (r : Rl) : Int := if 10 < r.fr.length ∨ 10 < r.tl.length then 4 else 0
def portsB (k : Int) (l : List Sp) : Bool := decide (0 < l.length) && !(decide (k = 1) || decide (k = 2))
def badP (k : Int) (l : List Sp) : Bool := portsB k l || !tidyB l
def wayE (r : Rl) : Bool := decide (r.way < 0) || decide (2 < r.way) || decide (r.kind < 0) || decide (3 < r.kind)
/-- What is wrong with a rule. -/
def ruE (r : Rl) : Int :=
  if wayE r = true then 1 else
  if ¬ twoE (prefE r.sa r.sl) (prefE r.da r.dl) = 0 then twoE (prefE r.sa r.sl) (prefE r.da r.dl) else
  if ¬ fullE r = 0 then 4 else
  if ¬ twoE (spE r.fr) (spE r.tl) = 0 then twoE (spE r.fr) (spE r.tl) else
  if badP r.kind r.fr = true ∨ badP r.kind r.tl = true ∨ (r.keep = true ∧ r.pass = false) then 3 else 0
/-- What is wrong with rules. -/
def firstE : List Rl → Int
  | [] => 0
  | r :: l => if ruE r = 0 then firstE l else ruE r
def rusE (l : List Rl) : Int := if 20 < l.length then 4 else firstE l
theorem firstE_take {l : List Rl} : ∀ (k : Nat), (∀ i (h : i < l.length), i < k → ruE l[i] = 0) → ∀ (hk : k < l.length), ¬ ruE l[k] = 0 → firstE l = ruE l[k] := by
  induction l with
  | nil => intro k _ hk; simp at hk
  | cons a r ih =>
    intro k h hk hne
    match k with
    | 0 =>
      have hne' : ¬ ruE a = 0 := hne
      show (if ruE a = 0 then firstE r else ruE a) = ruE a
      rw [if_neg hne']
    | k + 1 =>
      have h0 : ruE a = 0 := h 0 (by simp) (by omega)
      show (if ruE a = 0 then firstE r else ruE a) = _
      rw [if_pos h0]
      exact ih k (fun i hi hik => h (i + 1) (by simpa using hi) (by omega)) (by simpa using hk) hne
theorem firstE_none {l : List Rl} (h : ∀ i (hi : i < l.length), ruE l[i] = 0) : firstE l = 0 := by
  induction l with
  | nil => rfl
  | cons a r ih =>
    show (if ruE a = 0 then firstE r else ruE a) = _
    have h0 : ruE a = 0 := h 0 (by simp)
    rw [if_pos h0]
    exact ih (fun i hi => h (i + 1) (by simpa using hi))
end Go.Proofs.YthnkjfgiclolaaaGreatDoor

namespace Go.Proofs.YthnkjfgiclolaaaGreatDoor
open Go.RowKit
set_option linter.unusedVariables false

theorem Tryz.spGuard : Tryz.prog.eqGuardType Tryz.prog.depth 42 = false := by kernel_rfl
theorem Tryz.infoIntE : (Tryz.prog.info? 3).map (fun i => (i.zero, i.size, i.bytes)) = some (some (.int .i64 0), 1, 8) := by kernel_rfl
theorem Tryz.spEqual (a b c d : Int) (w : World) : (Op.equalIn 10000 42 (.agg #[.int .i64 a, .int .i64 b]) (.agg #[.int .i64 c, .int .i64 d])).run Tryz.prog w = .ok (a == c && b == d) w := by
  obtain ⟨i0, hi, hz0, hz1, hz2⟩ := info_parts Tryz.infoIntE
  have h := run_equalIn_array (P := Tryz.prog) w 9999 #[.int .i64 a, .int .i64 b] #[.int .i64 c, .int .i64 d] Tryz.underlying42 hi
  refine h.trans ?_
  rw [show List.range 2 = [0, 1] from rfl, show Tryz.prog.cellsOf 3 = 1 by kernel_rfl]
  simp [Op.eqItems, part, isAgg, underlying, Tryz.underlying3, Result.andThen, run_equalIn_int (P := Tryz.prog) _ 9998 3 .i64 .i64 _ _ Tryz.underlying3]
  by_cases h1 : a = c <;> by_cases h2 : b = d <;> simp [h1, h2]
theorem Tryz.spNeq (a b c d : Int) (w : World) : (binOp .neq 42 (.agg #[.int .i64 a, .int .i64 b]) (.agg #[.int .i64 c, .int .i64 d])).run Tryz.prog w = .ok (.bool (!(a == c && b == d))) w := by
  rw [run_neq_struct, Tryz.spEqual]; rfl
theorem Tryz.spNeqSame (a b : Int) (w : World) : (binOp .neq 42 (.agg #[.int .i64 a, .int .i64 b]) (.agg #[.int .i64 a, .int .i64 b])).run Tryz.prog w = .ok (.bool false) w := by
  rw [Tryz.spNeq]; simp
set_option maxHeartbeats 4000000 in
theorem sameSp (v1 v2 : Value) (ps : List Sp) (w : World) (h1 : Spns w v1 ps) (h2 : Spns w v2 ps) :
    Calls Tryz.prog 63 #[v1, v2] w fun e w' => e = .returned (.bool true) ∧ Below w.heap.size w w' := by
  obtain ⟨a1, c1, rfl⟩ := h1.len
  obtain ⟨a2, c2, rfl⟩ := h2.len
  obtain ⟨N, hN⟩ : ∃ N, ps.length = N := ⟨_, rfl⟩
  rw [hN] at h1 h2 ⊢
  have HN : Hid (ps.length = N) := hN
  have H1 : Hid (Spns w (.slice a1 N c1) ps) := h1
  have H2 : Hid (Spns w (.slice a2 N c2) ps) := h2
  have hg := Tryz.spGuard
  have hne := Tryz.spNeqSame
  clear h1 h2 hN
  go_enter Tryz.func63, Tryz.ntmps63
  go_wp2_with fail
  go_loopw [5] (fun i wr => ∃ k : Nat, k ≤ N ∧ i = .int .i64 (k : Int) ∧ Below w.heap.size w wr) (fun i _ => ((N : Int) - intOf i).toNat)
  case atStart => exact ⟨0, by omega, rfl, Below.refl _ _⟩
  case round =>
    obtain ⟨k, hk, rfl, hb⟩ := hrel
    by_cases hkn : k < N
    · have i1 : (k : Int) < (N : Int) := by omega
      have i2 : (0 : Int) ≤ (k : Int) := by omega
      have hps : 0 < ps.length := by have := HN.out; omega
      obtain ⟨b1, o1, e1, hb1, hl1, hx1, hc1⟩ := H1.out.shape hps
      obtain ⟨b2, o2, e2, hb2, hl2, hx2, hc2⟩ := H2.out.shape hps
      subst e1 e2
      have hkp : k < ps.length := by have := HN.out; omega
      obtain ⟨x0, x1⟩ := (hc1 k hkp).keep (hb.block b1 hb1)
      obtain ⟨y0, y1⟩ := (hc2 k hkp).keep (hb.block b2 hb2)
      generalize ps[k] = q at x0 x1 y0 y1
      have hx1' : c1 ≤ 9223372036854775807 := by unfold maxLen at hx1; omega
      have hx2' : c2 ≤ 9223372036854775807 := by unfold maxLen at hx2; omega
      have HB : Hid (Below w.heap.size w wr) := hb
      clear hc1 hc2 hx1 hx2 hb hps hkp
      go_upto_region 6 with fail
      go_region
      all_goals
        go_wp2_with fail
        go_roundw
        case rel => exact ⟨k + 1, by omega, by go_num, HB.out.drew⟩
        case measure => simp [intOf]; omega
    · have hkn' : k = N := by omega
      subst hkn'
      have i1 : ¬ (k : Int) < (k : Int) := by omega
      have HB : Hid (Below w.heap.size w wr) := hb
      clear hb
      go_wp2_with fail
      go_ret
      exact ⟨rfl, HB.out⟩
end Go.Proofs.YthnkjfgiclolaaaGreatDoor

namespace Go.Proofs.YthnkjfgiclolaaaGreatDoor
open Go.RowKit
set_option linter.unusedVariables false

def RlAt (w : World) (b : Nat) (r : Rl) (fv tv : Value) : Prop :=
  w.heap[b]? = some (.cells #[.bool r.pass, .bool r.quick, .bool r.keep, .int .i64 r.way, .int .i64 r.kind, .int .i64 r.sa, .int .i64 r.sl, .int .i64 r.da, .int .i64 r.dl, fv, tv] 33 (0, 0))
def rlV (r : Rl) (fv tv : Value) : Value := .agg #[.bool r.pass, .bool r.quick, .bool r.keep, .int .i64 r.way, .int .i64 r.kind, .int .i64 r.sa, .int .i64 r.sl, .int .i64 r.da, .int .i64 r.dl, fv, tv]
section
variable {w w' : World} {b : Nat} {r : Rl} {fv tv : Value}
theorem RlAt.lt (h : RlAt w b r fv tv) : b < w.heap.size := (Array.getElem?_eq_some_iff.1 h).1
theorem RlAt.keep (h : RlAt w b r fv tv) (hb : w'.heap[b]? = w.heap[b]?) : RlAt w' b r fv tv := hb.trans h
theorem RlAt.below {B : Nat} (h : RlAt w b r fv tv) (hB : b < B) (hb : Below B w w') : RlAt w' b r fv tv := h.keep (hb.block b hB)
theorem RlAt.new (w : World) (r : Rl) (fv tv : Value) : RlAt (w.alloc (.cells #[.bool r.pass, .bool r.quick, .bool r.keep, .int .i64 r.way, .int .i64 r.kind, .int .i64 r.sa, .int .i64 r.sl, .int .i64 r.da, .int .i64 r.dl, fv, tv] 33)) w.heap.size r fv tv := heap_alloc_new w _
theorem RlAt.cells (h : RlAt w b r fv tv) :
    w.cell? ⟨b, 0, none⟩ = some (.bool r.pass) ∧ w.cell? ⟨b, 1, none⟩ = some (.bool r.quick) ∧ w.cell? ⟨b, 2, none⟩ = some (.bool r.keep) ∧ w.cell? ⟨b, 3, none⟩ = some (.int .i64 r.way) ∧ w.cell? ⟨b, 4, none⟩ = some (.int .i64 r.kind) ∧
    w.cell? ⟨b, 5, none⟩ = some (.int .i64 r.sa) ∧ w.cell? ⟨b, 6, none⟩ = some (.int .i64 r.sl) ∧ w.cell? ⟨b, 7, none⟩ = some (.int .i64 r.da) ∧ w.cell? ⟨b, 8, none⟩ = some (.int .i64 r.dl) ∧ w.cell? ⟨b, 9, none⟩ = some fv ∧ w.cell? ⟨b, 10, none⟩ = some tv := by
  refine ⟨?_, ?_, ?_, ?_, ?_, ?_, ?_, ?_, ?_, ?_, ?_⟩ <;> (rw [cell_of_row w b _ _ _ _ h]; rfl)
end
end Go.Proofs.YthnkjfgiclolaaaGreatDoor

namespace Go.Proofs.YthnkjfgiclolaaaGreatDoor
open Go.RowKit
set_option linter.unusedVariables false

theorem hidE {p : Prop} (h : p) : Hid p := h
theorem sp_ne {p q : Sp} : (!(p.1 == q.1 && p.2 == q.2)) = !decide (p = q) := by
  obtain ⟨a, b⟩ := p
  obtain ⟨c, d⟩ := q
  by_cases h1 : a = c <;> by_cases h2 : b = d <;> simp [h1, h2]
set_option maxHeartbeats 4000000 in
theorem eqSp_any (v1 v2 : Value) (p q : List Sp) (w : World) (h1 : Spns w v1 p) (h2 : Spns w v2 q) :
    Calls Tryz.prog 87 #[v1, v2] w fun e w' => e = .returned (.bool (decide (p = q))) ∧ Below w.heap.size w w' := by
  obtain ⟨a1, c1, rfl⟩ := h1.len
  obtain ⟨a2, c2, rfl⟩ := h2.len
  by_cases hl : p.length = q.length
  · obtain ⟨N, hN⟩ : ∃ N, p.length = N := ⟨_, rfl⟩
    have hq : q.length = N := by omega
    obtain ⟨R, hR⟩ : ∃ R, decide (p = q) = R := ⟨_, rfl⟩
    have HT : Hid ((∀ i (hi : i < p.length) (hj : i < q.length), p[i] = q[i]) → R = true) := fun h => by rw [← hR, decide_eq_true_eq]; exact List.ext_getElem hl h
    have HFa : Hid (∀ i (hi : i < p.length) (hj : i < q.length), ¬ p[i] = q[i] → R = false) := fun i hi hj h => by
      rw [← hR, decide_eq_false_iff_not]; intro e; subst e; exact h rfl
    rw [hR]
    rw [hN] at h1 ⊢
    rw [hq] at h2 ⊢
    have HN : Hid (p.length = N ∧ q.length = N) := ⟨hN, hq⟩
    have H1 : Hid (Spns w (.slice a1 N c1) p) := h1
    have H2 : Hid (Spns w (.slice a2 N c2) q) := h2
    have hg := Tryz.spGuard
    have hne := Tryz.spNeq
    have hnn : ((N : Int) != (N : Int)) = false := by simp
    clear h1 h2 hN hq hl hR
    go_enter Tryz.func87, Tryz.ntmps87
    go_upto_region 4 with fail
    go_loopw [5, 13] (fun _ i wr => ∃ k : Nat, k ≤ N ∧ i = .int .i64 (k : Int) ∧ Below w.heap.size w wr ∧ Hid (∀ j (hi : j < p.length) (hj : j < q.length), j < k → p[j] = q[j])) (fun _ i _ => ((N : Int) - intOf i).toNat)
    case atStart => exact ⟨0, by omega, rfl, Below.refl _ _, fun j _ _ hj => by omega⟩
    case round =>
      obtain ⟨k, hk, rfl, hb, HK⟩ := hrel
      by_cases hkn : k < N
      · have i1 : (k : Int) < (N : Int) := by omega
        have i2 : (0 : Int) ≤ (k : Int) := by omega
        have hkp : k < p.length := by have := HN.out.1; omega
        have hkq : k < q.length := by have := HN.out.2; omega
        obtain ⟨b1, o1, e1, hb1, hl1, hx1, hc1⟩ := H1.out.shape (by omega)
        obtain ⟨b2, o2, e2, hb2, hl2, hx2, hc2⟩ := H2.out.shape (by omega)
        subst e1 e2
        obtain ⟨x0, x1⟩ := (hc1 k hkp).keep (hb.block b1 hb1)
        obtain ⟨y0, y1⟩ := (hc2 k hkq).keep (hb.block b2 hb2)
        have HST := hidE (fun (h : p[k] = q[k]) (j : Nat) (hi : j < p.length) (hj : j < q.length) (hjk : j < k + 1) => (show p[j] = q[j] from by
          by_cases e : j = k
          · subst e; exact h
          · exact HK.out j hi hj (by omega)))
        have HNE := hidE (fun h => HFa.out k hkp hkq h)
        have hsn := @sp_ne p[k] q[k]
        generalize p[k] = s at x0 x1 HST HNE hsn
        generalize q[k] = t at y0 y1 HST HNE hsn
        have hx1' : c1 ≤ 9223372036854775807 := by unfold maxLen at hx1; omega
        have hx2' : c2 ≤ 9223372036854775807 := by unfold maxLen at hx2; omega
        have HB : Hid (Below w.heap.size w wr) := hb
        have hne' := fun W => hne s.1 s.2 t.1 t.2 W
        by_cases hst : s = t
        · rw [decide_eq_true hst] at hsn
          have HS2 := hidE (HST.out hst)
          simp only [hsn, Bool.not_true] at hne'
          clear hc1 hc2 hx1 hx2 hb hkp hkq HK HST HNE hsn hst hne
          go_upto_region 6 with fail
          go_region
          all_goals
            go_wp2_with fail
            go_roundw
            case rel => exact ⟨k + 1, by omega, by go_num, HB.out.drew, HS2.out⟩
            case measure => simp [intOf]; omega
        · rw [decide_eq_false hst] at hsn
          have hRf := HNE.out hst
          simp only [hsn, Bool.not_false] at hne'
          subst hRf
          clear hc1 hc2 hx1 hx2 hb hkp hkq HK HST HNE hsn hst hne HT HFa
          go_upto_region 6 with fail
          go_region
          all_goals
            go_wp2_with fail
            go_ret
            exact ⟨rfl, HB.out.drew⟩
      · have i1 : ¬ (k : Int) < (N : Int) := by omega
        have hRt := HT.out (fun i hi hj => HK.out i hi hj (by have := HN.out.1; omega))
        subst hRt
        go_wp2_with fail
        go_ret
        exact ⟨rfl, hb⟩
  · have hne : ((p.length : Int) != (q.length : Int)) = true := by rw [bne_iff_ne]; omega
    have hd : decide (p = q) = false := by rw [decide_eq_false_iff_not]; intro e; exact hl (by rw [e])
    rw [hd]
    generalize p.length = P at hne ⊢
    generalize q.length = Q at hne ⊢
    clear hl hd h1 h2
    go_enter Tryz.func87, Tryz.ntmps87
    go_wp2_with fail
    go_ret
    exact ⟨rfl, Below.refl _ _⟩
theorem when_any (b : Bool) (n : Int) (w : World) : Calls Tryz.prog 38 #[.bool b, .int .i64 n] w fun e w' => e = .returned (if b then .iface 45 (.int .i64 n) else .nilIface) ∧ w' = w := by
  cases b
  · go_enter Tryz.func38, Tryz.ntmps38
    go_wp2_with fail
    go_ret
    exact ⟨rfl, rfl⟩
  · go_enter Tryz.func38, Tryz.ntmps38
    go_wp2_with fail
    go_ret
    exact ⟨rfl, rfl⟩
/-- 'normed' of spans that Check does not refuse. -/
theorem normed_any (v : Value) (l : List Sp) (w : World) (hv : Spns w v l) (h0 : spE l = 0) :
    Calls Tryz.prog 42 #[v] w fun e w' => e = .returned (.bool (tidyB l)) ∧ Below w.heap.size w w' := by
  obtain ⟨hl, hk⟩ := of_spE h0
  have hn := norm_any v l w hv (by omega)
  rw [h0, resL_0, show erV 0 = .nilIface from rfl] at hn
  have hd : decide (setP (inB l) = l) = tidyB l := by
    rcases ht : tidyB l with _ | _
    · rw [decide_eq_false_iff_not]
      intro e
      have h1 : Nrm l := by rw [← e]; exact (setP_is _).1
      rw [(tidy_nrm hk).2 h1] at ht; cases ht
    · rw [decide_eq_true_eq]; exact setP_self ((tidy_nrm hk).1 ht)
  have HEQ := hidE (fun (u : Value) (W : World) (hu : Spns W u (setP (inB l))) (hb : Below w.heap.size w W) => eqSp_any u v (setP (inB l)) l W hu (hv.below hb))
  rw [hd] at HEQ
  generalize setP (inB l) = R at hn HEQ
  generalize tidyB l = T at HEQ ⊢
  clear hd hl hk h0
  go_enter Tryz.func42, Tryz.ntmps42
  go_upto_region 2 with (go_at_call 86; go_must (refine hn.mono ?_; rintro e w1 ⟨v1, rfl, own1, b1⟩))
  have he := HEQ.out v1 w1 own1.spns b1
  have HB1 := hidE b1
  clear hn own1 b1
  go_wp2_with (go_at_call 87; go_must (refine he.mono ?_; rintro e w2 ⟨rfl, b2⟩))
  go_ret
  exact ⟨rfl, HB1.out.trans (b2.mono HB1.out.size)⟩
end Go.Proofs.YthnkjfgiclolaaaGreatDoor
