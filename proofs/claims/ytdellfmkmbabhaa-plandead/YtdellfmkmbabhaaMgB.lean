/- Live rules (package plan): checkUpTo, Live's closure, Live. -/
import Derived.Test.YtdellfmkmbabhaaMgA
import Derived.Test.YtdellfmkmbabhaaMgE
import Derived.Test.YtdellfmkmbabhaaPlanLay3
import Derived.Test.YtdellfmkmbabhaaOwnN
import Derived.Test.YtdellfmkmbabhaaOwnI
import Derived.Below
import Derived.Test.YtdellfmkmbabhaaPlanDec
import Derived.Deep.RegionHeld3
import Derived.Deep.DeepCutAuto
namespace Go.Proofs.Ytdellfmkmbabhaa
open Go.RowKit Go.Maps
set_option linter.unusedVariables false
set_option maxRecDepth 10000

/-- A rule that counts for some key. -/
def liveP (RS : List Rl) (n : Int) : Prop := ∃ k way, keyB k way = true ∧ judN RS k way = n
/-- Which number counts, told by bits. -/
def numV (RS : List Rl) (F : Nat) : Int := (decF F 0 RS (zeroR, -1)).2
theorem numV_is {RS : List Rl} {k : Ky} {way : Int} (hr : rusE RS = 0) (hk : keyB k way = true) : numV RS (atV RS (ptS k way) 6) = judN RS k way := by
  have h := (jud_ok hr hk).2.2.2
  rw [accV_all] at h
  unfold numV
  rw [atV_six]
  exact h
/-- What checkUpTo finds wrong, where six may be. -/
def upE (RS : List Rl) : Int := if rusE RS = 0 then (if 6 < RS.length then 4 else 0) else rusE RS
theorem upE_zero {RS : List Rl} : upE RS = 0 ↔ rusE RS = 0 ∧ RS.length ≤ 6 := by
  unfold upE
  split
  · rename_i h
    split
    · constructor
      · intro h2; cases h2
      · intro h2; omega
    · exact ⟨fun _ => ⟨h, by omega⟩, fun _ => rfl⟩
  · rename_i h
    exact ⟨fun h2 => absurd h2 h, fun h2 => absurd h2.1 h⟩
theorem chkUp_any (v : Value) (rs : List Rx) (w : World) (hv : Rls w v rs) :
    Calls Try.prog 18 #[v, .int .i64 6] w fun e w' => e = .returned (erV (upE (rs.map Prod.fst))) ∧ Below w.heap.size w w' := by
  obtain ⟨a, c, hve⟩ := hv.len
  have hck := rusCheck_any v rs w hv
  have hl : (rs.map Prod.fst).length = rs.length := List.length_map _
  obtain ⟨RS, hRS⟩ : ∃ RS, rs.map Prod.fst = RS := ⟨_, rfl⟩
  rw [hRS] at hck hl ⊢
  rw [← hl] at hve
  obtain ⟨N, hN⟩ : ∃ N, RS.length = N := ⟨_, rfl⟩
  rw [hN] at hve
  subst hve
  obtain ⟨Q, hQ⟩ : ∃ Q : Ending → World → Prop, Q = fun e w' => e = .returned (erV (upE RS)) ∧ Below w.heap.size w w' := ⟨_, rfl⟩
  have HQ : Hid (∀ w', Below w.heap.size w w' → Q (.returned (erV (upE RS))) w') := by rw [hQ]; exact fun _ h => ⟨rfl, h⟩
  rw [← hQ]
  clear hQ hv hRS hl
  by_cases h0 : rusE RS = 0
  · rw [h0, show erV 0 = .nilIface from rfl] at hck
    by_cases h6 : 6 < N
    · have e : upE RS = 4 := by unfold upE; rw [if_pos h0, if_pos (by omega)]
      rw [e, show erV 4 = .iface 62 (.int .i64 4) from rfl] at HQ
      have j : (6 : Int) < (N : Int) := by omega
      clear h0 h6 e hN
      go_enter Try.func18, Try.ntmps18
      go_wp2_with (go_at_call 7; go_must (refine hck.mono ?_; rintro e w1 ⟨rfl, b1⟩))
      exact HQ.out _ b1
    · have e : upE RS = 0 := by unfold upE; rw [if_pos h0, if_neg (by omega)]
      rw [e, show erV 0 = .nilIface from rfl] at HQ
      have j : ¬ (6 : Int) < (N : Int) := by omega
      clear h0 h6 e hN
      go_enter Try.func18, Try.ntmps18
      go_wp2_with (go_at_call 7; go_must (refine hck.mono ?_; rintro e w1 ⟨rfl, b1⟩))
      exact HQ.out _ b1
  · have e : upE RS = rusE RS := by unfold upE; rw [if_neg h0]
    rw [e] at HQ
    rw [erV_ne h0] at hck HQ
    generalize rusE RS = z at hck HQ
    clear h0 e hN
    go_enter Try.func18, Try.ntmps18
    go_wp2_with (go_at_call 7; go_must (refine hck.mono ?_; rintro e w1 ⟨rfl, b1⟩))
    exact HQ.out _ b1
/-- Live's closure. -/
theorem liv_isF (w0 W0 : World) (P PC NC : Nat) (n : Int) (RS : List Rl) (dv : Value) (cv : Nat → Value) (Cs : Nat → List St) (hL : LaySt w0 W0 P 6 RS dv cv Cs) (c1 : W0.cell? ⟨PC, 0, none⟩ = some (.pointer (some ⟨P, 0, none⟩))) (c2 : W0.cell? ⟨NC, 0, none⟩ = some (.int .i64 n)) (hPC : PC < W0.heap.size) (hNC : NC < W0.heap.size) (h20 : RS.length ≤ 20) :
    IsF W0 21 #[.pointer (some ⟨PC, 0, none⟩), .pointer (some ⟨NC, 0, none⟩)] (fun F => numV RS F == n) := by
  intro F W hF hb
  show Calls Try.prog 21 #[.int .u64 (F : Int), .pointer (some ⟨PC, 0, none⟩), .pointer (some ⟨NC, 0, none⟩)] W fun e w' => e = .returned (.bool (numV RS F == n)) ∧ Below W.heap.size W w'
  have hL2 := hL.below hb
  have d1 := (hb.cell (p := ⟨PC, 0, none⟩) hPC).trans c1
  have d2 := (hb.cell (p := ⟨NC, 0, none⟩) hNC).trans c2
  have d3 : W.cell? ⟨P, 0, none⟩ = some dv := by rw [cell_of_row _ _ _ _ _ _ hL2.box]; rfl
  have hde := decide_any dv RS F (P + 1) W hL2.own h20 hF
  obtain ⟨ad, cd, hdv⟩ := OwnN.len hL2.own
  obtain ⟨D, hD⟩ : ∃ D, decF F 0 RS (zeroR, -1) = D := ⟨_, rfl⟩
  have hnum : numV RS F = D.2 := by unfold numV; rw [hD]
  rw [hD] at hde
  rw [hnum]
  obtain ⟨p, hp⟩ : ∃ p, D.1.pass = p := ⟨_, rfl⟩
  obtain ⟨q, hq⟩ : ∃ q, D.1.quick = q := ⟨_, rfl⟩
  obtain ⟨kk, hkk⟩ : ∃ kk, D.1.keep = kk := ⟨_, rfl⟩
  obtain ⟨z, hz⟩ : ∃ z, D.2 = z := ⟨_, rfl⟩
  rw [hp, hq, hkk, hz] at hde
  rw [hz]
  have hNC2 : NC < W.heap.size := Nat.lt_of_lt_of_le hNC hb.size
  have HD2 := hidE d2
  generalize RS.length = nd at hdv
  subst hdv
  clear hD hnum hp hq hkk hz hL2 hL c1 c2 hb hPC hNC h20 hF d2
  go_enter Try.func21, Try.ntmps21
  go_upto_region 2 with (go_at_call 15; go_must (refine hde.mono ?_; rintro e w1 ⟨rfl, b1⟩))
  have b2 := b1.trans (((Below.refl w1.heap.size w1).alloc (Nat.le_refl _) (.cells #[.bool p, .bool q, .bool kk] 64)).mono b1.size)
  have d4 := (b2.cell (p := ⟨NC, 0, none⟩) hNC2).trans HD2.out
  have HB2 := hidE b2
  clear b1 b2 hde
  go_wp2_with fail
  go_ret
  exact ⟨rfl, HB2.out⟩
structure LvSt (w W : World) (S : Nat) (n : Int) : Prop where
  nx : W.heap[S]? = some (.cells #[.int .i64 n] 3 (0, 0))
  ky : W.heap[S + 1]? = some (.cells #[.int .i64 0, .int .i64 0, .int .i64 0, .int .i64 0, .int .i64 0] 24 (0, 0))
  bel : Below S w W
  sz : S + 2 ≤ W.heap.size
theorem LvSt.below {w W W' : World} {S : Nat} {n : Int} (h : LvSt w W S n) (hb : Below W.heap.size W W') : LvSt w W' S n :=
  ⟨(hb.block _ (by have := h.sz; omega)).trans h.nx, (hb.block _ (by have := h.sz; omega)).trans h.ky, h.bel.trans (hb.mono (by have := h.sz; omega)), Nat.le_trans h.sz hb.size⟩
theorem LvSt.cell {w W : World} {S : Nat} {n : Int} (h : LvSt w W S n) : W.cell? ⟨S, 0, none⟩ = some (.int .i64 n) := by rw [cell_of_row _ _ _ _ _ _ h.nx]; rfl
theorem LvSt.new (w : World) (n : Int) : LvSt w ((w.alloc (.cells #[.int .i64 n] 3)).alloc (.cells #[.int .i64 0, .int .i64 0, .int .i64 0, .int .i64 0, .int .i64 0] 24)) w.heap.size n := by
  have n1 := heap_alloc_new w (.cells #[.int .i64 n] 3)
  have b1 : Below w.heap.size w (w.alloc (.cells #[.int .i64 n] 3)) := (Below.refl _ _).alloc (Nat.le_refl _) _
  have z1 : (w.alloc (.cells #[.int .i64 n] 3)).heap.size = w.heap.size + 1 := by simp
  generalize w.alloc (.cells #[.int .i64 n] 3) = W1 at n1 b1 z1 ⊢
  have n2 := heap_alloc_new W1 (.cells #[.int .i64 0, .int .i64 0, .int .i64 0, .int .i64 0, .int .i64 0] 24)
  have b2 : Below W1.heap.size W1 (W1.alloc (.cells #[.int .i64 0, .int .i64 0, .int .i64 0, .int .i64 0, .int .i64 0] 24)) := (Below.refl _ _).alloc (Nat.le_refl _) _
  rw [z1] at n2
  exact ⟨(b2.block _ (by omega)).trans n1, n2, b1.trans (b2.mono b1.size), by simp; omega⟩
theorem LvSt.put {w W : World} {S : Nat} {n : Int} (h : LvSt w W S n) (x0 x1 x2 x3 x4 : Value) :
    ∃ W9, ((((W.setCell ⟨S + 1, 0, none⟩ x0).setCell ⟨S + 1, 1, none⟩ x1).setCell ⟨S + 1, 2, none⟩ x2).setCell ⟨S + 1, 3, none⟩ x3).setCell ⟨S + 1, 4, none⟩ x4 = W9 ∧ (W9.cell? ⟨S + 1, 0, none⟩ = some x0 ∧ W9.cell? ⟨S + 1, 1, none⟩ = some x1 ∧ W9.cell? ⟨S + 1, 2, none⟩ = some x2 ∧ W9.cell? ⟨S + 1, 3, none⟩ = some x3 ∧ W9.cell? ⟨S + 1, 4, none⟩ = some x4) ∧ Below S w W9 := by
  obtain ⟨W9, hW9, n9, b9⟩ := set5 h.ky x0 x1 x2 x3 x4
  exact ⟨W9, hW9, (row5 n9).1, h.bel.trans (b9.mono (by omega))⟩
set_option maxHeartbeats 16000000 in
theorem live_any (v : Value) (rs : List Rx) (i : Nat) (w : World) (hv : Rls w v rs) (RS : List Rl) (hRS : rs.map Prod.fst = RS) (hu : upE RS = 0) (hi : i < RS.length) :
    Calls Try.prog 10 #[v, .int .i64 (i : Int)] w fun e w' => ∃ (k : Ky) (way z : Int), e = .returned (.tuple #[.agg #[.int .i64 k.kind, .int .i64 k.src, .int .i64 k.frm, .int .i64 k.dst, .int .i64 k.too], .int .i64 way, erV z]) ∧ Hid ((z = 0 → keyB k way = true ∧ judN RS k way = (i : Int)) ∧ (z ≠ 0 → ¬ liveP RS (i : Int))) ∧ Below w.heap.size w w' := by
  obtain ⟨a, c, hve⟩ := hv.len
  have hl : RS.length = rs.length := by rw [← hRS, List.length_map]
  obtain ⟨hr, h6⟩ := upE_zero.1 hu
  obtain ⟨Q, hQ⟩ : ∃ Q : Ending → World → Prop, Q = fun e w' => ∃ (k : Ky) (way z : Int), e = .returned (.tuple #[.agg #[.int .i64 k.kind, .int .i64 k.src, .int .i64 k.frm, .int .i64 k.dst, .int .i64 k.too], .int .i64 way, erV z]) ∧ Hid ((z = 0 → keyB k way = true ∧ judN RS k way = (i : Int)) ∧ (z ≠ 0 → ¬ liveP RS (i : Int))) ∧ Below w.heap.size w w' := ⟨_, rfl⟩
  have HQ : Hid (∀ e w', FstR RS (fun F => numV RS F == (i : Int)) e → Below w.heap.size w w' → Q e w') := by
    rw [hQ]
    intro e w' h1 h2
    rcases h1 with ⟨k, way, hk, hp, rfl⟩ | ⟨hn, rfl⟩
    · refine ⟨k, way, 0, rfl, ⟨fun _ => ⟨hk, ?_⟩, fun h => absurd rfl h⟩, h2⟩
      rw [← numV_is hr hk]; exact eq_of_beq hp
    · refine ⟨⟨0, 0, 0, 0, 0⟩, 0, 5, rfl, ⟨fun h => absurd h (by decide), fun _ => ?_⟩, h2⟩
      rintro ⟨k, way, hk, hj⟩
      have := hn k way hk
      simp only [numV_is hr hk, hj, beq_self_eq_true] at this
      cases this
  rw [← hQ]
  clear hQ
  have S1 := LvSt.new w (i : Int)
  have HUP := hidE (fun W (hb : Below w.heap.size w W) => chkUp_any v rs W (hv.below hb))
  have HLY := hidE (fun W (hb : Below w.heap.size w W) => lay_any v rs W (hv.below hb) (by rw [hRS]; exact (rusE_zero.1 hr).2) (by omega))
  rw [hRS] at HUP HLY
  rw [hu, show erV 0 = .nilIface from rfl] at HUP
  rw [← hl] at hve
  obtain ⟨N, hN⟩ : ∃ N, RS.length = N := ⟨_, rfl⟩
  rw [hN] at hve
  have j1 : ¬ (i : Int) < 0 := by omega
  have j2 : ¬ (N : Int) ≤ (i : Int) := by omega
  have HH := hidE (And.intro hr h6)
  subst hve
  obtain ⟨S, hS⟩ : ∃ S, w.heap.size = S := ⟨_, rfl⟩
  rw [hS] at S1 HQ HUP HLY
  have HS := hidE hS
  obtain ⟨W1, hW1⟩ : ∃ W1, (w.alloc (.cells #[.int .i64 (i : Int)] 3)).alloc (.cells #[.int .i64 0, .int .i64 0, .int .i64 0, .int .i64 0, .int .i64 0] 24) = W1 := ⟨_, rfl⟩
  rw [hW1] at S1
  have HW1 := hidE hW1
  have HS1 := hidE S1
  have hck := HUP.out W1 S1.bel
  have eg := enters_of Try.func21 (by kernel_rfl) rfl
  clear hv hRS hr h6 hu hi hl hN hS hW1 S1 HUP
  go_enter Try.func10, Try.ntmps10
  go_upto_region 1 with fail
  rw [HW1.out, HS.out]
  clear HW1
  go_upto_region 4 with (go_at_call 18; go_must (refine hck.mono ?_; rintro e w2 ⟨rfl, b2⟩))
  have HS2 := hidE (HS1.out.below b2)
  have c2 := HS2.out.cell
  clear hck b2 HS1
  go_upto_region 6 with fail
  have hly := HLY.out w2 HS2.out.bel
  clear HLY c2 j1 j2
  go_upto_region 7 with (go_at_call 12; go_must (refine hly.mono ?_; rintro e w6 ⟨dv, cv, Cs, rfl, L6⟩))
  have S6 := HS2.out.below L6.bel
  have b7 : Below w6.heap.size w6 (w6.alloc (.cells #[.pointer (some ⟨w2.heap.size, 0, none⟩)] 25)) := (Below.refl _ _).alloc (Nat.le_refl _) _
  have n7 := heap_alloc_new w6 (.cells #[.pointer (some ⟨w2.heap.size, 0, none⟩)] 25)
  have z7 : w6.heap.size < (w6.alloc (.cells #[.pointer (some ⟨w2.heap.size, 0, none⟩)] 25)).heap.size := by simp
  have S7 := S6.below b7
  have L7 := L6.below b7
  obtain ⟨P, hP⟩ : ∃ P, w2.heap.size = P := ⟨_, rfl⟩
  rw [hP] at S7 L7 n7 z7 ⊢
  obtain ⟨X, hX⟩ : ∃ X, w6.heap.size = X := ⟨_, rfl⟩
  obtain ⟨W7, hW7⟩ : ∃ W7, w6.alloc (.cells #[.pointer (some ⟨P, 0, none⟩)] 25) = W7 := ⟨_, rfl⟩
  rw [hW7] at S7 L7 n7 z7 ⊢
  rw [hX] at n7 z7 ⊢
  have c7 : W7.cell? ⟨X, 0, none⟩ = some (.pointer (some ⟨P, 0, none⟩)) := by rw [cell_of_row _ _ _ _ _ _ n7]; rfl
  have hif := liv_isF w2 W7 P X S (i : Int) RS dv cv Cs L7 c7 S7.cell z7 (by have := S7.sz; omega) (by have := HH.out; omega)
  have hfi := first_any w2 W7 P RS dv cv Cs 21 _ _ L7 (by have := HH.out; omega) hif eg
  have hfi2 := hfi.mono (R' := fun e w' => ∃ (k0 k1 k2 k3 k4 way : Int) (ev : Value), e = .returned (.tuple #[.agg #[.int .i64 k0, .int .i64 k1, .int .i64 k2, .int .i64 k3, .int .i64 k4], .int .i64 way, ev]) ∧ Hid (FstR RS (fun F => numV RS F == (i : Int)) (.returned (.tuple #[.agg #[.int .i64 k0, .int .i64 k1, .int .i64 k2, .int .i64 k3, .int .i64 k4], .int .i64 way, ev]))) ∧ Below W7.heap.size W7 w') (fun e w' h => by
    obtain ⟨h1, h2⟩ := h
    have h3 := h1
    rcases h1 with ⟨k, way, hk, hp, rfl⟩ | ⟨hn, rfl⟩
    · exact ⟨k.kind, k.src, k.frm, k.dst, k.too, way, _, rfl, h3, h2⟩
    · exact ⟨0, 0, 0, 0, 0, 0, _, rfl, h3, h2⟩)
  have HS7 := hidE S7
  clear S6 b7 n7 z7 S7 L7 L6 hP hX hW7 hif hfi hly HS2 HH
  go_wp2_with (go_at_call 20; go_must (refine hfi2.mono ?_; rintro e w8 ⟨k0, k1, k2, k3, k4, way, ev, rfl, HD8, b8⟩; have S8 := HS7.out.below b8; have hput := S8.put (.int .i64 k0) (.int .i64 k1) (.int .i64 k2) (.int .i64 k3) (.int .i64 k4); obtain ⟨W9, hW9, q9, B9⟩ := hput; have hr5 := row5 S8.ky; obtain ⟨⟨g0, g1, g2, g3, g4⟩, gz⟩ := hr5; have gz0 := gz 0; have gz1 := gz 1; have gz2 := gz 2; have gz3 := gz 3; have gz4 := gz 4; have HW9 := hidE hW9; have HQ9 := hidE q9; have HF9 := hidE (HQ.out _ W9 HD8.out B9); clear S8 hW9 q9 B9 gz b8 HD8))
  rw [HW9.out]
  obtain ⟨q0, q1, q2, q3, q4⟩ := HQ9.out
  exact bodyPost_ret (v := .tuple #[.agg #[.int .i64 k0, .int .i64 k1, .int .i64 k2, .int .i64 k3, .int .i64 k4], .int .i64 way, ev]) (by simp [results, Try.results10, go_sem, q0, q1, q2, q3, q4]) rfl HF9.out
end Go.Proofs.Ytdellfmkmbabhaa

namespace Go.Proofs.Ytdellfmkmbabhaa
open Go.RowKit
set_option linter.unusedVariables false

def markL (n : Nat) (js : List Nat) : List Value := (List.range n).map fun i => Value.bool (decide (i ∈ js))
def Marks (w : World) (g n : Nat) (js : List Nat) : Prop := w.heap[g]? = some (.cells (markL n js).toArray 4 (0, 0))
theorem Marks.cell {w : World} {g n : Nat} {js : List Nat} (h : Marks w g n js) {i : Nat} (hi : i < n) : w.cell? ⟨g, i, none⟩ = some (.bool (decide (i ∈ js))) := by
  rw [cell_of_row w g i _ _ _ h]; simp [markL, hi]
theorem Marks.free {w : World} {g n : Nat} {js : List Nat} (h : Marks w g n js) (i : Nat) : w.frozen? ⟨g, i, none⟩ = false := frozen_of_row w g i _ _ h
theorem Marks.store {w : World} {g n : Nat} {js : List Nat} (h : Marks w g n js) (i : Nat) : Marks (w.setCell ⟨g, i, none⟩ (.bool true)) g n (js ++ [i]) := by
  unfold Marks at h ⊢
  rw [heap_setCell_same w g i _ _ _ h]
  have : (markL n js).set i (.bool true) = markL n (js ++ [i]) := by
    apply List.ext_getElem
    · simp [markL]
    · intro j h1 h2
      rw [List.getElem_set]
      by_cases hj : i = j
      · subst hj; simp [markL]
      · rw [if_neg hj]
        have : ¬ j = i := fun e => hj e.symm
        simp [markL, this]
  rw [← this]
  simp
theorem Marks.keep {w w' : World} {g n : Nat} {js : List Nat} (h : Marks w g n js) (hb : w'.heap[g]? = w.heap[g]?) : Marks w' g n js := hb.trans h
theorem Try.infoBool : (Try.prog.info? 4).map (fun i => (i.zero, i.size, i.bytes)) = some (some (.bool false), 1, 1) := by kernel_rfl
theorem make_marks (w : World) (n : Nat) (h : n ≤ 100000) :
    ∃ w', (Instr.makeSlice 70 (.int .i64 (n : Int)) (.int .i64 (n : Int))).run Try.prog w = .ok (.slice (some ⟨w.heap.size, 0, none⟩) n n) w' ∧ Marks w' w.heap.size n [] ∧ Below w.heap.size w w' ∧ w'.heap.size = w.heap.size + 1 := by
  obtain ⟨i0, hi, hz0, hz1, hz2⟩ := info_parts Try.infoBool
  have hr := run_make (P := Try.prog) w 70 4 i0 (.bool false) Try.underlying70 hi hz0 .i64 .i64 (n : Int) (n : Int) (by omega) (by omega) (by rw [hz2]; omega) (by omega)
  rw [Int.toNat_natCast, hz1, Nat.mul_one] at hr
  have hm : madeCells (Value.bool false).cells n = (markL n []).toArray := by
    apply Array.ext
    · simp [madeCells, markL]
    · intro i h1 h2
      simp [madeCells, markL, Value.cells, Nat.mod_one]
  rw [hm] at hr
  exact ⟨_, hr, heap_alloc_new w _, (Below.refl _ _).alloc (Nat.le_refl _) _, by simp⟩
end Go.Proofs.Ytdellfmkmbabhaa

namespace Go.Proofs.Ytdellfmkmbabhaa
open Go.RowKit Go.Maps
set_option linter.unusedVariables false

/-- A deed of the call's own. -/
structure DfSt (W wr : World) (B : Nat) (p q k : Bool) : Prop where
  at' : wr.heap[B]? = some (.cells #[.bool p, .bool q, .bool k] 64 (0, 0))
  lo : W.heap.size ≤ B
  bel : Below W.heap.size W wr
def zeroDd : Obj := .cells #[.bool false, .bool false, .bool false] 64
theorem DfSt.below {W wr wr' : World} {B : Nat} {p q k : Bool} (h : DfSt W wr B p q k) (hb : Below wr.heap.size wr wr') : DfSt W wr' B p q k :=
  ⟨(hb.block B (Array.getElem?_eq_some_iff.1 h.at').1).trans h.at', h.lo, h.bel.trans (hb.mono h.bel.size)⟩
theorem DfSt.fresh {W w1 : World} (p q k : Bool) (h : Below W.heap.size W w1) : DfSt W (w1.alloc (.cells #[.bool p, .bool q, .bool k] 64)) w1.heap.size p q k :=
  ⟨heap_alloc_new w1 _, h.size, h.alloc h.size _⟩
/-- The deed was made ahead of the call. -/
theorem early {W wr w1 : World} (hw : Below W.heap.size W wr) (b : Below (wr.alloc zeroDd).drew.heap.size (wr.alloc zeroDd).drew w1) : w1.heap[wr.heap.size]? = some (.cells #[.bool false, .bool false, .bool false] 64 (0, 0)) ∧ Below W.heap.size W w1 := by
  have z : wr.heap.size < (wr.alloc zeroDd).drew.heap.size := by show wr.heap.size < (wr.alloc zeroDd).heap.size; simp
  have e := heap_alloc_new wr zeroDd
  have bb : Below W.heap.size W (wr.alloc zeroDd) := hw.alloc hw.size _
  refine ⟨(b.block _ z).trans e, ?_⟩
  have b' : Below (wr.alloc zeroDd).heap.size (wr.alloc zeroDd) w1 := ⟨b.os, b.tape, b.output, b.size, b.block⟩
  exact bb.trans (b'.mono bb.size)
theorem DfSt.put {W w1 : World} {B : Nat} (h : w1.heap[B]? = some (.cells #[.bool false, .bool false, .bool false] 64 (0, 0))) (hb : Below W.heap.size W w1) (hB : W.heap.size ≤ B) (p q k : Bool) : DfSt W (((w1.setCell ⟨B, 0, none⟩ (.bool p)).setCell ⟨B, 1, none⟩ (.bool q)).setCell ⟨B, 2, none⟩ (.bool k)) B p q k := by
  obtain ⟨W', hW', n', o', b', z'⟩ := set3 h (.bool p) (.bool q) (.bool k)
  rw [hW']
  exact ⟨n', hB, hb.trans (b'.mono hB)⟩
theorem late {W wr w1 : World} (hw : Below W.heap.size W wr) (b : Below wr.drew.heap.size wr.drew w1) : Below W.heap.size W w1 := by
  have b' : Below wr.heap.size wr w1 := ⟨b.os, b.tape, b.output, b.size, b.block⟩
  exact hw.trans (b'.mono hw.size)
end Go.Proofs.Ytdellfmkmbabhaa

namespace Go.Proofs.Ytdellfmkmbabhaa
open Go.RowKit Go.Maps
set_option linter.unusedVariables false
set_option maxRecDepth 10000

theorem decF_rng (F : Nat) : ∀ (l : List Rl) (n : Nat) (acc : Rl × Int), (decF F n l acc).2 = acc.2 ∨ ∃ j, j < l.length ∧ (decF F n l acc).2 = ((n + j : Nat) : Int)
  | [], n, acc => .inl rfl
  | r :: l, n, acc => by
      have up : ∀ acc', (decF F (n + 1) l acc').2 = acc'.2 ∨ ∃ j, j < (r :: l).length ∧ (decF F (n + 1) l acc').2 = ((n + j : Nat) : Int) := fun acc' => by
        rcases decF_rng F l (n + 1) acc' with h | ⟨j, hj, h⟩
        · exact .inl h
        · exact .inr ⟨j + 1, by simpa using hj, by rw [h]; congr 1; omega⟩
      rcases hb : F.testBit n with _ | _
      · rw [decF_no hb]; exact up acc
      · rcases hq : r.quick with _ | _
        · rw [decF_yes hb hq]
          rcases up (r, (n : Int)) with h | h
          · exact .inr ⟨0, by simp, by rw [h]; rfl⟩
          · exact .inr h
        · rw [decF_quick hb hq]; exact .inr ⟨0, by simp, rfl⟩
theorem numV_rng (RS : List Rl) (F : Nat) : numV RS F = -1 ∨ ∃ j, j < RS.length ∧ numV RS F = (j : Int) := by
  rcases decF_rng F RS 0 (zeroR, -1) with h | ⟨j, hj, h⟩
  · exact .inl h
  · exact .inr ⟨j, hj, by unfold numV; rw [h]; congr 1; omega⟩
/-- The numbers below n that are in no list js. -/
def deadL (n : Nat) (js : List Nat) : List Int := ((List.range n).filter fun i => decide (i ∉ js)).map fun i : Nat => (i : Int)
theorem deadL_no {n : Nat} {js : List Nat} (h : n ∈ js) : deadL (n + 1) js = deadL n js := by
  unfold deadL; rw [List.range_succ, List.filter_append]; simp [h]
theorem deadL_yes {n : Nat} {js : List Nat} (h : n ∉ js) : deadL (n + 1) js = deadL n js ++ [(n : Int)] := by
  unfold deadL; rw [List.range_succ, List.filter_append]; simp [h]
theorem deadL_len (n : Nat) (js : List Nat) : (deadL n js).length ≤ n := by
  unfold deadL; rw [List.length_map]; exact Nat.le_trans (List.length_filter_le _ _) (by simp)
theorem deadL_mem {n : Nat} {js : List Nat} {i : Nat} (h : i < n) : (i : Int) ∈ deadL n js ↔ i ∉ js := by
  unfold deadL
  constructor
  · intro h2
    obtain ⟨j, hj, e⟩ := List.mem_map.1 h2
    have : j = i := by omega
    subst this
    simpa using (List.mem_filter.1 hj).2
  · intro h2
    exact List.mem_map.2 ⟨i, List.mem_filter.2 ⟨by simpa using h, by simpa using h2⟩, rfl⟩
/-- What is dead. -/
def DeadIs (RS : List Rl) (ds : List Int) : Prop := ∃ js : List Nat, ds = deadL RS.length js ∧ ∀ n, n < RS.length → (n ∈ js ↔ liveP RS (n : Int))
theorem dead_is {RS : List Rl} {R : List Cl} {js : List Nat} (hr : rusE RS = 0) (ho : ∀ c ∈ R, ClOk RS 6 c) (ha : ClAll RS 6 R) (hj : ∀ n, n ∈ js ↔ ∃ c ∈ R, numV RS c.2 = (n : Int)) : DeadIs RS (deadL RS.length js) := by
  refine ⟨js, rfl, fun n hn => ?_⟩
  rw [hj]
  constructor
  · rintro ⟨c, hc, h⟩
    obtain ⟨k1, k2⟩ := cl_key (ho c hc)
    exact ⟨_, _, k1, by rw [← numV_is hr k1, k2]; exact h⟩
  · rintro ⟨k, way, hk, h⟩
    obtain ⟨c, hc, e⟩ := ha (ptS k way) (fun i hi => keyB_ok.1 hk i hi)
    exact ⟨c, hc, by rw [e, numV_is hr hk]; exact h⟩
/-- Where Dead stands while it marks. -/
structure MkSt (w W : World) (S G N : Nat) (js : List Nat) : Prop where
  mks : Marks W G N js
  bel : Below S w W
  lo : S ≤ G
theorem MkSt.below {w W W' : World} {S G N B : Nat} {js : List Nat} (h : MkSt w W S G N js) (hB : G < B) (hb : Below B W W') : MkSt w W' S G N js :=
  ⟨h.mks.keep (hb.block G hB), h.bel.trans (hb.mono (by have := h.lo; omega)), h.lo⟩
theorem dead_bad (v : Value) (rs : List Rx) (w : World) (hv : Rls w v rs) (RS : List Rl) (hRS : rs.map Prod.fst = RS) (hu : upE RS ≠ 0) :
    Calls Try.prog 9 #[v] w fun e w' => e = .returned (.tuple #[.slice none 0 0, .iface 62 (.int .i64 (upE RS))]) ∧ Below w.heap.size w w' := by
  obtain ⟨a, c, hve⟩ := hv.len
  have hck := chkUp_any v rs w hv
  rw [hRS, erV_ne hu] at hck
  generalize upE RS = z at hck ⊢
  generalize rs.length = N at hve
  subst hve
  obtain ⟨Q, hQ⟩ : ∃ Q : Ending → World → Prop, Q = fun e w' => e = .returned (.tuple #[.slice none 0 0, .iface 62 (.int .i64 z)]) ∧ Below w.heap.size w w' := ⟨_, rfl⟩
  have HQ : Hid (∀ w', Below w.heap.size w w' → Q (.returned (.tuple #[.slice none 0 0, .iface 62 (.int .i64 z)])) w') := by rw [hQ]; exact fun _ h => ⟨rfl, h⟩
  rw [← hQ]
  clear hv hRS hu hQ
  go_enter Try.func9, Try.ntmps9
  go_wp2_with (go_at_call 18; go_must (refine hck.mono ?_; rintro e w1 ⟨rfl, b1⟩))
  exact HQ.out _ b1
set_option maxHeartbeats 16000000 in
theorem dead_ok (v : Value) (rs : List Rx) (w : World) (hv : Rls w v rs) (RS : List Rl) (hRS : rs.map Prod.fst = RS) (hu : upE RS = 0) :
    Calls Try.prog 9 #[v] w fun e w' => ∃ da m dc ds, e = .returned (.tuple #[.slice da m dc, .nilIface]) ∧ Hid (OwnI w' w.heap.size (.slice da m dc) ds ∧ ds.length = m ∧ DeadIs RS ds) ∧ Below w.heap.size w w' := by
  obtain ⟨a, c, hve⟩ := hv.len
  have hl : RS.length = rs.length := by rw [← hRS, List.length_map]
  obtain ⟨hr, h6⟩ := upE_zero.1 hu
  obtain ⟨Q, hQ⟩ : ∃ Q : Ending → World → Prop, Q = fun e w' => ∃ da m dc ds, e = .returned (.tuple #[.slice da m dc, .nilIface]) ∧ Hid (OwnI w' w.heap.size (.slice da m dc) ds ∧ ds.length = m ∧ DeadIs RS ds) ∧ Below w.heap.size w w' := ⟨_, rfl⟩
  have HQ : Hid (∀ v' ds w', OwnI w' w.heap.size v' ds → DeadIs RS ds → Below w.heap.size w w' → Q (.returned (.tuple #[v', .nilIface])) w') := by
    rw [hQ]
    intro v' ds w' h1 h2 h3
    obtain ⟨da, dc, rfl⟩ := h1.form
    exact ⟨da, _, dc, ds, rfl, ⟨h1, rfl, h2⟩, h3⟩
  rw [← hQ]
  clear hQ
  have hck := chkUp_any v rs w hv
  rw [hRS, hu, show erV 0 = .nilIface from rfl] at hck
  have HLY := hidE (fun W (hb : Below w.heap.size w W) => lay_any v rs W (hv.below hb) (by rw [hRS]; exact (rusE_zero.1 hr).2) (by omega))
  rw [hRS] at HLY
  rw [← hl] at hve
  obtain ⟨N, hN⟩ : ∃ N, RS.length = N := ⟨_, rfl⟩
  rw [hN] at hve h6
  have HN := hidE hN
  have HR := hidE hr
  subst hve
  clear hv hRS hr hu hl hN
  go_enter Try.func9, Try.ntmps9
  go_upto_region 4 with (go_at_call 18; go_must (refine hck.mono ?_; rintro e w2 ⟨rfl, b2⟩))
  have hly := HLY.out w2 b2
  have HB2 := hidE b2
  clear hck b2 HLY
  go_upto_region 5 with (go_at_call 12; go_must (refine hly.mono ?_; rintro e w3 ⟨dv, cv, Cs, rfl, L3⟩))
  obtain ⟨P, hP⟩ : ∃ P, w2.heap.size = P := ⟨_, rfl⟩
  rw [hP] at L3 ⊢
  have B3 := HB2.out.trans (L3.bel.mono (by have := HB2.out.size; omega))
  obtain ⟨W4, hmk, M4, b4, z4⟩ := make_marks w3 N (by omega)
  have L4 := L3.below b4
  have HL3 := hidE L3
  have HB4 := hidE b4
  have HPG := hidE (show P < w3.heap.size from by have := L3.sz; omega)
  have HSG := hidE (show w.heap.size ≤ w3.heap.size from B3.size)
  obtain ⟨G, hG⟩ : ∃ G, w3.heap.size = G := ⟨_, rfl⟩
  rw [hG] at hmk M4 b4 z4 HPG HSG HB4
  have HG := hidE hG
  have HK4 := hidE (show MkSt w W4 w.heap.size G N [] from ⟨M4, B3.trans (b4.mono HSG.out), HSG.out⟩)
  have hcl := classes_any w2 W4 P RS dv cv Cs L4 (by have := HN.out; omega)
  have HL4 := hidE L4
  have HZ4 := hidE z4
  have hcl' := hcl.mono (R' := fun e w' => ∃ a m c R, e = .returned (.slice a m c) ∧ R.length = m ∧ OwnC w' W4.heap.size (.slice a m c) R ∧ (∀ c ∈ R, ClOk RS 6 c) ∧ ClAll RS 6 R ∧ R.length ≤ 256 ∧ Below W4.heap.size W4 w') (fun e w' h => by
    obtain ⟨v', R, rfl, h1, h2, h3, h4, h5⟩ := h
    obtain ⟨a, c, rfl⟩ := OwnN.len h1
    exact ⟨a, _, c, R, rfl, rfl, h1, h2, h3, h4, h5⟩)
  clear hly hP B3 L3 M4 b4 z4 L4 hG hcl HB2
  go_upto_region 6 with fail
  clear hmk
  go_upto_region 7 with (go_at_call 19; go_must (refine hcl'.mono ?_; rintro e w5 ⟨a1, M, c1, R, rfl, hM, O5, K5, A5, hM2, b5⟩))
  have HO5 := hidE (OwnN.rebase O5 (b' := G + 1) (by have := HZ4.out; omega))
  have HK5 := hidE (HK4.out.below (by have := HZ4.out; omega) b5)
  have HL5 := hidE (HL4.out.below b5)
  have HCK := hidE K5
  have HCA := hidE A5
  have HB5 := hidE (HB4.out.trans (b5.mono (by have := HZ4.out; omega)))
  have HM := hidE hM
  have hM3 : M ≤ 256 := by omega
  have HZ5 := hidE (show G + 1 ≤ w5.heap.size by have := b5.size; have := HZ4.out; omega)
  clear hcl' O5 K5 A5 hM hM2 b5 HK4 HL4 HZ4
  go_loopw [8, 9, 10, 27] (fun _ _ _ i wr => ∃ (k : Nat) (js : List Nat), k ≤ M ∧ i = .int .i64 (k : Int) ∧ Hid (MkSt w wr w.heap.size G N js) ∧ Hid (Below G w3 wr) ∧ Hid (OwnC wr (G + 1) (.slice a1 M c1) R) ∧ Hid (∀ n, n ∈ js ↔ ∃ i, ∃ h : i < R.length, i < k ∧ numV RS R[i].2 = (n : Int))) (fun _ _ _ i _ => ((M : Int) - intOf i).toNat)
  case atStart => exact ⟨0, [], by omega, rfl, HK5.out, HB5.out, HO5.out, fun n => ⟨fun h => (by cases h), fun ⟨i, _, h, _⟩ => absurd h (Nat.not_lt_zero _)⟩⟩
  case round =>
    obtain ⟨k, js, hk, rfl, HK, HB, HO, HJ⟩ := hrel
    have hGw : G < wr.heap.size := (Array.getElem?_eq_some_iff.1 HK.out.mks).1
    by_cases hkn : k < M
    · have j1 : (k : Int) < (M : Int) := by omega
      have j2 : (0 : Int) ≤ (k : Int) := by omega
      have hkl : k < R.length := by rw [HM.out]; exact hkn
      obtain ⟨g, cap, hvv, hg1, hg2, hg3, hg4⟩ := OwnN.shape HO.out (by omega)
      rw [HM.out] at hvv
      simp only [Value.slice.injEq] at hvv
      obtain ⟨rfl, _, rfl⟩ := hvv
      have hco : c1 ≤ 9223372036854775807 := by unfold maxLen at hg4; omega
      obtain ⟨x0, x1, x2, x3, x4, x5, x6, x7, x8, x9, x10, x11, x12⟩ := OwnC.cells HO.out k hkl
      have hck := HCK.out R[k] (List.getElem_mem hkl)
      have HJN := hidE (show (numV RS R[k].2 = -1 → ∀ n, n ∈ js ↔ ∃ i, ∃ h : i < R.length, i < k + 1 ∧ numV RS R[i].2 = (n : Int)) ∧ (∀ j : Nat, numV RS R[k].2 = (j : Int) → ∀ n, n ∈ js ++ [j] ↔ ∃ i, ∃ h : i < R.length, i < k + 1 ∧ numV RS R[i].2 = (n : Int)) from by
        constructor
        · intro hz n
          rw [HJ.out n]
          constructor
          · rintro ⟨i, h, h1, h2⟩; exact ⟨i, h, by omega, h2⟩
          · rintro ⟨i, h, h1, h2⟩
            rcases Nat.lt_or_ge i k with h3 | h3
            · exact ⟨i, h, h3, h2⟩
            · have : i = k := by omega
              subst this; omega
        · intro j hz n
          rw [List.mem_append, HJ.out n, List.mem_singleton]
          constructor
          · rintro (⟨i, h, h1, h2⟩ | rfl)
            · exact ⟨i, h, by omega, h2⟩
            · exact ⟨k, hkl, by omega, hz⟩
          · rintro ⟨i, h, h1, h2⟩
            rcases Nat.lt_or_ge i k with h3 | h3
            · exact .inl ⟨i, h, h3, h2⟩
            · have : i = k := by omega
              subst this; exact .inr (by omega))
      obtain ⟨c, hc⟩ : ∃ c, R[k] = c := ⟨_, rfl⟩
      rw [hc] at x0 x1 x2 x3 x4 x5 x6 x7 x8 x9 x10 x11 x12 hck HJN
      have hF64 : c.2 < 2 ^ 64 := by rw [hck.2]; exact atV_lt RS _ 6
      have b3 : Below wr.heap.size wr (wr.alloc (.cells (encC c).toArray 76)) := (Below.refl _ _).alloc (Nat.le_refl _) _
      have n3 := heap_alloc_new wr (.cells (encC c).toArray 76)
      have K3 := HK.out.below hGw b3
      have B3 := HB.out.trans (b3.mono (by omega))
      have O3 : OwnC _ (G + 1) _ R := OwnN.below HO.out b3
      have L3 := HL3.out.below (by rw [HG.out]; exact B3)
      obtain ⟨X, hX⟩ : ∃ X, wr.heap.size = X := ⟨_, rfl⟩
      obtain ⟨W3, hW3⟩ : ∃ W3, wr.alloc (.cells (encC c).toArray 76) = W3 := ⟨_, rfl⟩
      have z3 : X < W3.heap.size := by rw [← hW3, ← hX]; simp
      rw [hW3] at n3 K3 B3 O3 L3
      rw [hX] at n3
      have HW3 : Hid (wr.alloc (.cells #[.int .i64 (c.1 0).1, .int .i64 (c.1 0).2, .int .i64 (c.1 1).1, .int .i64 (c.1 1).2, .int .i64 (c.1 2).1, .int .i64 (c.1 2).2, .int .i64 (c.1 3).1, .int .i64 (c.1 3).2, .int .i64 (c.1 4).1, .int .i64 (c.1 4).2, .int .i64 (c.1 5).1, .int .i64 (c.1 5).2, .int .u64 (c.2 : Int)] 76) = W3) := hW3
      have HX := hidE hX
      have hPW : P < W3.heap.size := by have := L3.sz; omega
      have d0 : W3.cell? ⟨P, 0, none⟩ = some dv := by rw [cell_of_row _ _ _ _ _ _ L3.box]; rfl
      have d12 : W3.cell? ⟨X, 12, none⟩ = some (.int .u64 (c.2 : Int)) := (rowC n3).2.2.2.2.2.2.2.2.2.2.2.2
      have HDE := hidE (fun Y (hY : Below W3.heap.size W3 Y) => decide_any dv RS c.2 (P + 1) Y (L3.below hY).own (by have := HN.out; omega) hF64)
      obtain ⟨D, hD⟩ : ∃ D, decF c.2 0 RS (zeroR, -1) = D := ⟨_, rfl⟩
      have hnum : numV RS c.2 = D.2 := by unfold numV; rw [hD]
      rw [hD] at HDE
      have hrng := numV_rng RS c.2
      rw [hnum] at HJN hrng
      obtain ⟨pa, hpa⟩ : ∃ pa, D.1.pass = pa := ⟨_, rfl⟩
      obtain ⟨qa, hqa⟩ : ∃ qa, D.1.quick = qa := ⟨_, rfl⟩
      obtain ⟨ka, hka⟩ : ∃ ka, D.1.keep = ka := ⟨_, rfl⟩
      obtain ⟨z, hz⟩ : ∃ z, D.2 = z := ⟨_, rfl⟩
      rw [hpa, hqa, hka, hz] at HDE
      rw [hz] at HJN hrng
      have HRN := hidE hrng
      have hda0 := HDE.out W3.drew (below_drewN (Below.refl _ _) 1)
      have hda1 := HDE.out (W3.alloc zeroDd).drew (below_drewN ((Below.refl _ _).alloc (Nat.le_refl _) _) 1)
      have HK3 := hidE K3
      have HB3 := hidE B3
      have HO3 := hidE O3
      have HGX := hidE (show G < X by omega)
      clear hg1 hg2 hg3 hg4 hkl hc b3 n3 K3 B3 O3 L3 hX hW3 HK HB HO HJ hD hnum hrng hpa hqa hka hz HDE hck hF64 hGw
      go_upto_region 9 with fail
      rw [HW3.out, HX.out]
      clear x0 x1 x2 x3 x4 x5 x6 x7 x8 x9 x10 x11 x12 HW3
      go_cut [9, 10] (fun p n wr => n = .int .i64 z ∧ ∃ B, p = .pointer (some ⟨B, 0, none⟩) ∧ Hid (DfSt W3 wr B pa qa ka))
      case first =>
        unfold zeroDd at hda1
        have hS : W3.cell? ⟨P, 0, none⟩ = some dv ∧ W3.cell? ⟨X, 12, none⟩ = some (.int .u64 (c.2 : Int)) := ⟨d0, d12⟩
        have nn1 := World.new_ne W3 _ d0
        have nn2 := World.new_ne W3 _ d12
        go_region_held3 (fun Y => Y.cell? ⟨P, 0, none⟩ = some dv ∧ Y.cell? ⟨X, 12, none⟩ = some (.int .u64 (c.2 : Int))) (with_reducible first | assumption | go_keep) (first
          | (go_at_call 15; refine hda0.mono ?_; rintro e w1 ⟨rfl, b1⟩; have hh := hidE (late (Below.refl _ _) b1); have hB1 := hh.out; have hS1 : w1.cell? ⟨P, 0, none⟩ = some dv ∧ w1.cell? ⟨X, 12, none⟩ = some (.int .u64 (c.2 : Int)) := ⟨(hB1.cell (p := ⟨P, 0, none⟩) hPW).trans d0, (hB1.cell (p := ⟨X, 12, none⟩) z3).trans d12⟩; clear hB1)
          | (go_at_call 15; refine hda1.mono ?_; rintro e w1 ⟨rfl, b1⟩; have hh := hidE (early (Below.refl _ _) b1); have hc := row3 hh.out.1; obtain ⟨⟨e0, e1, e2⟩, e3, e4, e5⟩ := hc; have hB1 := hh.out.2; have hS1 : w1.cell? ⟨P, 0, none⟩ = some dv ∧ w1.cell? ⟨X, 12, none⟩ = some (.int .u64 (c.2 : Int)) := ⟨(hB1.cell (p := ⟨P, 0, none⟩) hPW).trans d0, (hB1.cell (p := ⟨X, 12, none⟩) z3).trans d12⟩; clear hB1))
        all_goals
          go_wp2_with fail
          go_meet
          case rel => exact ⟨rfl, _, rfl, (by first | exact DfSt.fresh _ _ _ hh.out | exact DfSt.put hh.out.1 hh.out.2 (Nat.le_refl _) _ _ _)⟩
      case rest =>
        obtain ⟨rfl, B, rfl, HA⟩ := hcut
        have HKc := hidE (HK3.out.below (by have := HGX.out; omega) HA.out.bel)
        have HBc := hidE (HB3.out.trans (HA.out.bel.mono (by have := HGX.out; omega)))
        have HOc := hidE (show OwnC wc (G + 1) _ R from OwnN.below HO3.out HA.out.bel)
        clear hda0 hda1 d0 d12 HA HK3 HB3 HO3
        rcases HRN.out with hz | ⟨j, hj, hz⟩
        · subst hz
          go_wp2_with fail
          go_roundw
          case rel => exact ⟨k + 1, js, by omega, by go_num, HKc.out, HBc.out, HOc.out, HJN.out.1 rfl⟩
          case measure => simp [intOf]; omega
        · subst hz
          have hjN : j < N := by have := HN.out; omega
          have i1 : (0 : Int) ≤ (j : Int) := by omega
          have i2 : (j : Int) < (N : Int) := by omega
          have i3 : ¬ (j : Int) = -1 := by omega
          have m1 := HKc.out.mks.cell hjN
          have m2 := HKc.out.mks.free j
          have HM2 := hidE (show MkSt w (wc.setCell ⟨G, j, none⟩ (.bool true)) w.heap.size G N (js ++ [j]) from ⟨HKc.out.mks.store j, HKc.out.bel.setCell (p := ⟨G, j, none⟩) HKc.out.lo _, HKc.out.lo⟩)
          have HB2 := hidE (HBc.out.setCell (p := ⟨G, j, none⟩) (Nat.le_refl _) (.bool true))
          have HO2 := hidE (show OwnC (wc.setCell ⟨G, j, none⟩ (.bool true)) (G + 1) _ R from OwnN.other HOc.out (fun h => by have := (OwnN.block HOc.out G h).1; omega) _)
          clear HKc HBc HOc hj
          go_wp2_with fail
          go_roundw
          case rel => exact ⟨k + 1, js ++ [j], by omega, by go_num, HM2.out, HB2.out, HO2.out, HJN.out.2 j rfl⟩
          case measure => simp [intOf]; omega
    · have j1 : ¬ (k : Int) < (M : Int) := by omega
      have HDI := hidE (show DeadIs RS (deadL N js) from by
        rw [← HN.out]
        refine dead_is HR.out HCK.out HCA.out (fun n => ?_)
        rw [HJ.out n]
        constructor
        · rintro ⟨i, h, _, h2⟩; exact ⟨_, List.getElem_mem h, h2⟩
        · rintro ⟨c, hc, h2⟩
          obtain ⟨i, hi, rfl⟩ := List.getElem_of_mem hc
          exact ⟨i, hi, by have := HM.out; omega, h2⟩)
      clear HJ HO HB HO5 HK5 HL5 HB5 HCK HCA HM HL3 HB4
      go_upto_region 15 with fail
      go_loopw [11, 12, 13, 49] (fun v _ _ i wq => ∃ (t : Nat) (da : Option Addr) (m dc : Nat), t ≤ N ∧ i = .int .i64 (t : Int) ∧ v = .slice da m dc ∧ Hid (OwnI wq (G + 1) (.slice da m dc) (deadL t js)) ∧ Hid (MkSt w wq w.heap.size G N js)) (fun _ _ _ i _ => ((N : Int) - intOf i).toNat)
      case atStart => exact ⟨0, none, 0, 0, by omega, rfl, rfl, OwnI.nil _ _, HK.out⟩
      case round =>
        clear HK
        obtain ⟨t, da, m, dc, ht, rfl, rfl, HOw, HKw⟩ := hrel
        have hGq : G < wr.heap.size := (Array.getElem?_eq_some_iff.1 HKw.out.mks).1
        by_cases htN : t < N
        · have t1 : (t : Int) < (N : Int) := by omega
          have t2 : (0 : Int) ≤ (t : Int) := by omega
          have m1 := HKw.out.mks.cell htN
          by_cases hm : t ∈ js
          · rw [decide_eq_true hm] at m1
            have HO2 := hidE (show OwnI wr (G + 1) (.slice da m dc) (deadL (t + 1) js) by rw [deadL_no hm]; exact HOw.out)
            clear hm
            go_wp2_with fail
            go_roundw
            case rel => exact ⟨t + 1, _, _, _, by omega, by go_num, rfl, HO2.out, HKw.out⟩
            case measure => simp [intOf]; omega
          · rw [decide_eq_false hm] at m1
            have hdl := deadL_len t js
            go_wp2_with (at_builtin; refine wpList_append_int rfl (.tmp 56) (.tmp 58) rfl (G + 1) _ (deadL t js) rfl HOw.out (t : Int) rfl (by omega) (by omega) ?_; intro v6 w6 own6 gr6 off6; have hf6 := own6.form; obtain ⟨a6, k6, hv6⟩ := hf6; generalize (deadL t js ++ [(t : Int)]).length = n6 at hv6; subst hv6)
            have b6 : Below (G + 1) wr w6 := ((Below.refl (G + 1) wr).alloc (by omega) _).trans (grown_below gr6 (by simp; omega) (fun j hj => (HOw.out.lt j hj).1))
            have HK6 := hidE (HKw.out.below (Nat.lt_succ_self G) b6)
            rw [← deadL_yes hm] at own6
            have HO6 := hidE own6
            go_roundw
            case rel => exact ⟨t + 1, _, _, _, by omega, by go_num, rfl, HO6.out, HK6.out⟩
            case measure => simp [intOf]; omega
        · have t1 : ¬ (t : Int) < (N : Int) := by omega
          have e : t = N := by omega
          subst e
          have HF := hidE (HQ.out _ _ wr (by obtain ⟨p1, p2⟩ := HOw.out; refine ⟨p1, ?_⟩; rcases p2 with p2 | ⟨g, cap, cur, hv', hbg, rest⟩; exact .inl p2; exact .inr ⟨g, cap, cur, hv', by have := HKw.out.lo; omega, rest⟩) HDI.out HKw.out.bel)
          go_wp2_with fail
          exact HF.out
end Go.Proofs.Ytdellfmkmbabhaa
