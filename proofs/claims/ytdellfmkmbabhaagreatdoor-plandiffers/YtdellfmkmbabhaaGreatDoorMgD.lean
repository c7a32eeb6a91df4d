/- What slices.Grow of nil and slices.Concat of two slices of rules return. -/
import Derived.Test.YtdellfmkmbabhaaGreatDoorRlOwn
import Derived.Lib.AppendZerosOnto
import Derived.Test.YtdellfmkmbabhaaGreatDoorMgA
import Derived.Test.YtdellfmkmbabhaaGreatDoorMgC
import Derived.Test.YtdellfmkmbabhaaGreatDoorMgB
import Derived.Test.YtdellfmkmbabhaaGreatDoorPlanLay3
import Derived.Test.YtdellfmkmbabhaaGreatDoorTold
import Derived.Deep.RegionHeld3
import Derived.Deep.DeepCutAuto
import Derived.Deep.DeepMust
namespace Go.Proofs.YtdellfmkmbabhaaGreatDoor
open Go.RowKit
set_option linter.unusedVariables false

set_option maxHeartbeats 4000000 in
theorem growRl_any (n : Nat) (w : World) (hn : n ≤ 1000000) :
    Calls Tryz.prog 19 #[.slice none 0 0, .int .i64 n] w fun e w' => ∃ v, e = .returned v ∧ OwnRl w' w.heap.size v [] ∧ Below w.heap.size w w' := by
  have h1 : ¬ ((n : Int) < 0) := by omega
  rcases Nat.eq_zero_or_pos n with rfl | hp
  · go_enter Tryz.func19, Tryz.ntmps19
    go_wp2
    go_ret
    exact ⟨_, rfl, OwnRl.nil _ _, Below.refl _ _⟩
  · obtain ⟨i0, hi, hz0, hz1, hz2⟩ := info_parts Tryz.infoRl
    have hp' : (0 : Int) < (n : Int) := by omega
    have hold : (Builtin.firstCells i0.size 0 (.slice none 0 0)).run Tryz.prog w.drew = .ok ([] : List Value).toArray w.drew := by simp [Builtin.firstCells]
    have hr := fun ty => Lib.run_append_grow_zeros (P := Tryz.prog) w 22 3 ty 34 i0 (.agg #[Value.bool false, .bool false, .bool false, .int .i64 0, .int .i64 0, .int .i64 0, .int .i64 0, .int .i64 0, .int .i64 0, .slice none 0 0, .slice none 0 0]) .i64 .i64 Tryz.underlying22 Tryz.underlying3 hi hz0 none 0 0 [] hold n hp (by rw [hz1]; decide) (by omega) (by omega) (by rw [hz2]; omega) (growslice_fits (by omega) (by rw [hz2]; omega))
    have hG := grownCap_ge w (0 + n) 0 34
    have hG2 := grownCap_le_maxLen w (0 + n) 0 34 (by unfold maxLen; omega)
    simp only [Nat.zero_add] at hr hG hG2
    obtain ⟨G, hGe⟩ : ∃ G, grownCap w n 0 34 = G := ⟨_, rfl⟩
    rw [hGe] at hG hG2
    simp only [hGe] at hr
    obtain ⟨C, hC⟩ : ∃ C : Array Value, ([] : List Value).toArray ++ Builtin.zeroCells (Value.agg #[Value.bool false, .bool false, .bool false, .int .i64 0, .int .i64 0, .int .i64 0, .int .i64 0, .int .i64 0, .int .i64 0, .slice none 0 0, .slice none 0 0]).cells n ++ Builtin.zeroCells (Value.agg #[Value.bool false, .bool false, .bool false, .int .i64 0, .int .i64 0, .int .i64 0, .int .i64 0, .int .i64 0, .int .i64 0, .slice none 0 0, .slice none 0 0]).cells (G - n) = C := ⟨_, rfl⟩
    simp only [hC] at hr
    have hCs : C.size = G * 11 := by
      rw [← hC]; simp [size_zeroCells, Value.cells]; omega
    have HW : Hid (OwnRl (w.drew.alloc (.cells C 34)) w.heap.size (.slice (some ⟨w.heap.size, 0, none⟩) 0 G) []) := by
      refine ⟨rfl, .inr ⟨w.heap.size, G, C, rfl, Nat.le_refl _, ?_, by simp, hG2, hCs, by simp [rlCells]⟩⟩
      have := heap_alloc_new w.drew (.cells C 34)
      exact this
    have HB : Hid (Below w.heap.size w (w.drew.alloc (.cells C 34))) := (show Below w.heap.size w w.drew from ⟨rfl, rfl, rfl, Nat.le_refl _, fun _ _ => rfl⟩).alloc (Nat.le_refl _) _
    unfold maxLen at hG2
    clear hC hCs hold hGe hi hz0 hz1 hz2
    go_enter Tryz.func19, Tryz.ntmps19
    go_wp2_with (at_builtin; refine Lib.wpList_append_run _ rfl _ _ _ _ rfl _ _ rfl rfl _ _ (hr _) ?_)
    go_ret
    exact ⟨_, rfl, HW.out, HB.out⟩
set_option maxHeartbeats 4000000 in
theorem concatRl_any (va vb : Value) (a b : List Rx) (B : Nat) (w : World) (ha : Rls w va a) (hb : Rls w vb b) (hB : B < w.heap.size) (c0 : w.cell? ⟨B, 0, none⟩ = some va) (c1 : w.cell? ⟨B, 1, none⟩ = some vb) (hna : a.length ≤ 200) (hnb : b.length ≤ 200) :
    Calls Tryz.prog 9 #[.slice (some ⟨B, 0, none⟩) 2 2] w fun e w' => ∃ v, e = .returned v ∧ OwnRl w' w.heap.size v (a ++ b) ∧ Below w.heap.size w w' := by
  obtain ⟨aa, ca, rfl⟩ := ha.len
  obtain ⟨ab, cb, rfl⟩ := hb.len
  have HA : Hid (Rls w (.slice aa a.length ca) a) := ha
  have HB : Hid (Rls w (.slice ab b.length cb) b) := hb
  obtain ⟨n, hn⟩ : ∃ n, a.length = n := ⟨_, rfl⟩
  obtain ⟨m, hm⟩ : ∃ m, b.length = m := ⟨_, rfl⟩
  rw [hn] at c0 hna HA
  rw [hm] at c1 hnb HB
  have HN : Hid (a.length = n ∧ b.length = m) := ⟨hn, hm⟩
  have hg := fun w => growRl_any (n + m) w (by omega)
  have hnm : ((n + m : Nat) : Int) = (n : Int) + (m : Int) := by omega
  simp only [hnm] at hg
  have hneg : ¬ ((n : Int) + (m : Int) < 0) := by omega
  clear ha hb hn hm hnm
  go_enter Tryz.func9, Tryz.ntmps9
  go_wp2_with fail
  refine wp_loop_rounds 3 ?_
  rw [rounds_succ]
  go_wp2_with fail
  rw [rounds_succ]
  go_wp2_with fail
  rw [rounds_succ]
  go_wp2_with (go_at_call 19; refine (hg _).mono ?_; rintro e w1 ⟨v1, rfl, own1, b1⟩)
  have hA1 := HA.out.below b1
  have hB1 := HB.out.below b1
  have d0 : w1.cell? ⟨B, 0, none⟩ = some (.slice aa n ca) := (b1.cell (p := ⟨B, 0, none⟩) hB).trans c0
  have d1 : w1.cell? ⟨B, 1, none⟩ = some (.slice ab m cb) := (b1.cell (p := ⟨B, 1, none⟩) hB).trans c1
  have hz1 := b1.size
  clear c0 c1 hg
  refine wp_loop_rounds 3 ?_
  rw [rounds_succ]
  go_wp2_with (at_builtin; refine wpList_append_rls rfl (.tmp 31) (.tmp 32) rfl w.heap.size v1 [] rfl own1 (.slice aa n ca) a rfl hA1 (by have := HN.out; simp; omega) hz1 ?_; intro v2 w2 own2 grow2 lie2)
  have b2 := grown_below grow2 hz1 (fun k hk => (own1.block k hk).1)
  have e0 : w2.cell? ⟨B, 1, none⟩ = some (.slice ab m cb) := (b2.cell (p := ⟨B, 1, none⟩) hB).trans d1
  have hB2 := HB.out.below (b1.trans b2)
  have hz2 := (b1.trans b2).size
  rw [List.nil_append] at own2
  rw [rounds_succ]
  go_wp2_with (at_builtin; refine wpList_append_rls rfl (.tmp 31) (.tmp 32) rfl w.heap.size v2 a rfl own2 (.slice ab m cb) b rfl hB2 (by have := HN.out; omega) hz2 ?_; intro v3 w3 own3 grow3 lie3)
  have b3 := grown_below grow3 hz2 (fun k hk => (own2.block k hk).1)
  rw [rounds_succ]
  go_wp2_with fail
  go_ret
  exact ⟨_, rfl, own3, (b1.trans b2).trans b3⟩
end Go.Proofs.YtdellfmkmbabhaaGreatDoor

namespace Go.Proofs.YtdellfmkmbabhaaGreatDoor
open Go.RowKit Go.Maps
set_option linter.unusedVariables false
set_option maxRecDepth 10000

/-- The deeds of a, and those of b behind them. -/
theorem cut_deeds {w : World} {base : Nat} {dv : Value} {a b : List Rl} (h : OwnD w base dv (a ++ b)) (la : a.length ≤ 4) : ∃ va vb, (∀ X, (Instr.slice 50 dv none (some (.int .i64 (a.length : Int))) none).run Tryz.prog X = .ok va X) ∧ (∀ X, (Instr.slice 50 dv (some (.int .i64 (a.length : Int))) none none).run Tryz.prog X = .ok vb X) ∧ Dds w va a ∧ Dds w vb b := by
  have ht : Tryz.prog.underlying 50 = some (.slice (Tryz.prog.elem 50)) := by kernel_rfl
  have he : Tryz.prog.elem 50 = 47 := by kernel_rfl
  obtain ⟨i0, hi, hz0, hz1, hz2⟩ := info_parts Tryz.infoD
  have hsz : ∀ X, (sizeOf (Tryz.prog.elem 50)).run Tryz.prog X = .ok 3 X := fun X => by rw [he]; simp [sizeOf, typeInfo, hi, hz1]
  have hh := h
  obtain ⟨_, h2⟩ := h
  rcases h2 with ⟨rfl, h0⟩ | ⟨g, cap, cur, rfl, hbg, hg, hl, hm, _, _⟩
  · have e1 : a = [] := by
      rw [List.length_append] at h0; exact List.length_eq_zero_iff.1 (by omega)
    have e2 : b = [] := by
      rw [List.length_append] at h0; exact List.length_eq_zero_iff.1 (by omega)
    subst e1 e2
    refine ⟨.slice none 0 0, .slice none 0 0, fun X => ?_, fun X => ?_, .inl ⟨rfl, _, _, rfl⟩, .inl ⟨rfl, _, _, rfl⟩⟩
    · rw [run_slice_h _ _ _ _ _ ht _ _ (by simp) (by simp), hsz]; rfl
    · rw [run_slice_l _ _ _ _ _ ht _ _ (by simp) (by simp), hsz]; rfl
  · have hgl : g < w.heap.size := (Array.getElem?_eq_some_iff.1 hg).1
    have hlen : (a ++ b).length = a.length + b.length := List.length_append
    have t1 := OwnD.take hh hgl hm (n := a.length) (by omega) hl
    have t2 := OwnD.drop hh hgl hm (n := a.length) (by omega) hl
    rw [List.take_left' rfl] at t1
    rw [List.drop_left' rfl, hlen, Nat.add_sub_cancel_left] at t2
    have s1 : ∀ X, (Instr.slice 50 (.slice (some ⟨g, 0, none⟩) (a ++ b).length cap) none (some (.int .i64 (a.length : Int))) none).run Tryz.prog X = .ok (.slice (some ⟨g, 0, none⟩) a.length cap) X := fun X => by
      rw [run_slice_h _ _ _ _ _ ht _ _ (by omega) (by omega), hsz]
      simp [sliced, Addr.add]
    by_cases hc : cap = a.length
    · have hb : b = [] := List.length_eq_zero_iff.1 (by omega)
      refine ⟨_, .slice (some ⟨g, 0, none⟩) 0 0, s1, fun X => ?_, t1, .inl ⟨hb, _, _, rfl⟩⟩
      rw [run_slice_l _ _ _ _ _ ht _ _ (by omega) (by omega), hsz]
      simp [sliced, hc, hb]
    · refine ⟨_, _, s1, fun X => ?_, t1, t2⟩
      rw [run_slice_l _ _ _ _ _ ht _ _ (by omega) (by omega), hsz]
      by_cases h0 : a.length = 0
      · simp [sliced, h0, Addr.add]
      · simp [sliced, hc, Addr.add]
        omega
/-- What the closure does. -/
def DifI : Prop := ∀ (w0 W : World) (P PC AC ca : Nat) (aa : Option Addr) (a b : List Rl) (dv : Value) (cv : Nat → Value) (Cs : Nat → List St), LaySt w0 W P 6 (a ++ b) dv cv Cs → W.cell? ⟨PC, 0, none⟩ = some (.pointer (some ⟨P, 0, none⟩)) → W.cell? ⟨AC, 0, none⟩ = some (.slice aa a.length ca) → PC < W.heap.size → AC < W.heap.size → a.length ≤ 4 → b.length ≤ 4 → IsF W 11 #[.pointer (some ⟨PC, 0, none⟩), .pointer (some ⟨AC, 0, none⟩)] (difB a b)
/-- What Differ tells. -/
def DifR (A B : List Rl) (e : Ending) : Prop := ∃ k way z, e = .returned (.tuple #[keyV k, .int .i64 way, erV z]) ∧ (z = 0 → goodD A B ∧ keyB k way = true ∧ difJ A B k way = true) ∧ (z ≠ 0 → goodD A B → z = 5 ∧ ∀ k way, keyB k way = true → difJ A B k way = false)
theorem DifR.bad {A B : List Rl} {z : Int} (hz : z ≠ 0) (h : ¬ goodD A B) : DifR A B (.returned (.tuple #[.agg #[.int .i64 0, .int .i64 0, .int .i64 0, .int .i64 0, .int .i64 0], .int .i64 0, .iface 40 (.int .i64 z)])) :=
  ⟨⟨0, 0, 0, 0, 0⟩, 0, z, by rw [erV_ne hz]; rfl, fun h0 => absurd h0 hz, fun _ hg => absurd hg h⟩
theorem DifR.of {A B : List Rl} {e : Ending} (hg : goodD A B) (h : FstR (A ++ B) (difB A B) e) : DifR A B e := by
  rcases h with ⟨k, way, hk, hp, rfl⟩ | ⟨hn, rfl⟩
  · exact ⟨k, way, 0, rfl, fun _ => ⟨hg, hk, by rw [← dif_is hg hk]; exact hp⟩, fun h => absurd rfl h⟩
  · exact ⟨⟨0, 0, 0, 0, 0⟩, 0, 5, rfl, fun h => absurd h (by decide), fun _ _ => ⟨rfl, fun k way hk => by rw [← dif_is hg hk]; exact hn k way hk⟩⟩
/-- Where Differ stands. -/
structure DrSt (w W : World) (S : Nat) (va : Value) : Prop where
  ax : W.heap[S]? = some (.cells #[va] 22 (0, 0))
  ky : W.heap[S + 1]? = some (.cells #[.int .i64 0, .int .i64 0, .int .i64 0, .int .i64 0, .int .i64 0] 24 (0, 0))
  bel : Below S w W
  sz : S + 2 ≤ W.heap.size
theorem DrSt.below {w W W' : World} {S : Nat} {va : Value} (h : DrSt w W S va) (hb : Below W.heap.size W W') : DrSt w W' S va :=
  ⟨(hb.block _ (by have := h.sz; omega)).trans h.ax, (hb.block _ (by have := h.sz; omega)).trans h.ky, h.bel.trans (hb.mono (by have := h.sz; omega)), Nat.le_trans h.sz hb.size⟩
theorem DrSt.cell {w W : World} {S : Nat} {va : Value} (h : DrSt w W S va) : W.cell? ⟨S, 0, none⟩ = some va := by rw [cell_of_row _ _ _ _ _ _ h.ax]; rfl
theorem DrSt.new (w : World) (va : Value) : DrSt w ((w.alloc (.cells #[va] 22)).alloc (.cells #[.int .i64 0, .int .i64 0, .int .i64 0, .int .i64 0, .int .i64 0] 24)) w.heap.size va := by
  have n1 := heap_alloc_new w (.cells #[va] 22)
  have b1 : Below w.heap.size w (w.alloc (.cells #[va] 22)) := (Below.refl _ _).alloc (Nat.le_refl _) _
  have z1 : (w.alloc (.cells #[va] 22)).heap.size = w.heap.size + 1 := by simp
  generalize w.alloc (.cells #[va] 22) = W1 at n1 b1 z1 ⊢
  have n2 := heap_alloc_new W1 (.cells #[.int .i64 0, .int .i64 0, .int .i64 0, .int .i64 0, .int .i64 0] 24)
  have b2 : Below W1.heap.size W1 (W1.alloc (.cells #[.int .i64 0, .int .i64 0, .int .i64 0, .int .i64 0, .int .i64 0] 24)) := (Below.refl _ _).alloc (Nat.le_refl _) _
  rw [z1] at n2
  exact ⟨(b2.block _ (by omega)).trans n1, n2, b1.trans (b2.mono b1.size), by simp; omega⟩
/-- A key is stored as the result. -/
theorem DrSt.put {w W : World} {S : Nat} {va : Value} (h : DrSt w W S va) (x0 x1 x2 x3 x4 : Value) :
    ∃ W9, ((((W.setCell ⟨S + 1, 0, none⟩ x0).setCell ⟨S + 1, 1, none⟩ x1).setCell ⟨S + 1, 2, none⟩ x2).setCell ⟨S + 1, 3, none⟩ x3).setCell ⟨S + 1, 4, none⟩ x4 = W9 ∧ (W9.cell? ⟨S + 1, 0, none⟩ = some x0 ∧ W9.cell? ⟨S + 1, 1, none⟩ = some x1 ∧ W9.cell? ⟨S + 1, 2, none⟩ = some x2 ∧ W9.cell? ⟨S + 1, 3, none⟩ = some x3 ∧ W9.cell? ⟨S + 1, 4, none⟩ = some x4) ∧ Below S w W9 := by
  obtain ⟨W9, hW9, n9, b9⟩ := set5 h.ky x0 x1 x2 x3 x4
  exact ⟨W9, hW9, (row5 n9).1, h.bel.trans (b9.mono (by omega))⟩
set_option maxHeartbeats 16000000 in
theorem differ_any (hI : DifI) (va vb : Value) (a b : List Rx) (w : World) (ha : Rls w va a) (hb : Rls w vb b) :
    Calls Tryz.prog 4 #[va, vb] w fun e w' => DifR (a.map Prod.fst) (b.map Prod.fst) e ∧ Below w.heap.size w w' := by
  obtain ⟨aa, ca, hva⟩ := ha.len
  obtain ⟨ab, cb, hvb⟩ := hb.len
  obtain ⟨A, hA⟩ : ∃ A, a.map Prod.fst = A := ⟨_, rfl⟩
  obtain ⟨B, hB⟩ : ∃ B, b.map Prod.fst = B := ⟨_, rfl⟩
  have hla : a.length = A.length := by rw [← hA, List.length_map]
  have hlb : b.length = B.length := by rw [← hB, List.length_map]
  obtain ⟨Q, hQ⟩ : ∃ Q : Ending → World → Prop, Q = fun e w' => DifR (a.map Prod.fst) (b.map Prod.fst) e ∧ Below w.heap.size w w' := ⟨_, rfl⟩
  have HQ : Hid (∀ e w', DifR A B e → Below w.heap.size w w' → Q e w') := by rw [hQ, hA, hB]; exact fun _ _ h1 h2 => ⟨h1, h2⟩
  rw [← hQ]
  clear hQ
  have S1 := DrSt.new w va
  have HCA := hidE (fun W (hb : Below w.heap.size w W) => rusCheck_any va a W (ha.below hb))
  have HCB := hidE (fun W (hbb : Below w.heap.size w W) => rusCheck_any vb b W (hb.below hbb))
  have HCC := hidE (fun W (hbb : Below w.heap.size w W) B hB c0 c1 h1 h2 => concatRl_any va vb a b B W (ha.below hbb) (hb.below hbb) hB c0 c1 h1 h2)
  have HP := hidE (fun W (hbb : Below w.heap.size w W) => Pts.append (ha.below hbb).pts (hb.below hbb).pts)
  rw [hA] at HCA
  rw [hB] at HCB
  have HL := hidE (And.intro hla hlb)
  have HAB := hidE (show (a ++ b).map Prod.fst = A ++ B by rw [List.map_append, hA, hB])
  obtain ⟨n, hn⟩ : ∃ n, a.length = n := ⟨_, rfl⟩
  obtain ⟨m, hm⟩ : ∃ m, b.length = m := ⟨_, rfl⟩
  rw [hn] at hva
  rw [hm] at hvb
  have HN := hidE (And.intro hn hm)
  subst hva hvb
  obtain ⟨S, hS⟩ : ∃ S, w.heap.size = S := ⟨_, rfl⟩
  rw [hS] at S1 HQ HCA HCB HCC HP
  have HS := hidE hS
  obtain ⟨W1, hW1⟩ : ∃ W1, (w.alloc (.cells #[.slice aa n ca] 22)).alloc (.cells #[.int .i64 0, .int .i64 0, .int .i64 0, .int .i64 0, .int .i64 0] 24) = W1 := ⟨_, rfl⟩
  rw [hW1] at S1
  have HW1 := hidE hW1
  have HS1 := hidE S1
  have c1 := S1.cell
  have hck := HCA.out W1 S1.bel
  clear ha hb hA hB hla hlb hn hm hS hW1 S1
  go_enter Tryz.func4, Tryz.ntmps4
  go_upto_region 1 with fail
  rw [HW1.out, HS.out]
  clear HW1
  by_cases hra : rusE A = 0
  case neg =>
    rw [erV_ne hra] at hck
    have HF := hidE (DifR.bad (A := A) (B := B) hra (fun h => hra h.1))
    generalize rusE A = z at hck HF
    clear hra
    go_upto_region 2 with (go_at_call 7; go_must (refine hck.mono ?_; rintro e w2 ⟨rfl, b2⟩))
    have S2 := HS1.out.below b2
    obtain ⟨W9, hW9, q9, B9⟩ := S2.put (.int .i64 0) (.int .i64 0) (.int .i64 0) (.int .i64 0) (.int .i64 0)
    obtain ⟨⟨g0, g1, g2, g3, g4⟩, gz⟩ := row5 S2.ky
    have gz0 := gz 0
    have gz1 := gz 1
    have gz2 := gz 2
    have gz3 := gz 3
    have gz4 := gz 4
    have HW9 := hidE hW9
    have HQ9 := hidE q9
    have HF9 := hidE (HQ.out _ W9 HF.out B9)
    clear hck b2 S2 hW9 q9 B9 gz HS1 HF c1
    go_wp2_with fail
    rw [HW9.out]
    obtain ⟨q0, q1, q2, q3, q4⟩ := HQ9.out
    exact bodyPost_ret (v := .tuple #[.agg #[.int .i64 0, .int .i64 0, .int .i64 0, .int .i64 0, .int .i64 0], .int .i64 0, .iface 40 (.int .i64 z)]) (by simp [results, Tryz.results4, go_sem, q0, q1, q2, q3, q4]) rfl HF9.out
  rw [hra, show erV 0 = .nilIface from rfl] at hck
  have HRA := hidE hra
  clear hra
  go_upto_region 4 with (go_at_call 7; go_must (refine hck.mono ?_; rintro e w2 ⟨rfl, b2⟩))
  have HS2 := hidE (HS1.out.below b2)
  have hck2 := HCB.out w2 HS2.out.bel
  clear hck b2 HS1 c1
  by_cases hrb : rusE B = 0
  case neg =>
    rw [erV_ne hrb] at hck2
    have HF := hidE (DifR.bad (A := A) (B := B) hrb (fun h => hrb h.2.1))
    generalize rusE B = z at hck2 HF
    clear hrb
    go_upto_region 5 with (go_at_call 7; go_must (refine hck2.mono ?_; rintro e w3 ⟨rfl, b3⟩))
    have S3 := HS2.out.below b3
    obtain ⟨W9, hW9, q9, B9⟩ := S3.put (.int .i64 0) (.int .i64 0) (.int .i64 0) (.int .i64 0) (.int .i64 0)
    obtain ⟨⟨g0, g1, g2, g3, g4⟩, gz⟩ := row5 S3.ky
    have gz0 := gz 0
    have gz1 := gz 1
    have gz2 := gz 2
    have gz3 := gz 3
    have gz4 := gz 4
    have HW9 := hidE hW9
    have HQ9 := hidE q9
    have HF9 := hidE (HQ.out _ W9 HF.out B9)
    clear hck2 b3 S3 hW9 q9 B9 gz HS2 HF
    go_wp2_with fail
    rw [HW9.out]
    obtain ⟨q0, q1, q2, q3, q4⟩ := HQ9.out
    exact bodyPost_ret (v := .tuple #[.agg #[.int .i64 0, .int .i64 0, .int .i64 0, .int .i64 0, .int .i64 0], .int .i64 0, .iface 40 (.int .i64 z)]) (by simp [results, Tryz.results4, go_sem, q0, q1, q2, q3, q4]) rfl HF9.out
  rw [hrb, show erV 0 = .nilIface from rfl] at hck2
  have HRB := hidE hrb
  clear hrb
  go_upto_region 7 with (go_at_call 7; go_must (refine hck2.mono ?_; rintro e w3 ⟨rfl, b3⟩))
  have HS3 := hidE (HS2.out.below b3)
  have c3 := HS3.out.cell
  clear hck2 b3 HS2
  by_cases hl4 : n ≤ 4 ∧ m ≤ 4
  case neg =>
    have HF := hidE (DifR.bad (A := A) (B := B) (z := 4) (by decide) (fun h => hl4 (by have := HL.out; have := HN.out; have := h.2.2; omega)))
    obtain ⟨W9, hW9, q9, B9⟩ := HS3.out.put (.int .i64 0) (.int .i64 0) (.int .i64 0) (.int .i64 0) (.int .i64 0)
    obtain ⟨⟨g0, g1, g2, g3, g4⟩, gz⟩ := row5 HS3.out.ky
    have gz0 := gz 0
    have gz1 := gz 1
    have gz2 := gz 2
    have gz3 := gz 3
    have gz4 := gz 4
    have HW9 := hidE hW9
    have HQ9 := hidE q9
    have HF9 := hidE (HQ.out _ W9 HF.out B9)
    clear hW9 q9 B9 gz HS3 HF
    by_cases h1 : (4 : Int) < (n : Int)
    · clear hl4
      go_wp2_with fail
      rw [HW9.out]
      obtain ⟨q0, q1, q2, q3, q4⟩ := HQ9.out
      exact bodyPost_ret (v := .tuple #[.agg #[.int .i64 0, .int .i64 0, .int .i64 0, .int .i64 0, .int .i64 0], .int .i64 0, .iface 40 (.int .i64 4)]) (by simp [results, Tryz.results4, go_sem, q0, q1, q2, q3, q4]) rfl HF9.out
    · have h2 : (4 : Int) < (m : Int) := by omega
      clear hl4
      go_wp2_with fail
      rw [HW9.out]
      obtain ⟨q0, q1, q2, q3, q4⟩ := HQ9.out
      exact bodyPost_ret (v := .tuple #[.agg #[.int .i64 0, .int .i64 0, .int .i64 0, .int .i64 0, .int .i64 0], .int .i64 0, .iface 40 (.int .i64 4)]) (by simp [results, Tryz.results4, go_sem, q0, q1, q2, q3, q4]) rfl HF9.out
  have i1 : ¬ (4 : Int) < (n : Int) := by omega
  have i2 : ¬ (4 : Int) < (m : Int) := by omega
  have HLE := hidE (show A.length ≤ 4 ∧ B.length ≤ 4 by have := HL.out; have := HN.out; omega)
  have HG := hidE (show goodD A B from ⟨HRA.out, HRB.out, HLE.out.1, HLE.out.2⟩)
  clear hl4
  go_upto_region 9 with fail
  have b4 : Below w3.heap.size w3 (w3.alloc (.cells #[.slice aa n ca, .slice ab m cb] 22)) := (Below.refl _ _).alloc (Nat.le_refl _) _
  have n4 := heap_alloc_new w3 (.cells #[.slice aa n ca, .slice ab m cb] 22)
  have S4 := HS3.out.below b4
  have hcc := HCC.out _ S4.bel w3.heap.size (by simp) (by rw [cell_of_row _ _ _ _ _ _ n4]; rfl) (by rw [cell_of_row _ _ _ _ _ _ n4]; rfl) (by have := HN.out; have := HLE.out; have := HL.out; omega) (by have := HN.out; have := HLE.out; have := HL.out; omega)
  have HS4 := hidE S4
  have hcc2 := hcc.mono (R' := fun e w' => ∃ a5 c5, e = .returned (.slice a5 (n + m) c5) ∧ Hid (Rls w' (.slice a5 (n + m) c5) (a ++ b)) ∧ Hid (DrSt w w' S (.slice aa n ca))) (fun e w' h => by
    obtain ⟨v, rfl, own, b5⟩ := h
    obtain ⟨a5, c5, rfl⟩ := own.len
    have S5 := HS4.out.below b5
    have r := own.rls (HP.out w' S5.bel)
    rw [List.length_append, HN.out.1, HN.out.2] at r
    exact ⟨a5, c5, by rw [List.length_append, HN.out.1, HN.out.2], r, S5⟩)
  have HLY := hidE (fun W a5 c5 (h : Rls W (.slice a5 (n + m) c5) (a ++ b)) => lay_any _ (a ++ b) W h (by
    rw [HAB.out]
    intro r hr
    rcases List.mem_append.1 hr with h | h
    · exact (rusE_zero.1 HRA.out).2 r h
    · exact (rusE_zero.1 HRB.out).2 r h) (by rw [List.length_append]; have := HN.out; have := HLE.out; have := HL.out; omega))
  rw [HAB.out] at HLY
  have eg := enters_of Tryz.func11 (by kernel_rfl) rfl
  clear b4 n4 S4 hcc HS3 HCC HCA HCB HP i1 i2
  go_upto_region 10 with (first
    | (go_at_call 9; go_must (refine hcc2.mono ?_; rintro e w5 ⟨a5, c5, rfl, R5, S5⟩; have hly := HLY.out w5 a5 c5 R5.out))
    | (go_at_call 8; go_must (refine hly.mono ?_; rintro e w6 ⟨dv, cv, Cs, rfl, L6⟩)))
  have S6 := S5.out.below L6.bel
  have b7 : Below w6.heap.size w6 (w6.alloc (.cells #[.pointer (some ⟨w5.heap.size, 0, none⟩)] 41)) := (Below.refl _ _).alloc (Nat.le_refl _) _
  have n7 := heap_alloc_new w6 (.cells #[.pointer (some ⟨w5.heap.size, 0, none⟩)] 41)
  have z7 : w6.heap.size < (w6.alloc (.cells #[.pointer (some ⟨w5.heap.size, 0, none⟩)] 41)).heap.size := by simp
  have S7 := S6.below b7
  have L7 := L6.below b7
  obtain ⟨P, hP⟩ : ∃ P, w5.heap.size = P := ⟨_, rfl⟩
  rw [hP] at S7 L7 n7 z7 ⊢
  obtain ⟨X, hX⟩ : ∃ X, w6.heap.size = X := ⟨_, rfl⟩
  obtain ⟨W7, hW7⟩ : ∃ W7, w6.alloc (.cells #[.pointer (some ⟨P, 0, none⟩)] 41) = W7 := ⟨_, rfl⟩
  rw [hW7] at S7 L7 n7 z7 ⊢
  rw [hX] at n7 z7 ⊢
  have c7 : W7.cell? ⟨X, 0, none⟩ = some (.pointer (some ⟨P, 0, none⟩)) := by rw [cell_of_row _ _ _ _ _ _ n7]; rfl
  have hif := hI w5 W7 P X S ca aa A B dv cv Cs L7 c7 (by rw [show A.length = n by have := HL.out; have := HN.out; omega]; exact S7.cell) z7 (by have := S7.sz; omega) HLE.out.1 HLE.out.2
  have hfi := first_any w5 W7 P (A ++ B) dv cv Cs 11 _ (difB A B) L7 (by rw [List.length_append]; have := HLE.out; omega) hif eg
  have hfi2 := hfi.mono (R' := fun e w' => ∃ (k0 k1 k2 k3 k4 way : Int) (ev : Value), e = .returned (.tuple #[.agg #[.int .i64 k0, .int .i64 k1, .int .i64 k2, .int .i64 k3, .int .i64 k4], .int .i64 way, ev]) ∧ Hid (DifR A B (.returned (.tuple #[.agg #[.int .i64 k0, .int .i64 k1, .int .i64 k2, .int .i64 k3, .int .i64 k4], .int .i64 way, ev]))) ∧ Below W7.heap.size W7 w') (fun e w' h => by
    obtain ⟨h1, h2⟩ := h
    have h3 := DifR.of HG.out h1
    rcases h1 with ⟨k, way, hk, hp, rfl⟩ | ⟨hn, rfl⟩
    · exact ⟨k.kind, k.src, k.frm, k.dst, k.too, way, _, rfl, h3, h2⟩
    · exact ⟨0, 0, 0, 0, 0, 0, _, rfl, h3, h2⟩)
  have HS7 := hidE S7
  clear S6 b7 n7 z7 S7 L7 L6 hP hX hW7 hif hfi hly hcc2 HLY R5 S5 c3
  have HCF := hidE c7
  go_wp2_with (go_at_call 10; go_must (refine hfi2.mono ?_; rintro e w8 ⟨k0, k1, k2, k3, k4, way, ev, rfl, HD8, b8⟩; have S8 := HS7.out.below b8; have hput := S8.put (.int .i64 k0) (.int .i64 k1) (.int .i64 k2) (.int .i64 k3) (.int .i64 k4); obtain ⟨W9, hW9, q9, B9⟩ := hput; have hr5 := row5 S8.ky; obtain ⟨⟨g0, g1, g2, g3, g4⟩, gz⟩ := hr5; have gz0 := gz 0; have gz1 := gz 1; have gz2 := gz 2; have gz3 := gz 3; have gz4 := gz 4; have HW9 := hidE hW9; have HQ9 := hidE q9; have HF9 := hidE (HQ.out _ W9 HD8.out B9); clear S8 hW9 q9 B9 gz b8 HD8))
  rw [HW9.out]
  obtain ⟨q0, q1, q2, q3, q4⟩ := HQ9.out
  exact bodyPost_ret (v := .tuple #[.agg #[.int .i64 k0, .int .i64 k1, .int .i64 k2, .int .i64 k3, .int .i64 k4], .int .i64 way, ev]) (by simp [results, Tryz.results4, go_sem, q0, q1, q2, q3, q4]) rfl HF9.out
end Go.Proofs.YtdellfmkmbabhaaGreatDoor

namespace Go.Proofs.YtdellfmkmbabhaaGreatDoor
open Go.RowKit Go.Maps
set_option linter.unusedVariables false
set_option maxRecDepth 10000

theorem erV_valD (n : Int) : ErrVal (erV n) n := by
  unfold erV
  by_cases h : n = 0
  · subst h; exact .inl ⟨rfl, rfl⟩
  · rw [if_neg h]; exact .inr rfl
theorem dfs_at (w : World) : Rls ((w.alloc (.cells #[.int .i64 5, .int .i64 5] 29)).alloc (.cells #[.bool false, .bool false, .bool false, .int .i64 0, .int .i64 2, .int .i64 0, .int .i64 0, .int .i64 0, .int .i64 0, .slice none 0 0, .slice (some ⟨w.heap.size, 0, none⟩) 1 1] 34)) (.slice (some ⟨w.heap.size + 1, 0, none⟩) 1 1) [(dfR, .slice none 0 0, .slice (some ⟨w.heap.size, 0, none⟩) 1 1)] := by
  have n1 := heap_alloc_new w (.cells #[.int .i64 5, .int .i64 5] 29)
  have z1 : (w.alloc (.cells #[.int .i64 5, .int .i64 5] 29)).heap.size = w.heap.size + 1 := by simp
  generalize w.alloc (.cells #[.int .i64 5, .int .i64 5] 29) = W1 at n1 z1 ⊢
  have n2 := heap_alloc_new W1 (.cells #[.bool false, .bool false, .bool false, .int .i64 0, .int .i64 2, .int .i64 0, .int .i64 0, .int .i64 0, .int .i64 0, .slice none 0 0, .slice (some ⟨w.heap.size, 0, none⟩) 1 1] 34)
  have b2 : Below W1.heap.size W1 (W1.alloc (.cells #[.bool false, .bool false, .bool false, .int .i64 0, .int .i64 2, .int .i64 0, .int .i64 0, .int .i64 0, .int .i64 0, .slice none 0 0, .slice (some ⟨w.heap.size, 0, none⟩) 1 1] 34)) := (Below.refl _ _).alloc (Nat.le_refl _) _
  have n1' := (b2.block w.heap.size (by omega)).trans n1
  rw [z1] at n2
  have hsz : w.heap.size < (W1.alloc (.cells #[.bool false, .bool false, .bool false, .int .i64 0, .int .i64 2, .int .i64 0, .int .i64 0, .int .i64 0, .int .i64 0, .slice none 0 0, .slice (some ⟨w.heap.size, 0, none⟩) 1 1] 34)).heap.size := by simp; omega
  refine Rls.box (x := (dfR, .slice none 0 0, .slice (some ⟨w.heap.size, 0, none⟩) 1 1)) n2 ⟨Spns.nil _ _ _, .inr ⟨w.heap.size, 0, 1, 1, rfl, Nat.le_refl _, by unfold maxLen; omega, rfl, hsz, fun i hi => ?_⟩, by show 0 ≤ _; omega, by show 1 ≤ _; omega⟩
  match i, hi with
  | 0, _ => exact ⟨by rw [cell_of_row _ _ _ _ _ _ n1']; rfl, by rw [cell_of_row _ _ _ _ _ _ n1']; rfl⟩
/-- The law's first call. -/
theorem dfs_call (hI : DifI) (w : World) : Calls Tryz.prog 4 #[.slice none 0 0, .slice (some ⟨w.heap.size + 1, 0, none⟩) 1 1] ((w.alloc (.cells #[.int .i64 5, .int .i64 5] 29)).alloc (.cells #[.bool false, .bool false, .bool false, .int .i64 0, .int .i64 2, .int .i64 0, .int .i64 0, .int .i64 0, .int .i64 0, .slice none 0 0, .slice (some ⟨w.heap.size, 0, none⟩) 1 1] 34)) fun e w' => ∃ x1 x2 x3 way : Int, e = .returned (.tuple #[.agg #[.int .i64 2, .int .i64 x1, .int .i64 x2, .int .i64 x3, .int .i64 5], .int .i64 way, .nilIface]) ∧ 1 ≤ way ∧ Below w.heap.size w w' := by
  refine (differ_any hI (.slice none 0 0) _ [] _ _ (.inl ⟨rfl, _, _, rfl⟩) (dfs_at w)).mono ?_
  rintro e w' ⟨⟨k, way, z, rfl, h1, h2⟩, hb⟩
  have hz : z = 0 := by
    rcases Decidable.em (z = 0) with h | h
    · exact h
    · have h3 : difJ [] [dfR] ⟨2, 0, 0, 0, 5⟩ 1 = false := (h2 h dfR_good).2 _ _ dfR_some.1
      rw [dfR_some.2] at h3
      cases h3
  subst hz
  obtain ⟨_, hk, hd⟩ := h1 rfl
  obtain ⟨e1, e2, e3⟩ := dfR_key hk hd
  have bb : Below w.heap.size w ((w.alloc (.cells #[.int .i64 5, .int .i64 5] 29)).alloc (.cells #[.bool false, .bool false, .bool false, .int .i64 0, .int .i64 2, .int .i64 0, .int .i64 0, .int .i64 0, .int .i64 0, .slice none 0 0, .slice (some ⟨w.heap.size, 0, none⟩) 1 1] 34)) := ((Below.refl _ _).alloc (Nat.le_refl _) _).alloc (by simp) _
  refine ⟨k.src, k.frm, k.dst, way, ?_, e3, bb.trans (hb.mono bb.size)⟩
  unfold keyV
  rw [e1, e2]
  rfl
/-- What Differ gives, as letters. -/
theorem differ_out (hI : DifI) (va vb : Value) (a b : List Rx) (w : World) (ha : Rls w va a) (hb : Rls w vb b) (A B : List Rl) (hA : a.map Prod.fst = A) (hB : b.map Prod.fst = B) :
    Calls Tryz.prog 4 #[va, vb] w fun e w' => ∃ (x : Ky) (way z : Int), e = .returned (.tuple #[.agg #[.int .i64 x.kind, .int .i64 x.src, .int .i64 x.frm, .int .i64 x.dst, .int .i64 x.too], .int .i64 way, erV z]) ∧ Hid ((z = 0 → goodD A B ∧ keyB x way = true ∧ difJ A B x way = true) ∧ (z ≠ 0 → goodD A B → z = 5 ∧ ∀ k way, keyB k way = true → difJ A B k way = false)) ∧ Below w.heap.size w w' := by
  refine (differ_any hI va vb a b w ha hb).mono ?_
  rw [hA, hB]
  rintro e w' ⟨⟨k, way, z, rfl, h1, h2⟩, hb⟩
  exact ⟨k, way, z, rfl, ⟨h1, h2⟩, hb⟩
/-- Where the law stands. -/
structure DwSt (w W : World) (S X : Nat) (k x : Ky) : Prop where
  ky : KyAt W S k
  kx : KyAt W X x
  bel : Below S w W
  lo : S < X
theorem DwSt.below {w W W' : World} {S X : Nat} {k x : Ky} (h : DwSt w W S X k x) (hb : Below W.heap.size W W') : DwSt w W' S X k x :=
  ⟨h.ky.below h.ky.lt hb, h.kx.below h.kx.lt hb, h.bel.trans (hb.mono (Nat.le_of_lt h.ky.lt)), h.lo⟩
theorem DwSt.put {w W : World} {S X : Nat} {k x : Ky} (h : DwSt w W S X k x) (y : Ky) : ∃ W', ((((W.setCell ⟨X, 0, none⟩ (.int .i64 y.kind)).setCell ⟨X, 1, none⟩ (.int .i64 y.src)).setCell ⟨X, 2, none⟩ (.int .i64 y.frm)).setCell ⟨X, 3, none⟩ (.int .i64 y.dst)).setCell ⟨X, 4, none⟩ (.int .i64 y.too) = W' ∧ DwSt w W' S X k y := by
  obtain ⟨W', hW', n', b'⟩ := set5 h.kx (.int .i64 y.kind) (.int .i64 y.src) (.int .i64 y.frm) (.int .i64 y.dst) (.int .i64 y.too)
  exact ⟨W', hW', h.ky.below h.lo b', n', h.bel.trans (b'.mono (Nat.le_of_lt h.lo)), h.lo⟩
set_option maxHeartbeats 16000000 in
theorem differs_walk0 (hI : DifI) (va : Value) (al : List Rx) (vb : Value) (bl : List Rx) (k : Ky) (way : Int) (w : World) (ha : Rls w va al) (hb : Rls w vb bl) (hL : ErrLaid w) :
    Calls Tryz.prog 3 #[va, vb, keyV k, .int .i64 way] w fun e w' => e = .returned (.bool true) ∧ Below w.heap.size w w' := by
  obtain ⟨aa, ca, hva⟩ := ha.len
  obtain ⟨ab, cb, hvb⟩ := hb.len
  obtain ⟨A, hA⟩ : ∃ A, al.map Prod.fst = A := ⟨_, rfl⟩
  obtain ⟨B, hB⟩ : ∃ B, bl.map Prod.fst = B := ⟨_, rfl⟩
  have hla : al.length = A.length := by rw [← hA, List.length_map]
  have hlb : bl.length = B.length := by rw [← hB, List.length_map]
  rw [hla] at hva
  rw [hlb] at hvb
  obtain ⟨n, hn⟩ : ∃ n, A.length = n := ⟨_, rfl⟩
  obtain ⟨m, hm⟩ : ∃ m, B.length = m := ⟨_, rfl⟩
  rw [hn] at hva
  rw [hm] at hvb
  have HN := hidE (And.intro hn hm)
  subst hva hvb
  obtain ⟨Q, hQ⟩ : ∃ Q : Ending → World → Prop, Q = fun e w' => e = .returned (.bool true) ∧ Below w.heap.size w w' := ⟨_, rfl⟩
  have HQ : Hid (∀ w', Below w.heap.size w w' → Q (.returned (.bool true)) w') := by rw [hQ]; exact fun _ h => ⟨rfl, h⟩
  rw [← hQ]
  clear hQ
  have HER := hidE (fun W (hb : Below w.heap.size w W) => hL.below hb)
  have HD := hidE (fun W (hbb : Below w.heap.size w W) => differ_out hI _ _ al bl W (ha.below hbb) (hb.below hbb) A B hA hB)
  have HDD := hidE (fun W (hbb : Below w.heap.size w W) => differ_out hI _ _ al al W (ha.below hbb) (ha.below hbb) A A hA hA)
  have HCA := hidE (fun W (hbb : Below w.heap.size w W) => rusCheck_any _ al W (ha.below hbb))
  have HCB := hidE (fun W (hbb : Below w.heap.size w W) => rusCheck_any _ bl W (hb.below hbb))
  have HJA := hidE (fun W k way (hbb : Below w.heap.size w W) => judge_any _ al k way W (ha.below hbb))
  have HJB := hidE (fun W k way (hbb : Below w.heap.size w W) => judge_any _ bl k way W (hb.below hbb))
  rw [hA] at HCA HJA
  rw [hB] at HCB HJB
  have k1 := KyAt.new w k
  have b1 : Below w.heap.size w (w.alloc (.cells #[.int .i64 k.kind, .int .i64 k.src, .int .i64 k.frm, .int .i64 k.dst, .int .i64 k.too] 24)) := (Below.refl _ _).alloc (Nat.le_refl _) _
  obtain ⟨W1, hW1⟩ : ∃ W1, w.alloc (.cells #[.int .i64 k.kind, .int .i64 k.src, .int .i64 k.frm, .int .i64 k.dst, .int .i64 k.too] 24) = W1 := ⟨_, rfl⟩
  rw [hW1] at k1 b1
  have hd0 := dfs_call hI W1
  obtain ⟨S, hS⟩ : ∃ S, w.heap.size = S := ⟨_, rfl⟩
  rw [hS] at k1 b1 HQ HER HD HDD HCA HCB HJA HJB
  have HW1 := hidE hW1
  have HS := hidE hS
  have HK1 := hidE k1
  have HB1 := hidE b1
  unfold keyV
  clear ha hb hL hA hB hla hlb hn hm k1 b1 hW1 hS
  go_enter Tryz.func3, Tryz.ntmps3
  go_upto_region 1 with fail
  rw [HW1.out, HS.out]
  go_upto_region 2 with (go_at_call 4; go_must (refine hd0.mono ?_; rintro e w4 ⟨x1, x2, x3, way0, rfl, hw0, b4⟩))
  have b5 : Below w4.heap.size w4 (w4.alloc (.cells #[.int .i64 2, .int .i64 x1, .int .i64 x2, .int .i64 x3, .int .i64 5] 24)) := (Below.refl _ _).alloc (Nat.le_refl _) _
  have n5 : KyAt (w4.alloc (.cells #[.int .i64 2, .int .i64 x1, .int .i64 x2, .int .i64 x3, .int .i64 5] 24)) w4.heap.size ⟨2, x1, x2, x3, 5⟩ := heap_alloc_new w4 _
  have k4 := HK1.out.below HK1.out.lt b4
  have hSz := HS.out
  have B4 := HB1.out.trans (b4.mono (by have := HB1.out.size; omega))
  have D5 : DwSt w _ S w4.heap.size k ⟨2, x1, x2, x3, 5⟩ := ⟨k4.below k4.lt b5, n5, B4.trans (b5.mono (by have := B4.size; omega)), k4.lt⟩
  obtain ⟨X, hX⟩ : ∃ X, w4.heap.size = X := ⟨_, rfl⟩
  obtain ⟨W5, hW5⟩ : ∃ W5, w4.alloc (.cells #[.int .i64 2, .int .i64 x1, .int .i64 x2, .int .i64 x3, .int .i64 5] 24) = W5 := ⟨_, rfl⟩
  rw [hW5] at D5 ⊢
  rw [hX] at D5 ⊢
  have HD5 := hidE D5
  obtain ⟨c0, c1, c2, c3, c4⟩ := D5.kx.cells
  have j0 : ¬ way0 < 1 := by omega
  simp only at c0 c1 c2 c3 c4
  clear hSz hd0 b4 b5 n5 k4 B4 D5 hX hW5 HK1 HB1 HW1 hw0
  go_upto_region 4 with fail
  have hd1 := HD.out W5 HD5.out.bel
  clear HD c0 c1 c2 c3 c4
  go_upto_region 5 with (go_at_call 4; go_must (refine hd1.mono ?_; rintro e w6 ⟨x, way2, z2, rfl, HF2, b6⟩; have D6 := HD5.out.below b6; have hput := D6.put x; obtain ⟨W7, hW7, D7⟩ := hput; have hc6 := D6.kx.cells; obtain ⟨g0, g1, g2, g3, g4⟩ := hc6; have f0 := D6.kx.free 0; have f1 := D6.kx.free 1; have f2 := D6.kx.free 2; have f3 := D6.kx.free 3; have f4 := D6.kx.free 4; have HW7 := hidE hW7; have HD7 := hidE D7; clear D6 D7 hW7 b6))
  rw [HW7.out]
  clear g0 g1 g2 g3 g4 f0 f1 f2 f3 f4 hd1 HW7 HD5
  have hd2 := HDD.out W7 HD7.out.bel
  clear HDD
  go_upto_region 6 with (go_at_call 4; go_must (refine hd2.mono ?_; rintro e w8 ⟨y, way3, z3, rfl, HF3, b8⟩))
  have D8 := HD7.out.below b8
  have b9 : Below w8.heap.size w8 (w8.alloc (.cells #[.int .i64 y.kind, .int .i64 y.src, .int .i64 y.frm, .int .i64 y.dst, .int .i64 y.too] 24)) := (Below.refl _ _).alloc (Nat.le_refl _) _
  have D9 := D8.below b9
  obtain ⟨W9, hW9⟩ : ∃ W9, w8.alloc (.cells #[.int .i64 y.kind, .int .i64 y.src, .int .i64 y.frm, .int .i64 y.dst, .int .i64 y.too] 24) = W9 := ⟨_, rfl⟩
  rw [hW9] at D9 ⊢
  have her := error_val (erV_valD z3) 5 W9 (HER.out W9 D9.bel)
  have HD9 := hidE D9
  generalize w8.heap.size = Y
  clear hd2 b8 D8 b9 D9 hW9 HD7
  obtain ⟨t, ht⟩ : ∃ t, (z3 == 5) = t := ⟨_, rfl⟩
  rw [ht] at her
  have HT := hidE ht
  generalize erV z3 = ev3 at her ⊢
  clear ht
  go_upto_region 7 with (go_at_call 5; go_must (refine her.mono ?_; rintro e w10 ⟨rfl, b10⟩))
  have HD10 := hidE (HD9.out.below b10)
  clear her b10 HD9
  have HTG := hidE (show goodD A B → t = true from fun hg => by
    have h3 := HF3.out
    rw [← HT.out]
    rcases Decidable.em (z3 = 0) with h | h
    · have := (h3.1 h).2.2
      rw [difJ_self] at this; cases this
    · rw [(h3.2 h ⟨hg.1, hg.1, hg.2.2.1, hg.2.2.1⟩).1]; rfl)
  clear HT HF3
  by_cases hz2 : z2 = 0
  · subst hz2
    rw [show erV 0 = .nilIface from rfl]
    obtain ⟨hg, hkx, hdj⟩ := HF2.out.1 rfl
    have ht := HTG.out hg
    subst ht
    have hja := HJA.out w10 x way2 HD10.out.bel
    have HJB2 := hidE (fun W hb => HJB.out W x way2 hb)
    rw [judE_ok hg.1 hkx, show erV 0 = .nilIface from rfl] at hja
    rw [judE_ok hg.2.1 hkx, show erV 0 = .nilIface from rfl] at HJB2
    unfold difJ at hdj
    generalize judP A x way2 = pa at hja hdj
    generalize judK A x way2 = ka at hja hdj
    generalize judP B x way2 = pb at HJB2 hdj
    generalize judK B x way2 = kb at HJB2 hdj
    generalize judN A x way2 = na at hja
    have HDJ := hidE hdj
    obtain ⟨c0, c1, c2, c3, c4⟩ := HD10.out.kx.cells
    unfold keyV at hja HJB2
    clear hg hkx hdj HTG HF2 HJA HJB
    go_upto_region 9 with (go_at_call 6; go_must (refine hja.mono ?_; rintro e w11 ⟨rfl, b11⟩))
    have HD11 := hidE (HD10.out.below b11)
    clear hja b11 HD10 c0 c1 c2 c3 c4
    have hjb := HJB2.out w11 HD11.out.bel
    obtain ⟨c0, c1, c2, c3, c4⟩ := HD11.out.kx.cells
    generalize judN B x way2 = nb at hjb
    clear HJB2
    go_upto_region 10 with (go_at_call 6; go_must (refine hjb.mono ?_; rintro e w12 ⟨rfl, b12⟩))
    have HF := hidE (HQ.out _ (HD11.out.below b12).bel)
    have hdj := HDJ.out
    clear hjb b12 HD11 c0 c1 c2 c3 c4 HDJ HQ
    cases pa <;> cases pb <;> cases ka <;> cases kb <;> first
      | (exact absurd hdj (by decide))
      | (clear hdj; go_wp2_with fail; exact HF.out)
  · rw [erV_ne hz2]
    have HZ := hidE (fun hg => (HF2.out.2 hz2 hg).2)
    clear hz2 HF2
    have hca := HCA.out w10 HD10.out.bel
    by_cases hra : rusE A = 0
    case neg =>
      rw [erV_ne hra] at hca
      generalize rusE A = za at hca
      clear hra HZ HTG
      go_upto_region 12 with (go_at_call 7; go_must (refine hca.mono ?_; rintro e w11 ⟨rfl, b11⟩))
      have HD11 := hidE (HD10.out.below b11)
      have hcb := HCB.out w11 HD11.out.bel
      generalize erV (rusE B) = vb2 at hcb
      clear hca b11 HD10
      go_upto_region 13 with (go_at_call 7; go_must (refine hcb.mono ?_; rintro e w12 ⟨rfl, b12⟩))
      have HF := hidE (HQ.out _ (HD11.out.below b12).bel)
      clear hcb b12 HD11 HQ
      go_wp2_with fail
      exact HF.out
    rw [hra, show erV 0 = .nilIface from rfl] at hca
    have HRA := hidE hra
    clear hra
    go_upto_region 12 with (go_at_call 7; go_must (refine hca.mono ?_; rintro e w11 ⟨rfl, b11⟩))
    have HD11 := hidE (HD10.out.below b11)
    have hcb := HCB.out w11 HD11.out.bel
    clear hca b11 HD10
    by_cases hrb : rusE B = 0
    case neg =>
      rw [erV_ne hrb] at hcb
      generalize rusE B = zb at hcb
      clear hrb HZ HTG
      go_upto_region 13 with (go_at_call 7; go_must (refine hcb.mono ?_; rintro e w12 ⟨rfl, b12⟩))
      have HF := hidE (HQ.out _ (HD11.out.below b12).bel)
      clear hcb b12 HD11 HQ
      go_wp2_with fail
      exact HF.out
    rw [hrb, show erV 0 = .nilIface from rfl] at hcb
    have HRB := hidE hrb
    clear hrb
    go_upto_region 13 with (go_at_call 7; go_must (refine hcb.mono ?_; rintro e w12 ⟨rfl, b12⟩))
    have HD12 := hidE (HD11.out.below b12)
    clear hcb b12 HD11
    by_cases hl4 : n ≤ 4 ∧ m ≤ 4
    case neg =>
      have HF := hidE (HQ.out _ HD12.out.bel)
      clear HD12 HQ HZ HTG
      by_cases h1 : (4 : Int) < (n : Int)
      · clear hl4
        go_wp2_with fail
        exact HF.out
      · have h2 : (4 : Int) < (m : Int) := by omega
        clear hl4
        go_wp2_with fail
        exact HF.out
    have hg : goodD A B := ⟨HRA.out, HRB.out, by have := HN.out; omega, by have := HN.out; omega⟩
    have i1 : ¬ (4 : Int) < (n : Int) := by omega
    have i2 : ¬ (4 : Int) < (m : Int) := by omega
    have ht := HTG.out hg
    subst ht
    have hzz := HZ.out hg
    have HEQ := hidE (show judE A k way = judE B k way ∧ judP A k way = judP B k way ∧ judK A k way = judK B k way by
      rcases hkb : keyB k way with _ | _
      · obtain ⟨a1, a2, a3⟩ := jud_not HRA.out hkb
        obtain ⟨d1, d2, d3⟩ := jud_not HRB.out hkb
        exact ⟨a1.trans d1.symm, a2.trans d2.symm, a3.trans d3.symm⟩
      · have hz := hzz k way hkb
        refine ⟨(judE_ok HRA.out hkb).trans (judE_ok HRB.out hkb).symm, ?_, ?_⟩
        · unfold difJ at hz
          simp at hz
          exact hz.1
        · unfold difJ at hz
          simp at hz
          exact hz.2)
    clear hl4 hzz HZ HTG hg HRA HRB
    go_upto_region 15 with fail
    have hja := HJA.out w12 k way HD12.out.bel
    have HJB2 := hidE (fun W hb => HJB.out W k way hb)
    rw [HEQ.out.1, HEQ.out.2.1, HEQ.out.2.2] at hja
    generalize judP B k way = pb at hja HJB2
    generalize judK B k way = kb at hja HJB2
    generalize judN A k way = na at hja
    obtain ⟨c0, c1, c2, c3, c4⟩ := HD12.out.ky.cells
    unfold keyV at hja HJB2
    obtain ⟨jz, hjz⟩ : ∃ jz, judE B k way = jz := ⟨_, rfl⟩
    rw [hjz] at hja HJB2
    clear HJA HJB HEQ hjz
    by_cases hj0 : jz = 0
    · subst hj0
      rw [show erV 0 = .nilIface from rfl] at hja HJB2
      go_upto_region 16 with (go_at_call 6; go_must (refine hja.mono ?_; rintro e w13 ⟨rfl, b13⟩))
      have HD13 := hidE (HD12.out.below b13)
      clear hja b13 HD12 c0 c1 c2 c3 c4
      have hjb := HJB2.out w13 HD13.out.bel
      obtain ⟨c0, c1, c2, c3, c4⟩ := HD13.out.ky.cells
      generalize judN B k way = nb at hjb
      clear HJB2
      go_upto_region 17 with (go_at_call 6; go_must (refine hjb.mono ?_; rintro e w14 ⟨rfl, b14⟩))
      have HB14 := hidE (HD13.out.below b14).bel
      clear hjb b14 HD13 c0 c1 c2 c3 c4
      cases pb <;> cases kb <;> (go_quiet (fail); go_wp2; exact HQ.out _ (below_drewN HB14.out _))
    · rw [erV_ne hj0] at hja HJB2
      clear hj0
      go_upto_region 16 with (go_at_call 6; go_must (refine hja.mono ?_; rintro e w13 ⟨rfl, b13⟩))
      have HD13 := hidE (HD12.out.below b13)
      clear hja b13 HD12 c0 c1 c2 c3 c4
      have hjb := HJB2.out w13 HD13.out.bel
      obtain ⟨c0, c1, c2, c3, c4⟩ := HD13.out.ky.cells
      generalize judN B k way = nb at hjb
      clear HJB2
      go_upto_region 17 with (go_at_call 6; go_must (refine hjb.mono ?_; rintro e w14 ⟨rfl, b14⟩))
      have HB14 := hidE (HD13.out.below b14).bel
      clear hjb b14 HD13 c0 c1 c2 c3 c4
      cases pb <;> cases kb <;> (go_quiet (fail); go_wp2; exact HQ.out _ (below_drewN HB14.out _))
end Go.Proofs.YtdellfmkmbabhaaGreatDoor

namespace Go.Proofs.YtdellfmkmbabhaaGreatDoor
open Go.RowKit Go.Maps
set_option linter.unusedVariables false

theorem dif_isF : DifI := by
  intro w0 W0 P PC AC ca aa a b dv cv Cs hL c1 c2 hPC hAC la lb F W hF hb
  have hL2 := hL.below hb
  have d1 := (hb.cell (p := ⟨PC, 0, none⟩) hPC).trans c1
  have d2 := (hb.cell (p := ⟨AC, 0, none⟩) hAC).trans c2
  have d3 : W.cell? ⟨P, 0, none⟩ = some dv := by rw [cell_of_row _ _ _ _ _ _ hL2.box]; rfl
  obtain ⟨va, vb, s1, s2, da, db⟩ := cut_deeds hL2.own la
  have hF2 : F / 2 ^ a.length < 2 ^ 64 := Nat.lt_of_le_of_lt (Nat.div_le_self _ _) hF
  have e : ((F / 2 ^ a.length : Nat) : Int) = (F : Int) / 2 ^ a.length := by simp
  have hda := fun X (hX : Below W.heap.size W X) => decide_at va a F X (da.below hX) (by omega) hF
  have hdb := fun X (hX : Below W.heap.size W X) => decide_at vb b (F / 2 ^ a.length) X (db.below hX) (by omega) hF2
  rw [e, show (2 : Int) ^ a.length = 2 ^ min a.length 64 by rw [Nat.min_eq_left (by omega)]] at hdb
  exact dif_at P PC AC F a.length ca dv va vb aa _ _ _ _ _ _ _ _ W d1 d2 d3 (by have := hL2.sz; omega) (Nat.lt_of_lt_of_le hPC hb.size) (Nat.lt_of_lt_of_le hAC hb.size) (by omega) s1 s2 hda hdb
theorem differs_walk (va : Value) (al : List Rx) (vb : Value) (bl : List Rx) (k : Ky) (way : Int) (w : World) (ha : Rls w va al) (hb : Rls w vb bl) {q : Prop} (hq : q) (hL : ErrLaid w) :
    Calls Tryz.prog 3 #[va, vb, keyV k, .int .i64 way] w fun e w' => e = .returned (.bool true) ∧ Below w.heap.size w w' := differs_walk0 dif_isF va al vb bl k way w ha hb hL
end Go.Proofs.YtdellfmkmbabhaaGreatDoor
