/- What 'decide' returns of any slice of deeds (package plan). -/
import Derived.Test.YtdellfmkmbabhaaGreatDoorPlanDec
import Derived.Test.YtdellfmkmbabhaaGreatDoorMgA
import Derived.Test.YtdellfmkmbabhaaGreatDoorMgB
import Derived.Deep.RegionHeld3
import Derived.Deep.DeepCutAuto
namespace Go.Proofs.YtdellfmkmbabhaaGreatDoor
open Go.RowKit
set_option linter.unusedVariables false
set_option maxRecDepth 10000

/-- Deeds in a slice. -/
def Dds (w : World) (v : Value) (RS : List Rl) : Prop := (RS = [] ∧ ∃ a c, v = .slice a 0 c) ∨ ∃ g off cap, v = .slice (some ⟨g, off, none⟩) RS.length cap ∧ g < w.heap.size ∧ RS.length ≤ cap ∧ cap ≤ maxLen ∧ ∀ i (h : i < RS.length), w.cell? ⟨g, off + i * 3, none⟩ = some (.bool RS[i].pass) ∧ w.cell? ⟨g, off + i * 3 + 1, none⟩ = some (.bool RS[i].quick) ∧ w.cell? ⟨g, off + i * 3 + 2, none⟩ = some (.bool RS[i].keep)
theorem Dds.len {w : World} {v : Value} {RS : List Rl} (h : Dds w v RS) : ∃ a c, v = .slice a RS.length c := by
  rcases h with ⟨rfl, a, c, rfl⟩ | ⟨g, off, cap, rfl, _⟩
  · exact ⟨a, c, rfl⟩
  · exact ⟨_, _, rfl⟩
theorem Dds.below {w w' : World} {v : Value} {RS : List Rl} (h : Dds w v RS) (hb : Below w.heap.size w w') : Dds w' v RS := by
  rcases h with h | ⟨g, off, cap, rfl, h1, h2, h3, h4⟩
  · exact .inl h
  · exact .inr ⟨g, off, cap, rfl, Nat.lt_of_lt_of_le h1 hb.size, h2, h3, fun i hi => ⟨(hb.cell (p := ⟨g, _, none⟩) h1).trans (h4 i hi).1, (hb.cell (p := ⟨g, _, none⟩) h1).trans (h4 i hi).2.1, (hb.cell (p := ⟨g, _, none⟩) h1).trans (h4 i hi).2.2⟩⟩
theorem Dds.shape {w : World} {v : Value} {RS : List Rl} (h : Dds w v RS) (hz : 0 < RS.length) : ∃ g off cap, v = .slice (some ⟨g, off, none⟩) RS.length cap ∧ g < w.heap.size ∧ RS.length ≤ cap ∧ cap ≤ maxLen ∧ ∀ i (h : i < RS.length), w.cell? ⟨g, off + i * 3, none⟩ = some (.bool RS[i].pass) ∧ w.cell? ⟨g, off + i * 3 + 1, none⟩ = some (.bool RS[i].quick) ∧ w.cell? ⟨g, off + i * 3 + 2, none⟩ = some (.bool RS[i].keep) := by
  rcases h with ⟨rfl, _⟩ | h
  · simp at hz
  · exact h
/-- The first of them, and the rest. -/
theorem OwnD.take {w : World} {base g m cap : Nat} {RS : List Rl} (h : OwnD w base (.slice (some ⟨g, 0, none⟩) m cap) RS) (hg : g < w.heap.size) (hc : cap ≤ maxLen) {n : Nat} (hn : n ≤ RS.length) (hm : RS.length ≤ cap) : Dds w (.slice (some ⟨g, 0, none⟩) n cap) (RS.take n) := by
  have hl : (RS.take n).length = n := by rw [List.length_take]; omega
  refine .inr ⟨g, 0, cap, by rw [hl], hg, by omega, hc, fun i hi => ?_⟩
  have hi' : i < RS.length := by omega
  have e : (RS.take n)[i] = RS[i] := List.getElem_take
  rw [e, Nat.zero_add]
  exact ⟨OwnN.cell h encD_len i hi' 0 _ rfl, OwnN.cell h encD_len i hi' 1 _ rfl, OwnN.cell h encD_len i hi' 2 _ rfl⟩
theorem OwnD.drop {w : World} {base g m cap : Nat} {RS : List Rl} (h : OwnD w base (.slice (some ⟨g, 0, none⟩) m cap) RS) (hg : g < w.heap.size) (hc : cap ≤ maxLen) {n : Nat} (hn : n ≤ RS.length) (hm : RS.length ≤ cap) : Dds w (.slice (some ⟨g, n * 3, none⟩) (RS.length - n) (cap - n)) (RS.drop n) := by
  have hl : (RS.drop n).length = RS.length - n := List.length_drop
  refine .inr ⟨g, n * 3, cap - n, by rw [hl], hg, by omega, by omega, fun i hi => ?_⟩
  have hi' : n + i < RS.length := by omega
  have e : (RS.drop n)[i] = RS[n + i] := List.getElem_drop
  rw [e, show n * 3 + i * 3 = (n + i) * 3 by omega]
  exact ⟨OwnN.cell h encD_len (n + i) hi' 0 _ rfl, OwnN.cell h encD_len (n + i) hi' 1 _ rfl, OwnN.cell h encD_len (n + i) hi' 2 _ rfl⟩
set_option maxHeartbeats 16000000 in
theorem decide_at (v : Value) (RS : List Rl) (F : Nat) (w : World) (hv : Dds w v RS) (hn : RS.length ≤ 20) (hF : F < 2 ^ 64) :
    Calls Tryz.prog 12 #[v, .int .u64 (F : Int)] w fun e w' => e = .returned (.tuple #[.agg #[.bool (decF F 0 RS (zeroR, -1)).1.pass, .bool (decF F 0 RS (zeroR, -1)).1.quick, .bool (decF F 0 RS (zeroR, -1)).1.keep], .int .i64 (decF F 0 RS (zeroR, -1)).2]) ∧ Below w.heap.size w w' := by
  obtain ⟨ao, co, hve⟩ := hv.len
  obtain ⟨N, hN⟩ : ∃ N, RS.length = N := ⟨_, rfl⟩
  rw [hN] at hve hn
  subst hve
  obtain ⟨D, hD⟩ : ∃ D, decF F 0 RS (zeroR, -1) = D := ⟨_, rfl⟩
  rw [hD]
  obtain ⟨Q, hQ⟩ : ∃ Q : Ending → World → Prop, Q = fun e w' => e = .returned (.tuple #[.agg #[.bool D.1.pass, .bool D.1.quick, .bool D.1.keep], .int .i64 D.2]) ∧ Below w.heap.size w w' := ⟨_, rfl⟩
  have HQ : Hid (∀ w', Below w.heap.size w w' → Q (.returned (.tuple #[.agg #[.bool D.1.pass, .bool D.1.quick, .bool D.1.keep], .int .i64 D.2])) w') := by rw [hQ]; exact fun w' h => ⟨rfl, h⟩
  rw [← hQ]
  clear hQ
  have HD := hidE hD
  have HV := hidE hv
  have HN := hidE hN
  clear hv hN hD
  go_enter Tryz.func12, Tryz.ntmps12
  go_upto_region 2 with fail
  have S0 := DeSt.new w
  obtain ⟨W0, hW0⟩ : ∃ W0, (w.alloc (.cells #[.bool false, .bool false, .bool false] 47)).alloc (.cells #[.bool true, .bool false, .bool false] 47) = W0 := ⟨_, rfl⟩
  rw [hW0] at S0 ⊢
  obtain ⟨S, hS⟩ : ∃ S, w.heap.size = S := ⟨_, rfl⟩
  rw [hS] at S0 HQ ⊢
  have HS := hidE hS
  have HS0 := hidE S0
  clear S0 hW0 hS
  go_upto_region 3 with fail
  go_loopw [7, 8, 9, 13] (fun n _ _ i wr => ∃ (k : Nat) (r : Rl) (z : Int), k ≤ N ∧ i = .int .i64 (k : Int) ∧ n = .int .i64 z ∧ Hid (DeSt w wr S r) ∧ Hid (decF F k (RS.drop k) (r, z) = D)) (fun _ _ _ i _ => ((N : Int) - intOf i).toNat)
  case atStart => exact ⟨0, zeroR, -1, by omega, rfl, rfl, HS0.out, HD.out⟩
  case round =>
    clear HS0 HD
    obtain ⟨k, r, z, hk, rfl, rfl, HE, HD⟩ := hrel
    by_cases hkn : k < N
    · have j1 : (k : Int) < (N : Int) := by omega
      have j2 : (0 : Int) ≤ (k : Int) := by omega
      have hkl : k < RS.length := by rw [HN.out]; exact hkn
      have hv2 : Dds wr (.slice ao N co) RS := HV.out.below (by rw [HS.out]; exact HE.out.bel)
      obtain ⟨g, off, cap, hvv, hg2, hg3, hg4, hgc⟩ := hv2.shape (by omega)
      rw [HN.out] at hvv
      simp only [Value.slice.injEq] at hvv
      obtain ⟨rfl, _, rfl⟩ := hvv
      have hco : co ≤ 9223372036854775807 := by unfold maxLen at hg4; omega
      obtain ⟨c0, c1, c2⟩ := hgc k hkl
      have hd : RS.drop k = RS[k] :: RS.drop (k + 1) := List.drop_eq_getElem_cons hkl
      rw [hd] at HD
      generalize RS[k] = q at c0 c1 c2 HD
      have b3 : Below wr.heap.size wr (wr.alloc (.cells #[.bool q.pass, .bool q.quick, .bool q.keep] 47)) := (Below.refl _ _).alloc (Nat.le_refl _) _
      have n3 := heap_alloc_new wr (.cells #[.bool q.pass, .bool q.quick, .bool q.keep] 47)
      have E3 := HE.out.below b3
      obtain ⟨W3, hW3⟩ : ∃ W3, wr.alloc (.cells #[.bool q.pass, .bool q.quick, .bool q.keep] 47) = W3 := ⟨_, rfl⟩
      have HW3 := hidE hW3
      rw [hW3] at n3 E3
      have hSX : S + 2 ≤ wr.heap.size := HE.out.sz
      obtain ⟨⟨d0, d1, d2⟩, _⟩ := row3 n3
      obtain ⟨⟨e0, e1, e2⟩, f0, f1, f2⟩ := row3 E3.c1
      have HE3 := hidE E3
      have HN3 := hidE n3
      clear hd hv2 hgc hg2 hg3 hg4 hkl b3 n3 E3 hW3 HE
      go_upto_region 5 with fail
      rw [HW3.out]
      clear c0 c1 c2
      have hbi := bit_is (k := k) hF
      obtain ⟨W4, hW4, E4, ot4⟩ := HE3.out.put q
      rcases hb : F.testBit k with _ | _
      · rw [decF_no hb] at HD
        rw [hb] at hbi
        clear hb hW4 E4 ot4
        go_wp2_with fail
        go_roundw
        case rel => exact ⟨k + 1, r, z, by omega, by go_num, rfl, HE3.out, HD.out⟩
        case measure => simp [intOf]; omega
      · rw [hb] at hbi
        have x1 : W4.cell? ⟨wr.heap.size, 1, none⟩ = some (.bool q.quick) := by rw [World.cell?_of_block (w := W3) (a := ⟨wr.heap.size, 1, none⟩) (ot4 _ (by show wr.heap.size ≠ S + 1; omega))]; exact d1
        have HW4 := hidE hW4
        obtain ⟨⟨y0, y1, y2⟩, _⟩ := row3 E4.c1
        obtain ⟨_, v0, v1, v2⟩ := row3 E4.c0
        have HE4 := hidE E4
        have HBB := hidE hb
        obtain ⟨W9, hW9, q9, o9, b9, z9⟩ := set3 E4.c0 (.bool q.pass) (.bool q.quick) (.bool q.keep)
        have HW9 := hidE hW9
        have HB9 := hidE (E4.bel.trans (b9.mono (Nat.le_refl _)))
        obtain ⟨⟨w0, w1, w2⟩, _⟩ := row3 q9
        have HQ9 := hidE (And.intro w0 (And.intro w1 w2))
        obtain ⟨⟨g0, g1, g2⟩, _⟩ := row3 E4.c0
        clear hb hW4 E4 ot4 hW9 q9 o9 b9 z9 w0 w1 w2
        go_upto_region 7 with fail
        rw [HW4.out]
        clear d0 d1 d2 e0 e1 e2 f0 f1 f2
        rcases hq : q.quick with _ | _
        · rw [decF_yes HBB.out hq] at HD
          rw [hq] at x1
          clear hq y0 y1 y2 v0 v1 v2 g0 g1 g2
          go_wp2_with fail
          go_roundw
          case rel => exact ⟨k + 1, q, (k : Int), by omega, by go_num, rfl, HE4.out, HD.out⟩
          case measure => simp [intOf]; omega
        · rw [decF_quick HBB.out hq] at HD
          have hD := HD.out
          rw [← hD] at HQ
          have HQ2 := hidE (HQ.out W9 HB9.out)
          simp only at HQ2
          rw [hq] at x1 HQ2 HW9 HQ9
          clear hD HD HQ HE4 HE3
          go_wp2_with fail
          rw [HW9.out]
          obtain ⟨w0, w1, w2⟩ := HQ9.out
          exact bodyPost_ret (v := .tuple #[.agg #[.bool q.pass, .bool true, .bool q.keep], .int .i64 (k : Int)]) (by simp [results, Tryz.results12, go_sem, w0, w1, w2]) rfl HQ2.out
    · have j1 : ¬ (k : Int) < (N : Int) := by omega
      have hd : RS.drop k = [] := List.drop_eq_nil_of_le (by rw [HN.out]; omega)
      rw [hd, decF] at HD
      have hD := HD.out
      rw [← hD] at HQ
      obtain ⟨W9, hW9, q9, o9, b9, z9⟩ := set3 HE.out.c0 (.bool r.pass) (.bool r.quick) (.bool r.keep)
      have HW9 := hidE hW9
      have HQ2 := hidE (HQ.out W9 (HE.out.bel.trans (b9.mono (Nat.le_refl _))))
      simp only at HQ2
      obtain ⟨⟨w0, w1, w2⟩, _⟩ := row3 q9
      have HQ9 := hidE (And.intro w0 (And.intro w1 w2))
      obtain ⟨⟨g0, g1, g2⟩, v0, v1, v2⟩ := row3 HE.out.c0
      obtain ⟨⟨y0, y1, y2⟩, _⟩ := row3 HE.out.c1
      clear hD HD HQ HE hd hW9 q9 o9 b9 z9 w0 w1 w2
      go_wp2_with fail
      rw [HW9.out]
      obtain ⟨w0, w1, w2⟩ := HQ9.out
      exact bodyPost_ret (v := .tuple #[.agg #[.bool r.pass, .bool r.quick, .bool r.keep], .int .i64 z]) (by simp [results, Tryz.results12, go_sem, w0, w1, w2]) rfl HQ2.out
end Go.Proofs.YtdellfmkmbabhaaGreatDoor

namespace Go.Proofs.YtdellfmkmbabhaaGreatDoor
open Go.RowKit Go.Maps
set_option linter.unusedVariables false
set_option maxRecDepth 10000

/-- A deed of the call's own. -/
structure DfSt (W wr : World) (B : Nat) (p q k : Bool) : Prop where
  at' : wr.heap[B]? = some (.cells #[.bool p, .bool q, .bool k] 47 (0, 0))
  lo : W.heap.size ≤ B
  bel : Below W.heap.size W wr
def zeroDd : Obj := .cells #[.bool false, .bool false, .bool false] 47
theorem DfSt.below {W wr wr' : World} {B : Nat} {p q k : Bool} (h : DfSt W wr B p q k) (hb : Below wr.heap.size wr wr') : DfSt W wr' B p q k :=
  ⟨(hb.block B (Array.getElem?_eq_some_iff.1 h.at').1).trans h.at', h.lo, h.bel.trans (hb.mono h.bel.size)⟩
theorem DfSt.fresh {W w1 : World} (p q k : Bool) (h : Below W.heap.size W w1) : DfSt W (w1.alloc (.cells #[.bool p, .bool q, .bool k] 47)) w1.heap.size p q k :=
  ⟨heap_alloc_new w1 _, h.size, h.alloc h.size _⟩
/-- The deed was made ahead of the call. -/
theorem early {W wr w1 : World} (hw : Below W.heap.size W wr) (b : Below (wr.alloc zeroDd).drew.heap.size (wr.alloc zeroDd).drew w1) : w1.heap[wr.heap.size]? = some (.cells #[.bool false, .bool false, .bool false] 47 (0, 0)) ∧ Below W.heap.size W w1 := by
  have z : wr.heap.size < (wr.alloc zeroDd).drew.heap.size := by show wr.heap.size < (wr.alloc zeroDd).heap.size; simp
  have e := heap_alloc_new wr zeroDd
  have bb : Below W.heap.size W (wr.alloc zeroDd) := hw.alloc hw.size _
  refine ⟨(b.block _ z).trans e, ?_⟩
  have b' : Below (wr.alloc zeroDd).heap.size (wr.alloc zeroDd) w1 := ⟨b.os, b.tape, b.output, b.size, b.block⟩
  exact bb.trans (b'.mono bb.size)
theorem DfSt.put {W w1 : World} {B : Nat} (h : w1.heap[B]? = some (.cells #[.bool false, .bool false, .bool false] 47 (0, 0))) (hb : Below W.heap.size W w1) (hB : W.heap.size ≤ B) (p q k : Bool) : DfSt W (((w1.setCell ⟨B, 0, none⟩ (.bool p)).setCell ⟨B, 1, none⟩ (.bool q)).setCell ⟨B, 2, none⟩ (.bool k)) B p q k := by
  obtain ⟨W', hW', n', o', b', z'⟩ := set3 h (.bool p) (.bool q) (.bool k)
  rw [hW']
  exact ⟨n', hB, hb.trans (b'.mono hB)⟩
theorem late {W wr w1 : World} (hw : Below W.heap.size W wr) (b : Below wr.drew.heap.size wr.drew w1) : Below W.heap.size W w1 := by
  have b' : Below wr.heap.size wr w1 := ⟨b.os, b.tape, b.output, b.size, b.block⟩
  exact hw.trans (b'.mono hw.size)
set_option maxHeartbeats 16000000 in
theorem dif_at (P PC AC F n ca : Nat) (dv va vb : Value) (aa : Option Addr) (pa qa ka pb qb kb : Bool) (na nb : Int) (W : World)
    (c1 : W.cell? ⟨PC, 0, none⟩ = some (.pointer (some ⟨P, 0, none⟩))) (c2 : W.cell? ⟨AC, 0, none⟩ = some (.slice aa n ca)) (c3 : W.cell? ⟨P, 0, none⟩ = some dv)
    (hP : P < W.heap.size) (hPC : PC < W.heap.size) (hAC : AC < W.heap.size) (hcm : n ≤ 9223372036854775807)
    (s1 : ∀ X, (Instr.slice 50 dv none (some (.int .i64 (n : Int))) none).run Tryz.prog X = .ok va X) (s2 : ∀ X, (Instr.slice 50 dv (some (.int .i64 (n : Int))) none none).run Tryz.prog X = .ok vb X)
    (hda : ∀ X, Below W.heap.size W X → Calls Tryz.prog 12 #[va, .int .u64 (F : Int)] X fun e w' => e = .returned (.tuple #[.agg #[.bool pa, .bool qa, .bool ka], .int .i64 na]) ∧ Below X.heap.size X w')
    (hdb : ∀ X, Below W.heap.size W X → Calls Tryz.prog 12 #[vb, .int .u64 ((F : Int) / 2 ^ min n 64)] X fun e w' => e = .returned (.tuple #[.agg #[.bool pb, .bool qb, .bool kb], .int .i64 nb]) ∧ Below X.heap.size X w') :
    Calls Tryz.prog 11 #[.int .u64 (F : Int), .pointer (some ⟨PC, 0, none⟩), .pointer (some ⟨AC, 0, none⟩)] W fun e w' => e = .returned (.bool ((pa != pb) || (ka != kb))) ∧ Below W.heap.size W w' := by
  have i4 : (0 : Int) ≤ (n : Int) := by omega
  have i5 : ¬ (n : Int) < 0 := by omega
  have hda0 := hda W.drew (below_drewN (Below.refl _ _) 1)
  have hda1 := hda (W.alloc zeroDd).drew (below_drewN ((Below.refl _ _).alloc (Nat.le_refl _) _) 1)
  have HDB := hidE hdb
  have HC := hidE (And.intro c1 (And.intro c2 c3))
  obtain ⟨Q, hQ⟩ : ∃ Q : Ending → World → Prop, Q = fun e w' => e = .returned (.bool ((pa != pb) || (ka != kb))) ∧ Below W.heap.size W w' := ⟨_, rfl⟩
  have HQ : Hid (∀ w', Below W.heap.size W w' → Q (.returned (.bool ((pa != pb) || (ka != kb)))) w') := by rw [hQ]; exact fun _ h => ⟨rfl, h⟩
  rw [← hQ]
  clear hdb hda hQ
  go_enter Tryz.func11, Tryz.ntmps11
  go_upto_region 1 with fail
  go_cut [5, 6] (fun p n wr => n = .int .i64 na ∧ ∃ B, p = .pointer (some ⟨B, 0, none⟩) ∧ Hid (DfSt W wr B pa qa ka))
  case first =>
    unfold zeroDd at hda1
    have hPC2 : PC < W.heap.size := hPC
    have hAC2 : AC < W.heap.size := hAC
    have hP2 : P < W.heap.size := hP
    have hS : W.cell? ⟨PC, 0, none⟩ = some (.pointer (some ⟨P, 0, none⟩)) ∧ W.cell? ⟨AC, 0, none⟩ = some (.slice aa n ca) ∧ W.cell? ⟨P, 0, none⟩ = some dv := ⟨c1, c2, c3⟩
    have nn1 := World.new_ne W _ c1
    have nn2 := World.new_ne W _ c2
    have nn3 := World.new_ne W _ c3
    go_region_held3 (fun X => X.cell? ⟨PC, 0, none⟩ = some (.pointer (some ⟨P, 0, none⟩)) ∧ X.cell? ⟨AC, 0, none⟩ = some (.slice aa n ca) ∧ X.cell? ⟨P, 0, none⟩ = some dv) (with_reducible first | assumption | go_keep) (first
      | (go_at_call 12; refine hda0.mono ?_; rintro e w1 ⟨rfl, b1⟩; have hh := hidE (late (Below.refl _ _) b1); have hB1 := hh.out; have hS1 : w1.cell? ⟨PC, 0, none⟩ = some (.pointer (some ⟨P, 0, none⟩)) ∧ w1.cell? ⟨AC, 0, none⟩ = some (.slice aa n ca) ∧ w1.cell? ⟨P, 0, none⟩ = some dv := ⟨(hB1.cell (p := ⟨PC, 0, none⟩) hPC2).trans c1, (hB1.cell (p := ⟨AC, 0, none⟩) hAC2).trans c2, (hB1.cell (p := ⟨P, 0, none⟩) hP2).trans c3⟩; clear hB1)
      | (go_at_call 12; refine hda1.mono ?_; rintro e w1 ⟨rfl, b1⟩; have hh := hidE (early (Below.refl _ _) b1); have hc := row3 hh.out.1; obtain ⟨⟨d0, d1, d2⟩, d3, d4, d5⟩ := hc; have hB1 := hh.out.2; have hS1 : w1.cell? ⟨PC, 0, none⟩ = some (.pointer (some ⟨P, 0, none⟩)) ∧ w1.cell? ⟨AC, 0, none⟩ = some (.slice aa n ca) ∧ w1.cell? ⟨P, 0, none⟩ = some dv := ⟨(hB1.cell (p := ⟨PC, 0, none⟩) hPC2).trans c1, (hB1.cell (p := ⟨AC, 0, none⟩) hAC2).trans c2, (hB1.cell (p := ⟨P, 0, none⟩) hP2).trans c3⟩; clear hB1))
    all_goals
      go_wp2_with fail
      go_meet
      case rel => exact ⟨rfl, _, rfl, (by first | exact DfSt.fresh _ _ _ hh.out | exact DfSt.put hh.out.1 hh.out.2 (Nat.le_refl _) _ _ _)⟩
  case rest =>
    obtain ⟨rfl, B, rfl, HA⟩ := hcut
    clear hda0 hda1 c1 c2 c3
    have hlt : ∀ x, x < W.heap.size → x < wc.heap.size := fun x h => Nat.lt_of_lt_of_le h HA.out.bel.size
    have c1 := (HA.out.bel.cell (p := ⟨PC, 0, none⟩) hPC).trans HC.out.1
    have c2 := (HA.out.bel.cell (p := ⟨AC, 0, none⟩) hAC).trans HC.out.2.1
    have c3 := (HA.out.bel.cell (p := ⟨P, 0, none⟩) hP).trans HC.out.2.2
    have hdb0 := HDB.out wc.drew (below_drewN HA.out.bel 1)
    have hdb1 := HDB.out (wc.alloc zeroDd).drew (below_drewN (HA.out.bel.alloc HA.out.bel.size _) 1)
    clear hlt
    go_upto_region 2 with fail
    go_cut [7, 8] (fun p n wr => n = .int .i64 nb ∧ ∃ C, p = .pointer (some ⟨C, 0, none⟩) ∧ Hid (DfSt wc wr C pb qb kb))
    case first =>
      unfold zeroDd at hdb1
      have hPC2 : PC < wc.heap.size := Nat.lt_of_lt_of_le hPC HA.out.bel.size
      have hAC2 : AC < wc.heap.size := Nat.lt_of_lt_of_le hAC HA.out.bel.size
      have hP2 : P < wc.heap.size := Nat.lt_of_lt_of_le hP HA.out.bel.size
      have hS : wc.cell? ⟨PC, 0, none⟩ = some (.pointer (some ⟨P, 0, none⟩)) ∧ wc.cell? ⟨AC, 0, none⟩ = some (.slice aa n ca) ∧ wc.cell? ⟨P, 0, none⟩ = some dv := ⟨c1, c2, c3⟩
      have nn1 := World.new_ne wc _ c1
      have nn2 := World.new_ne wc _ c2
      have nn3 := World.new_ne wc _ c3
      go_region_held3 (fun X => X.cell? ⟨PC, 0, none⟩ = some (.pointer (some ⟨P, 0, none⟩)) ∧ X.cell? ⟨AC, 0, none⟩ = some (.slice aa n ca) ∧ X.cell? ⟨P, 0, none⟩ = some dv) (with_reducible first | assumption | go_keep) (first
        | (go_at_call 12; refine hdb0.mono ?_; rintro e w1 ⟨rfl, b1⟩; have hh := hidE (late (Below.refl _ _) b1); have hB1 := hh.out; have hS1 : w1.cell? ⟨PC, 0, none⟩ = some (.pointer (some ⟨P, 0, none⟩)) ∧ w1.cell? ⟨AC, 0, none⟩ = some (.slice aa n ca) ∧ w1.cell? ⟨P, 0, none⟩ = some dv := ⟨(hB1.cell (p := ⟨PC, 0, none⟩) hPC2).trans c1, (hB1.cell (p := ⟨AC, 0, none⟩) hAC2).trans c2, (hB1.cell (p := ⟨P, 0, none⟩) hP2).trans c3⟩; clear hB1)
        | (go_at_call 12; refine hdb1.mono ?_; rintro e w1 ⟨rfl, b1⟩; have hh := hidE (early (Below.refl _ _) b1); have hc := row3 hh.out.1; obtain ⟨⟨d0, d1, d2⟩, d3, d4, d5⟩ := hc; have hB1 := hh.out.2; have hS1 : w1.cell? ⟨PC, 0, none⟩ = some (.pointer (some ⟨P, 0, none⟩)) ∧ w1.cell? ⟨AC, 0, none⟩ = some (.slice aa n ca) ∧ w1.cell? ⟨P, 0, none⟩ = some dv := ⟨(hB1.cell (p := ⟨PC, 0, none⟩) hPC2).trans c1, (hB1.cell (p := ⟨AC, 0, none⟩) hAC2).trans c2, (hB1.cell (p := ⟨P, 0, none⟩) hP2).trans c3⟩; clear hB1))
      all_goals
        go_wp2_with fail
        go_meet
        case rel => exact ⟨rfl, _, rfl, (by first | exact DfSt.fresh _ _ _ hh.out | exact DfSt.put hh.out.1 hh.out.2 (Nat.le_refl _) _ _ _)⟩
    case rest =>
      obtain ⟨rfl, C, rfl, HB⟩ := hcut
      rename_i wd
      have HA2 := hidE (HA.out.below HB.out.bel)
      obtain ⟨⟨a0, a1, a2⟩, _⟩ := row3 HA2.out.at'
      obtain ⟨⟨e0, e1, e2⟩, _⟩ := row3 HB.out.at'
      have HF := hidE (HQ.out _ HA2.out.bel)
      clear hdb0 hdb1 c1 c2 c3 HA HB HA2 HQ HDB HC
      cases pa <;> cases pb <;> cases ka <;> cases kb <;> (go_wp2_with fail; exact HF.out)
end Go.Proofs.YtdellfmkmbabhaaGreatDoor
