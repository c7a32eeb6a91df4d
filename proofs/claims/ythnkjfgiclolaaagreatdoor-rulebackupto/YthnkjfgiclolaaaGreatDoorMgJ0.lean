/- A strings.Builder that holds some bytes, and what a side of a rule is written as (package rule). -/
import Derived.Test.YthnkjfgiclolaaaGreatDoorRuleBld
import Derived.Test.YthnkjfgiclolaaaGreatDoorRuleSid
import Derived.Test.YthnkjfgiclolaaaGreatDoorMgI
import Derived.Test.YthnkjfgiclolaaaGreatDoorSpnTxt
namespace Go.Proofs.YthnkjfgiclolaaaGreatDoor
open Go.RowKit
set_option linter.unusedVariables false

def portL : List UInt8 := [32, 112, 111, 114, 116, 32]
def portsL (ps : List Sp) : List UInt8 := if ps = [] then [] else portL ++ printL ps
/-- What a side is written as, behind its word. -/
def sideL (W : List UInt8) (a l : Int) (ps : List Sp) : List UInt8 := W ++ showPrefL a l ++ portsL ps
/-- The builder at bb holds bs, from block B on. -/
def BldAt (w : World) (B bb : Nat) (bs : List UInt8) : Prop := Lib.IsBuilderF 53 5 B bb (Lib.byteCells bs) w
theorem BldAt.keep {w w' : World} {B bb : Nat} {bs : List UInt8} (h : BldAt w B bb bs) (hb : Below w.heap.size w w') : BldAt w' B bb bs := by
  have one : ∀ {p : Value}, Lib.BuilderAtF 53 5 B bb p (Lib.byteCells bs) w → Lib.BuilderAtF 53 5 B bb p (Lib.byteCells bs) w' := by
    intro p h
    obtain ⟨h1, v, h2, h3, h4⟩ := h
    refine ⟨h1, v, (hb.block bb (Array.getElem?_eq_some_iff.1 h2).1).trans h2, ?_, h4⟩
    obtain ⟨k1, k2⟩ := h3
    refine ⟨k1, ?_⟩
    rcases k2 with k2 | ⟨g, cap, cur, fz, e, hg, hh, rest⟩
    · exact .inl k2
    · exact .inr ⟨g, cap, cur, fz, e, hg, (hb.block g (Array.getElem?_eq_some_iff.1 hh).1).trans hh, rest⟩
  rcases h with h | h
  · exact .inl (one h)
  · exact .inr (one h)
theorem strCells_mk (l : List UInt8) : Lib.strCells (mkB l) = Lib.byteCells l := rfl
/-- WriteString of some bytes. -/
theorem bldW (B bb : Nat) (bs l : List UInt8) (w : World) (h : BldAt w B bb bs) (hlen : bs.length + l.length ≤ 140737488355328) (hBw : B ≤ w.heap.size) :
    Calls Tryz.prog 20 #[.pointer (some ⟨bb, 0, none⟩), .string (mkB l)] w fun e w' => e = .returned (.tuple #[.int .i64 (l.length : Int), .nilIface]) ∧ BldAt w' B bb (bs ++ l) ∧ Below B w w' ∧ Lib.OthersKept 5 (some bb) w w' := by
  refine (wString_k B bb (Lib.byteCells bs) (mkB l) w h (by rw [Lib.byteCells_length, mkB_size]; exact hlen) hBw).mono ?_
  rintro e w' ⟨rfl, h1, h2, h3⟩
  refine ⟨by rw [mkB_size], .inr ?_, h2, h3⟩
  rw [strCells_mk] at h1
  unfold Lib.byteCells at h1 ⊢
  rw [List.map_append]
  exact h1
end Go.Proofs.YthnkjfgiclolaaaGreatDoor

namespace Go.Proofs.YthnkjfgiclolaaaGreatDoor
open Go.RowKit
set_option linter.unusedVariables false
set_option maxHeartbeats 8000000 in
theorem wr1_any (w0 : World) (W : List UInt8) (b i j B bb : Nat) (a l : Int) (v : Value) (ps : List Sp) (bs : List UInt8) (w : World) (hb0 : Below w0.heap.size w0 w) (hB0 : w0.heap.size ≤ B) (hbB : b < B)
    (h0 : w.cell? ⟨b, i, none⟩ = some (.int .i64 a)) (h1 : w.cell? ⟨b, i + 1, none⟩ = some (.int .i64 l)) (h2 : w.cell? ⟨b, j, none⟩ = some v) (hv : Spns w0 v ps) (ht : TxE w0) (hp : prefE a l = 0) (hs : spE ps = 0) (hl : ps.length ≤ 140737488355328) (hbl : BldAt w B bb bs) (hBw : B ≤ w.heap.size) (hlen : bs.length + (sideL W a l ps).length ≤ 140737488355328) :
    Calls Tryz.prog 46 #[sideV (mkB W) b i j, .pointer (some ⟨bb, 0, none⟩)] w fun e w' => e = .returned .nilIface ∧ BldAt w' B bb (bs ++ sideL W a l ps) ∧ Below B w w' ∧ Lib.OthersKept 5 (some bb) w w' := by
  have b1 : Below w.heap.size w (w.alloc (.cells #[.string (mkB W), .pointer (some ⟨b, i, none⟩), .pointer (some ⟨b, j, none⟩)] 80)) := (Below.refl _ _).alloc (Nat.le_refl _) _
  obtain ⟨ao, c, hve⟩ := hv.len
  obtain ⟨n, hn⟩ : ∃ n, ps.length = n := ⟨_, rfl⟩
  rw [hn] at hve
  subst hve
  have hlt : b < w.heap.size := by omega
  have hL := hidE hlen
  unfold sideL at hlen
  simp only [List.length_append] at hlen
  have HN := hidE hn
  have HV := hidE hv
  have HL := hidE hl
  have HT := hidE ht
  have HB0 := hidE hb0
  have hpp := printPrefix_ok a l (w.alloc (.cells #[.string (mkB W), .pointer (some ⟨b, i, none⟩), .pointer (some ⟨b, j, none⟩)] 80)) hp (ht.below (hb0.trans (b1.mono hb0.size))).tab
  unfold sideV
  clear hn hv ht hp hl
  go_enter Tryz.func46, Tryz.ntmps46
  go_upto_region 1 with fail
  obtain ⟨W1, hW1⟩ : ∃ W1, w.alloc (.cells #[.string (mkB W), .pointer (some ⟨b, i, none⟩), .pointer (some ⟨b, j, none⟩)] 80) = W1 := ⟨_, rfl⟩
  have hx := heap_alloc_new w (.cells #[.string (mkB W), .pointer (some ⟨b, i, none⟩), .pointer (some ⟨b, j, none⟩)] 80)
  rw [hW1] at hx b1 hpp ⊢
  obtain ⟨S, hS⟩ : ∃ S, w.heap.size = S := ⟨_, rfl⟩
  rw [hS] at hx ⊢
  have HX := hidE hx
  have s0 : W1.cell? ⟨S, 0, none⟩ = some (.string (mkB W)) := by rw [cell_of_row W1 S 0 _ _ _ hx]; rfl
  have s1 : W1.cell? ⟨S, 1, none⟩ = some (.pointer (some ⟨b, i, none⟩)) := by rw [cell_of_row W1 S 1 _ _ _ hx]; rfl
  have s2 : W1.cell? ⟨S, 2, none⟩ = some (.pointer (some ⟨b, j, none⟩)) := by rw [cell_of_row W1 S 2 _ _ _ hx]; rfl
  have r0 := (b1.cell (p := ⟨b, i, none⟩) hlt).trans h0
  have r1 := (b1.cell (p := ⟨b, i + 1, none⟩) hlt).trans h1
  have HPP := hpp
  have hSb : S ≠ bb := by
    rcases hbl with ⟨_, v, e, _⟩ | ⟨_, v, e, _⟩
    · have := (Array.getElem?_eq_some_iff.1 e).1; omega
    · have := (Array.getElem?_eq_some_iff.1 e).1; omega
  go_upto_region 2 with (go_at_call 47; go_must (refine HPP.mono ?_; rintro e w2 ⟨rfl, b2⟩))
  have hS1 : S < W1.heap.size := (Array.getElem?_eq_some_iff.1 hx).1
  have q0 := (b2.cell (p := ⟨S, 0, none⟩) hS1).trans s0
  have hB1 := (hbl.keep b1).keep b2
  have hbw := bldW B bb bs (W ++ showPrefL a l) w2 hB1 (by rw [List.length_append]; omega) (by have := b2.size; omega)
  rw [← mkB_append] at hbw
  have hz : ¬ 9223372036854775807 < (mkB W).size + (mkB (showPrefL a l)).size := by rw [mkB_size, mkB_size]; omega
  go_upto_region 3 with (go_at_call 20; go_must (refine hbw.mono ?_; rintro e w3 ⟨rfl, hB3, b3, o3⟩))
  have x3 := o3 S _ ((b2.block S hS1).trans hx) (by simpa using hSb) (by intro c fz hh; cases hh)
  have q2 : w3.cell? ⟨S, 2, none⟩ = some (.pointer (some ⟨b, j, none⟩)) := by rw [cell_of_row w3 S 2 _ _ _ x3]; rfl
  have q3 := (b3.cell (p := ⟨b, j, none⟩) (show b < B by omega)).trans ((b2.cell (p := ⟨b, j, none⟩) (show b < W1.heap.size by omega)).trans ((b1.cell (p := ⟨b, j, none⟩) hlt).trans h2))
  have o1 : Lib.OthersKept 5 (some bb) w W1 := fun k o h _ _ => (b1.block k (Array.getElem?_eq_some_iff.1 h).1).trans h
  have o2 : Lib.OthersKept 5 (some bb) W1 w2 := fun k o h _ _ => (b2.block k (Array.getElem?_eq_some_iff.1 h).1).trans h
  have O3 := hidE ((o1.trans o2).trans o3)
  have B3 := hidE (((b1.mono (by omega : B ≤ w.heap.size)).trans (b2.mono (by omega : B ≤ W1.heap.size))).trans b3)
  have HB3 := hidE hB3
  by_cases hn0 : n = 0
  · have hn1 : (n : Int) = 0 := by omega
    go_wp2_with fail
    go_ret
    have e0 : ps = [] := List.eq_nil_of_length_eq_zero (HN.trans hn0)
    refine ⟨rfl, ?_, B3, O3⟩
    unfold sideL portsL
    rw [e0, if_pos rfl, List.append_nil]
    exact HB3
  · have hn1 : ¬ (n : Int) = 0 := by omega
    have hps : ps ≠ [] := by intro e0; rw [e0] at HN; exact hn0 HN.symm
    have hb3 : Below w0.heap.size w0 w3 := hb0.trans (B3.mono hB0)
    have hsp := spPrint_any _ ps w3 (HV.below hb3) HL (HT.below hb3)
    rw [if_pos hs, hs] at hsp
    go_upto_region 6 with (go_at_call 48; go_must (refine hsp.mono ?_; rintro e w4 ⟨rfl, b4⟩))
    have hpl : (portsL ps).length = portL.length + (printL ps).length := by unfold portsL; rw [if_neg hps, List.length_append]
    have hb5 := bldW B bb _ (portL ++ printL ps) w4 (HB3.keep b4) (by simp only [List.length_append]; omega) (by have := b4.size; have := b3.size; have := b2.size; omega)
    rw [← mkB_append] at hb5
    have hz2 : ¬ 9223372036854775807 < (mkB portL).size + (mkB (printL ps)).size := by rw [mkB_size, mkB_size]; omega
    have hpv : mkB portL = ⟨#[32, 112, 111, 114, 116, 32]⟩ := rfl
    rw [hpv] at hb5 hz2
    go_wp2_with (go_at_call 20; go_must (refine hb5.mono ?_; rintro e w5 ⟨rfl, hB5, b5, o5⟩))
    go_ret
    have o4 : Lib.OthersKept 5 (some bb) w3 w4 := fun k o h _ _ => (b4.block k (Array.getElem?_eq_some_iff.1 h).1).trans h
    refine ⟨rfl, ?_, (B3.trans (b4.mono (by have := b3.size; have := b2.size; omega))).trans b5, (O3.trans o4).trans o5⟩
    unfold sideL portsL
    rw [if_neg hps, ← List.append_assoc]
    exact hB5
end Go.Proofs.YthnkjfgiclolaaaGreatDoor
