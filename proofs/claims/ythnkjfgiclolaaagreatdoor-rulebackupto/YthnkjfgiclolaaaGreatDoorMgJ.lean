/- What both sides of a rule are written as (package rule): 'sides' with the closure of 'write'. -/
import Derived.Test.YthnkjfgiclolaaaGreatDoorMgJ0
import Derived.Test.YthnkjfgiclolaaaGreatDoorRuleChk
namespace Go.Proofs.YthnkjfgiclolaaaGreatDoor
open Go.RowKit
set_option linter.unusedVariables false

def fromL : List UInt8 := [32, 102, 114, 111, 109, 32]
def toL : List UInt8 := [32, 116, 111, 32]
def bothL (r : Rl) : List UInt8 := sideL fromL r.sa r.sl r.fr ++ sideL toL r.da r.dl r.tl
theorem BldAt.drew {w : World} {B bb : Nat} {bs : List UInt8} (h : BldAt w B bb bs) : BldAt w.drew B bb bs := h.keep ((Below.refl _ _).drew)
set_option maxHeartbeats 8000000 in
theorem sidesW (w0 : World) (r : Rl) (b B bb : Nat) (vf vt : Value) (bs : List UInt8) (w : World) (hb0 : Below w0.heap.size w0 w) (hB0 : w0.heap.size ≤ B) (hbB : b < B) (hr : RlAt w b r vf vt) (hf : Spns w0 vf r.fr) (ht : Spns w0 vt r.tl) (hx : TxE w0)
    (hp1 : prefE r.sa r.sl = 0) (hp2 : prefE r.da r.dl = 0) (hs1 : spE r.fr = 0) (hs2 : spE r.tl = 0) (hl1 : r.fr.length ≤ 140737488355328) (hl2 : r.tl.length ≤ 140737488355328) (hbl : BldAt w B bb bs) (hBw : B ≤ w.heap.size) (hlen : bs.length + (bothL r).length ≤ 140737488355328) :
    Calls Tryz.prog 43 #[.pointer (some ⟨b, 0, none⟩), .func (.func 46) #[] #[.pointer (some ⟨bb, 0, none⟩)]] w fun e w' => e = .returned .nilIface ∧ BldAt w' B bb (bs ++ bothL r) ∧ Below B w w' ∧ Lib.OthersKept 5 (some bb) w w' := by
  have hbd : Below w.heap.size w w.drew := (Below.refl _ _).drew
  have hrd := hr.below hr.lt hbd
  unfold bothL at hlen
  rw [List.length_append] at hlen
  have hA1 := wr1_any w0 fromL b 5 9 B bb r.sa r.sl vf r.fr bs w.drew (hb0.trans (hbd.mono hb0.size)) hB0 hbB hrd.cells.2.2.2.2.2.1 hrd.cells.2.2.2.2.2.2.1 hrd.cells.2.2.2.2.2.2.2.2.2.1 hf hx hp1 hs1 hl1 hbl.drew hBw (by omega)
  have hB1 := hidE (fun w1 (h1 : BldAt w1 B bb (bs ++ sideL fromL r.sa r.sl r.fr)) (k1 : Below B w w1) =>
    wr1_any w0 toL b 7 10 B bb r.da r.dl vt r.tl (bs ++ sideL fromL r.sa r.sl r.fr) w1.drew (hb0.trans ((k1.mono hB0).drew)) hB0 hbB (hr.below hbB k1.drew).cells.2.2.2.2.2.2.2.1 (hr.below hbB k1.drew).cells.2.2.2.2.2.2.2.2.1 (hr.below hbB k1.drew).cells.2.2.2.2.2.2.2.2.2.2 ht hx hp2 hs2 hl2 h1.drew (Nat.le_trans hBw k1.size) (by rw [List.length_append]; omega))
  unfold sideV at hA1 hB1
  rw [show mkB fromL = ⟨#[32, 102, 114, 111, 109, 32]⟩ from rfl] at hA1
  rw [show mkB toL = ⟨#[32, 116, 111, 32]⟩ from rfl] at hB1
  have HW := hidE hBw
  clear hr hf ht hx hp1 hp2 hs1 hs2 hl1 hl2 hbl hlen hrd hbd hb0 hB0 hbB hBw
  go_enter Tryz.func43, Tryz.ntmps43
  go_upto_region 1 with fail
  go_region_with (go_at_call 46; go_must (refine hA1.mono ?_; rintro e w1 ⟨rfl, h1, b1, o1⟩))
  have b1' : Below B w w1 := ⟨b1.os, b1.tape, b1.output, b1.size, b1.block⟩
  have hB2 := hB1.out w1 h1 b1'
  have HB := hidE b1'
  have O1 := hidE o1
  clear hA1 hB1 b1 b1' o1 h1
  go_upto_region 4 with fail
  go_region_with (go_at_call 46; go_must (refine hB2.mono ?_; rintro e w2 ⟨rfl, h2, b2, o2⟩))
  have HB2 := hidE (⟨b2.os, b2.tape, b2.output, b2.size, b2.block⟩ : Below B w1 w2)
  have O2 := hidE o2
  have H2 := hidE h2
  clear hB2 b2 o2 h2
  go_wp2_with fail
  go_ret
  refine ⟨rfl, ?_, HB.out.trans HB2.out, fun k o h kb ko => O2.out k o (O1.out k o h kb ko) kb ko⟩
  unfold bothL
  rw [← List.append_assoc]
  exact H2.out
end Go.Proofs.YthnkjfgiclolaaaGreatDoor

namespace Go.Proofs.YthnkjfgiclolaaaGreatDoor
open Go.RowKit
set_option linter.unusedVariables false

def headL (r : Rl) : List UInt8 := if r.pass then [112, 97, 115, 115] else [98, 108, 111, 99, 107]
def quickL (r : Rl) : List UInt8 := if r.quick then [32, 113, 117, 105, 99, 107] else []
def keepL (r : Rl) : List UInt8 := if r.keep then [32, 107, 101, 101, 112] else []
def wayL (k : Int) : List UInt8 := if k = 1 then [32, 105, 110] else if k = 2 then [32, 111, 117, 116] else []
def kindL (k : Int) : List UInt8 := if k = 1 then [32, 107, 105, 110, 100, 32, 115, 116, 114, 101, 97, 109] else if k = 2 then [32, 107, 105, 110, 100, 32, 115, 105, 110, 103, 108, 101] else if k = 3 then [32, 107, 105, 110, 100, 32, 101, 99, 104, 111] else []
/-- A rule's line, but for its end. -/
def lineL (r : Rl) : List UInt8 := headL r ++ quickL r ++ (wayL r.way ++ kindL r.kind) ++ bothL r ++ keepL r
/-- The words of package rule. -/
structure Wrds (w : World) : Prop where
  way : ∃ ty fz, w.heap[0]? = some (.cells #[.string (mkB (wayL 0)), .string (mkB (wayL 1)), .string (mkB (wayL 2))] ty fz)
  kind : ∃ ty fz, w.heap[1]? = some (.cells #[.string (mkB (kindL 0)), .string (mkB (kindL 1)), .string (mkB (kindL 2)), .string (mkB (kindL 3))] ty fz)
theorem Wrds.below {w w' : World} (h : Wrds w) (hb : Below w.heap.size w w') : Wrds w' := by
  obtain ⟨t1, f1, h1⟩ := h.way
  obtain ⟨t2, f2, h2⟩ := h.kind
  exact ⟨⟨t1, f1, (hb.block _ (Array.getElem?_eq_some_iff.1 h1).1).trans h1⟩, ⟨t2, f2, (hb.block _ (Array.getElem?_eq_some_iff.1 h2).1).trans h2⟩⟩
theorem Wrds.wayAt {w : World} (h : Wrds w) {k : Int} (h0 : 0 ≤ k) (h2 : k ≤ 2) : w.cell? ⟨0, k.toNat, none⟩ = some (.string (mkB (wayL k))) := by
  obtain ⟨ty, fz, h'⟩ := h.way
  rw [show w.cell? ⟨0, k.toNat, none⟩ = (#[Value.string (mkB (wayL 0)), .string (mkB (wayL 1)), .string (mkB (wayL 2))])[k.toNat]? by simp [World.cell?, h']]
  rcases (by omega : k = 0 ∨ k = 1 ∨ k = 2) with rfl | rfl | rfl <;> rfl
theorem Wrds.kindAt {w : World} (h : Wrds w) {k : Int} (h0 : 0 ≤ k) (h2 : k ≤ 3) : w.cell? ⟨1, k.toNat, none⟩ = some (.string (mkB (kindL k))) := by
  obtain ⟨ty, fz, h'⟩ := h.kind
  rw [show w.cell? ⟨1, k.toNat, none⟩ = (#[Value.string (mkB (kindL 0)), .string (mkB (kindL 1)), .string (mkB (kindL 2)), .string (mkB (kindL 3))])[k.toNat]? by simp [World.cell?, h']]
  rcases (by omega : k = 0 ∨ k = 1 ∨ k = 2 ∨ k = 3) with rfl | rfl | rfl | rfl <;> rfl
end Go.Proofs.YthnkjfgiclolaaaGreatDoor
