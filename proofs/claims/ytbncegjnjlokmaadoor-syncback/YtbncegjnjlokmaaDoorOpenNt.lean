/- A note that came in by value is one: its numbers and its flow. -/
import Derived.Test.YtbncegjnjlokmaaDoorOpenFl
import Derived.Test.YtbncegjnjlokmaaDoorSynAt
namespace Go.Proofs.YtbncegjnjlokmaaDoor
open Go.ChangeShapes Go.WideShapes Go.ChangeAt Go.RowKit Go.Joins Go.Deep
set_option linter.unusedVariables false

theorem list17 {α : Type} {cs : List α} (h : cs.length = 17) : ∃ c0 c1 c2 c3 c4 c5 c6 c7 c8 c9 c10 c11 c12 c13 c14 c15 c16, cs = [c0, c1, c2, c3, c4, c5, c6, c7, c8, c9, c10, c11, c12, c13, c14, c15, c16] := by
  match cs, h with
  | [c0, c1, c2, c3, c4, c5, c6, c7, c8, c9, c10, c11, c12, c13, c14, c15, c16], _ => exact ⟨c0, c1, c2, c3, c4, c5, c6, c7, c8, c9, c10, c11, c12, c13, c14, c15, c16, rfl⟩
theorem list3n {α : Type} {cs : List α} (h : cs.length = 3) : ∃ c0 c1 c2, cs = [c0, c1, c2] := by
  match cs, h with
  | [c0, c1, c2], _ => exact ⟨c0, c1, c2, rfl⟩
theorem Tryd.cellsNt : Tryd.prog.cellsOf 29 = 17 := by kernel_rfl
section
variable {H : Type} {enc : TypeId × Value → H} {W : World} {fuel : Nat} {y : DataW H × List MemPlace}
set_option maxRecDepth 100000 in
theorem open_ntcells {cs : List Value} (h : DataW.trod enc Tryd.prog W 0 (fun _ => true) true fuel 29 cs = some y) : ∃ n : Nt, cs = [.int .i64 n.what, .int .i64 n.seq, .int .i64 n.fl.key.kind, .int .i64 n.fl.key.src, .int .i64 n.fl.key.frm, .int .i64 n.fl.key.dst, .int .i64 n.fl.key.too, .int .i64 n.fl.st, .int .i64 n.fl.unt, .int .i64 n.fl.stp, .int .i64 n.fl.h0, .int .i64 n.fl.h1, .int .i64 n.fl.w0, .int .i64 n.fl.w1, .bool n.fl.d0, .bool n.fl.d1, .int .i64 n.fl.num] := by
  obtain ⟨xs, n, _, rfl, hl, hlen, hf⟩ := DataW.trod_struct Tryd.underlying29 h
  obtain ⟨c0, c1, c2, c3, c4, c5, c6, c7, c8, c9, c10, c11, c12, c13, c14, c15, c16, rfl⟩ := list17 (hl.trans Tryd.cellsNt)
  obtain ⟨y0, y1, y2, rfl⟩ := list3n (α := DataW H × List MemPlace) (cs := xs) hlen
  have h0 : DataW.trod enc Tryd.prog W 0 (fun _ => true) true n 3 (List.take (Tryd.prog.cellsOf 3) [c0, c1, c2, c3, c4, c5, c6, c7, c8, c9, c10, c11, c12, c13, c14, c15, c16]) = some y0 := hf 0 _ rfl
  have h1 : DataW.trod enc Tryd.prog W 0 (fun _ => true) true n 3 (List.take (Tryd.prog.cellsOf 3) [c1, c2, c3, c4, c5, c6, c7, c8, c9, c10, c11, c12, c13, c14, c15, c16]) = some y1 := hf 1 _ rfl
  have h2 : DataW.trod enc Tryd.prog W 0 (fun _ => true) true n 27 (List.take (Tryd.prog.cellsOf 27) [c2, c3, c4, c5, c6, c7, c8, c9, c10, c11, c12, c13, c14, c15, c16]) = some y2 := hf 2 _ rfl
  rw [Tryd.cellsIf] at h0 h1
  rw [Tryd.cellsFl] at h2
  obtain ⟨n0, e0, _, _⟩ := DataW.trod_int Tryd.underlying3 h0
  obtain ⟨n1, e1, _, _⟩ := DataW.trod_int Tryd.underlying3 h1
  obtain ⟨f, e2⟩ := open_flcells h2
  simp at e0 e1
  have e3 : [c2, c3, c4, c5, c6, c7, c8, c9, c10, c11, c12, c13, c14, c15, c16] = _ := e2
  refine ⟨{ what := n0, seq := n1, fl := f }, ?_⟩
  rw [e0, e1, e3]
end
set_option maxRecDepth 100000 in
/-- A note by value. -/
theorem open_nt {H : Type} {enc : TypeId × Value → H} {W : World} {r : Reach} {b0 : Nat} {v : Value} {d : DataW H} {p : List MemPlace}
    (hv : Value.okWide Tryd.prog W r b0 29 v) (h : DataW.Trod enc Tryd.prog W 0 (fun _ => true) true 29 v d p) : ∃ n : Nt, v = ntV n := by
  obtain ⟨cs, rfl, hcs⟩ := okWide_struct Tryd.underlying29 hv
  obtain ⟨fuel, hf⟩ := h
  obtain ⟨n, e⟩ := open_ntcells hf
  refine ⟨n, ?_⟩
  have e' : cs.toList = _ := e
  unfold ntV
  rw [← e', Array.toArray_toList]
end Go.Proofs.YtbncegjnjlokmaaDoor
