/- A flow that came in by value is one: its key and its numbers. -/
import Derived.Test.YtbncegjnjlokmaaDoorOpenKy
import Derived.Test.YtbncegjnjlokmaaDoorMgC
import Derived.OpenShut
namespace Go.Proofs.YtbncegjnjlokmaaDoor
open Go.ChangeShapes Go.WideShapes Go.ChangeAt Go.RowKit Go.Joins Go.Deep
set_option linter.unusedVariables false

theorem list15 {α : Type} {cs : List α} (h : cs.length = 15) : ∃ c0 c1 c2 c3 c4 c5 c6 c7 c8 c9 c10 c11 c12 c13 c14, cs = [c0, c1, c2, c3, c4, c5, c6, c7, c8, c9, c10, c11, c12, c13, c14] := by
  match cs, h with
  | [c0, c1, c2, c3, c4, c5, c6, c7, c8, c9, c10, c11, c12, c13, c14], _ => exact ⟨c0, c1, c2, c3, c4, c5, c6, c7, c8, c9, c10, c11, c12, c13, c14, rfl⟩
theorem list8f {α : Type} {cs : List α} (h : cs.length = 8) : ∃ c0 c1 c2 c3 c4 c5 c6 c7, cs = [c0, c1, c2, c3, c4, c5, c6, c7] := by
  match cs, h with
  | [c0, c1, c2, c3, c4, c5, c6, c7], _ => exact ⟨c0, c1, c2, c3, c4, c5, c6, c7, rfl⟩
theorem list2f {α : Type} {cs : List α} (h : cs.length = 2) : ∃ c0 c1, cs = [c0, c1] := by
  match cs, h with
  | [c0, c1], _ => exact ⟨c0, c1, rfl⟩
theorem Tryd.cellsFl : Tryd.prog.cellsOf 27 = 15 := by kernel_rfl
theorem Tryd.cellsIf : Tryd.prog.cellsOf 3 = 1 := by kernel_rfl
theorem Tryd.cellsBf : Tryd.prog.cellsOf 4 = 1 := by kernel_rfl
theorem Tryd.cellsA2 : Tryd.prog.cellsOf 24 = 2 := by kernel_rfl
theorem Tryd.cellsB2 : Tryd.prog.cellsOf 25 = 2 := by kernel_rfl
section
variable {H : Type} {enc : TypeId × Value → H} {W : World} {fuel : Nat} {y : DataW H × List MemPlace}
set_option maxRecDepth 100000 in
theorem open_kycells {c0 c1 c2 c3 c4 : Value} (h : DataW.trod enc Tryd.prog W 0 (fun _ => true) true fuel 23 [c0, c1, c2, c3, c4] = some y) : ∃ k : Ky, c0 = .int .i64 k.kind ∧ c1 = .int .i64 k.src ∧ c2 = .int .i64 k.frm ∧ c3 = .int .i64 k.dst ∧ c4 = .int .i64 k.too := by
  obtain ⟨d0, d1, d2, d3, d4, y0, y1, y2, y3, y4, n, e, hx, h0, h1, h2, h3, h4⟩ := open_struct5 Tryd.underlying23 (by kernel_rfl) Tryd.cellsKy h
  simp only [List.cons.injEq, and_true] at e
  obtain ⟨rfl, rfl, rfl, rfl, rfl⟩ := e
  obtain ⟨n0, e0, _, _⟩ := DataW.trod_int Tryd.underlying3 h0
  obtain ⟨n1, e1, _, _⟩ := DataW.trod_int Tryd.underlying3 h1
  obtain ⟨n2, e2, _, _⟩ := DataW.trod_int Tryd.underlying3 h2
  obtain ⟨n3, e3, _, _⟩ := DataW.trod_int Tryd.underlying3 h3
  obtain ⟨n4, e4, _, _⟩ := DataW.trod_int Tryd.underlying3 h4
  simp only [List.cons.injEq, and_true] at e0 e1 e2 e3 e4
  exact ⟨{ kind := n0, src := n1, frm := n2, dst := n3, too := n4 }, e0, e1, e2, e3, e4⟩
set_option maxRecDepth 100000 in
theorem open_ar2 {c0 c1 : Value} (h : DataW.trod enc Tryd.prog W 0 (fun _ => true) true fuel 24 [c0, c1] = some y) : ∃ a b : Int, c0 = .int .i64 a ∧ c1 = .int .i64 b := by
  obtain ⟨xs, m, _, hx, hl, hlen, hf⟩ := DataW.trod_array Tryd.underlying24 h
  obtain ⟨z0, z1, rfl⟩ := list2f hlen
  have g0 := hf 0 (by omega)
  have g1 := hf 1 (by omega)
  rw [Tryd.cellsIf] at g0 g1
  have g0' : DataW.trod enc Tryd.prog W 0 (fun _ => true) true m 3 [c0] = some z0 := g0
  have g1' : DataW.trod enc Tryd.prog W 0 (fun _ => true) true m 3 [c1] = some z1 := g1
  obtain ⟨i0, e0, _, _⟩ := DataW.trod_int Tryd.underlying3 g0'
  obtain ⟨i1, e1, _, _⟩ := DataW.trod_int Tryd.underlying3 g1'
  simp only [List.cons.injEq, and_true] at e0 e1
  exact ⟨i0, i1, e0, e1⟩
set_option maxRecDepth 100000 in
theorem open_ab2 {c0 c1 : Value} (h : DataW.trod enc Tryd.prog W 0 (fun _ => true) true fuel 25 [c0, c1] = some y) : ∃ a b : Bool, c0 = .bool a ∧ c1 = .bool b := by
  obtain ⟨xs, m, _, hx, hl, hlen, hf⟩ := DataW.trod_array Tryd.underlying25 h
  obtain ⟨z0, z1, rfl⟩ := list2f hlen
  have g0 := hf 0 (by omega)
  have g1 := hf 1 (by omega)
  rw [Tryd.cellsBf] at g0 g1
  have g0' : DataW.trod enc Tryd.prog W 0 (fun _ => true) true m 4 [c0] = some z0 := g0
  have g1' : DataW.trod enc Tryd.prog W 0 (fun _ => true) true m 4 [c1] = some z1 := g1
  obtain ⟨i0, e0, _⟩ := DataW.trod_bool Tryd.underlying4 g0'
  obtain ⟨i1, e1, _⟩ := DataW.trod_bool Tryd.underlying4 g1'
  simp only [List.cons.injEq, and_true] at e0 e1
  exact ⟨i0, i1, e0, e1⟩
set_option maxRecDepth 100000 in
theorem open_flcells {cs : List Value} (h : DataW.trod enc Tryd.prog W 0 (fun _ => true) true fuel 27 cs = some y) : ∃ f : Fl, cs = [.int .i64 f.key.kind, .int .i64 f.key.src, .int .i64 f.key.frm, .int .i64 f.key.dst, .int .i64 f.key.too, .int .i64 f.st, .int .i64 f.unt, .int .i64 f.stp, .int .i64 f.h0, .int .i64 f.h1, .int .i64 f.w0, .int .i64 f.w1, .bool f.d0, .bool f.d1, .int .i64 f.num] := by
  obtain ⟨xs, n, _, rfl, hl, hlen, hf⟩ := DataW.trod_struct Tryd.underlying27 h
  obtain ⟨c0, c1, c2, c3, c4, c5, c6, c7, c8, c9, c10, c11, c12, c13, c14, rfl⟩ := list15 (hl.trans Tryd.cellsFl)
  obtain ⟨y0, y1, y2, y3, y4, y5, y6, y7, rfl⟩ := list8f (α := DataW H × List MemPlace) (cs := xs) hlen
  have h0 : DataW.trod enc Tryd.prog W 0 (fun _ => true) true n 23 (List.take (Tryd.prog.cellsOf 23) [c0, c1, c2, c3, c4, c5, c6, c7, c8, c9, c10, c11, c12, c13, c14]) = some y0 := hf 0 _ rfl
  have h1 : DataW.trod enc Tryd.prog W 0 (fun _ => true) true n 3 (List.take (Tryd.prog.cellsOf 3) [c5, c6, c7, c8, c9, c10, c11, c12, c13, c14]) = some y1 := hf 1 _ rfl
  have h2 : DataW.trod enc Tryd.prog W 0 (fun _ => true) true n 3 (List.take (Tryd.prog.cellsOf 3) [c6, c7, c8, c9, c10, c11, c12, c13, c14]) = some y2 := hf 2 _ rfl
  have h3 : DataW.trod enc Tryd.prog W 0 (fun _ => true) true n 3 (List.take (Tryd.prog.cellsOf 3) [c7, c8, c9, c10, c11, c12, c13, c14]) = some y3 := hf 3 _ rfl
  have h4 : DataW.trod enc Tryd.prog W 0 (fun _ => true) true n 24 (List.take (Tryd.prog.cellsOf 24) [c8, c9, c10, c11, c12, c13, c14]) = some y4 := hf 4 _ rfl
  have h5 : DataW.trod enc Tryd.prog W 0 (fun _ => true) true n 24 (List.take (Tryd.prog.cellsOf 24) [c10, c11, c12, c13, c14]) = some y5 := hf 5 _ rfl
  have h6 : DataW.trod enc Tryd.prog W 0 (fun _ => true) true n 25 (List.take (Tryd.prog.cellsOf 25) [c12, c13, c14]) = some y6 := hf 6 _ rfl
  have h7 : DataW.trod enc Tryd.prog W 0 (fun _ => true) true n 3 (List.take (Tryd.prog.cellsOf 3) [c14]) = some y7 := hf 7 _ rfl
  rw [Tryd.cellsKy] at h0
  rw [Tryd.cellsIf] at h1 h2 h3 h7
  rw [Tryd.cellsA2] at h4 h5
  rw [Tryd.cellsB2] at h6
  obtain ⟨k, e0, e1, e2, e3, e4⟩ := open_kycells (c0 := c0) (c1 := c1) (c2 := c2) (c3 := c3) (c4 := c4) h0
  obtain ⟨n1, e5, _, _⟩ := DataW.trod_int Tryd.underlying3 h1
  obtain ⟨n2, e6, _, _⟩ := DataW.trod_int Tryd.underlying3 h2
  obtain ⟨n3, e7, _, _⟩ := DataW.trod_int Tryd.underlying3 h3
  obtain ⟨a8, a9, e8, e9⟩ := open_ar2 (c0 := c8) (c1 := c9) h4
  obtain ⟨a10, a11, e10, e11⟩ := open_ar2 (c0 := c10) (c1 := c11) h5
  obtain ⟨b12, b13, e12, e13⟩ := open_ab2 (c0 := c12) (c1 := c13) h6
  obtain ⟨n7, e14, _, _⟩ := DataW.trod_int Tryd.underlying3 h7
  simp at e5 e6 e7 e14
  subst e0 e1 e2 e3 e4 e5 e6 e7 e8 e9 e10 e11 e12 e13 e14
  exact ⟨{ key := k, st := n1, unt := n2, stp := n3, h0 := a8, h1 := a9, w0 := a10, w1 := a11, d0 := b12, d1 := b13, num := n7 }, rfl⟩
end
set_option maxRecDepth 100000 in
/-- A flow by value. -/
theorem open_fl {H : Type} {enc : TypeId × Value → H} {W : World} {r : Reach} {b0 : Nat} {v : Value} {d : DataW H} {p : List MemPlace}
    (hv : Value.okWide Tryd.prog W r b0 27 v) (h : DataW.Trod enc Tryd.prog W 0 (fun _ => true) true 27 v d p) : ∃ f : Fl, v = flV f := by
  obtain ⟨cs, rfl, hcs⟩ := okWide_struct Tryd.underlying27 hv
  obtain ⟨fuel, hf⟩ := h
  obtain ⟨f, e⟩ := open_flcells hf
  refine ⟨f, ?_⟩
  have e' : cs.toList = [.int .i64 f.key.kind, .int .i64 f.key.src, .int .i64 f.key.frm, .int .i64 f.key.dst, .int .i64 f.key.too, .int .i64 f.st, .int .i64 f.unt, .int .i64 f.stp, .int .i64 f.h0, .int .i64 f.h1, .int .i64 f.w0, .int .i64 f.w1, .bool f.d0, .bool f.d1, .int .i64 f.num] := e
  unfold flV
  rw [← e', Array.toArray_toList]
end Go.Proofs.YtbncegjnjlokmaaDoor
