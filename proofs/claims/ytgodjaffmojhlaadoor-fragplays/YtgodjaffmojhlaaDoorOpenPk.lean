/- Packets that came in, one by value or many in a slice, are packets: their numbers, and the bytes of their bodies. -/
import Derived.Test.YtgodjaffmojhlaaDoorOpen
import Derived.Test.YtgodjaffmojhlaaDoorMgA
import Derived.Test.YtgodjaffmojhlaaDoorWirePk
import Derived.Lib.SmallJoins
import Derived.Deep.Slices
import Derived.SizedLaws
namespace Go.Proofs.YtgodjaffmojhlaaDoor
open Go.ChangeShapes Go.WideShapes Go.ChangeAt Go.RowKit Go.Joins Go.Deep
set_option linter.unusedVariables false

theorem list8 {α : Type} {cs : List α} (h : cs.length = 8) : ∃ c0 c1 c2 c3 c4 c5 c6 c7, cs = [c0, c1, c2, c3, c4, c5, c6, c7] := by
  match cs, h with
  | [c0, c1, c2, c3, c4, c5, c6, c7], _ => exact ⟨c0, c1, c2, c3, c4, c5, c6, c7, rfl⟩
section
variable {H : Type} {enc : TypeId × Value → H} {P : Program} {w : World} {base : Nat} {spare : Nat → Bool} {held : Bool}
set_option maxRecDepth 100000 in
theorem open_struct8 {t : TypeId} {f0 f1 f2 f3 f4 f5 f6 f7 : Field} {fuel : Nat} {cs : List Value} {x : DataW H × List MemPlace} (ht : P.underlying t = some (.struct #[f0, f1, f2, f3, f4, f5, f6, f7])) (hone : oneCellFields P #[f0, f1, f2, f3, f4, f5, f6, f7] = true) (hC : P.cellsOf t = 8) (h : DataW.trod enc P w base spare held fuel t cs = some x) :
    ∃ (c0 c1 c2 c3 c4 c5 c6 c7 : Value) (y0 y1 y2 y3 y4 y5 y6 y7 : DataW H × List MemPlace) (n : Nat), cs = [c0, c1, c2, c3, c4, c5, c6, c7] ∧ x.1 = .agg [y0.1, y1.1, y2.1, y3.1, y4.1, y5.1, y6.1, y7.1] ∧
      DataW.trod enc P w base spare held n f0.type [c0] = some y0 ∧ DataW.trod enc P w base spare held n f1.type [c1] = some y1 ∧ DataW.trod enc P w base spare held n f2.type [c2] = some y2 ∧ DataW.trod enc P w base spare held n f3.type [c3] = some y3 ∧ DataW.trod enc P w base spare held n f4.type [c4] = some y4 ∧ DataW.trod enc P w base spare held n f5.type [c5] = some y5 ∧ DataW.trod enc P w base spare held n f6.type [c6] = some y6 ∧ DataW.trod enc P w base spare held n f7.type [c7] = some y7 := by
  obtain ⟨xs, n, _, rfl, hl, hlen, hf⟩ := DataW.trod_struct ht h
  obtain ⟨c0, c1, c2, c3, c4, c5, c6, c7, rfl⟩ := list8 (hl.trans hC)
  obtain ⟨y0, y1, y2, y3, y4, y5, y6, y7, rfl⟩ := list8 (α := DataW H × List MemPlace) (cs := xs) hlen
  obtain ⟨o0, k0⟩ := hone_of hone 0 f0 rfl
  obtain ⟨o1, k1⟩ := hone_of hone 1 f1 rfl
  obtain ⟨o2, k2⟩ := hone_of hone 2 f2 rfl
  obtain ⟨o3, k3⟩ := hone_of hone 3 f3 rfl
  obtain ⟨o4, k4⟩ := hone_of hone 4 f4 rfl
  obtain ⟨o5, k5⟩ := hone_of hone 5 f5 rfl
  obtain ⟨o6, k6⟩ := hone_of hone 6 f6 rfl
  obtain ⟨o7, k7⟩ := hone_of hone 7 f7 rfl
  have h0 := hf 0 f0 rfl
  have h1 := hf 1 f1 rfl
  have h2 := hf 2 f2 rfl
  have h3 := hf 3 f3 rfl
  have h4 := hf 4 f4 rfl
  have h5 := hf 5 f5 rfl
  have h6 := hf 6 f6 rfl
  have h7 := hf 7 f7 rfl
  rw [o0, k0] at h0
  rw [o1, k1] at h1
  rw [o2, k2] at h2
  rw [o3, k3] at h3
  rw [o4, k4] at h4
  rw [o5, k5] at h5
  rw [o6, k6] at h6
  rw [o7, k7] at h7
  exact ⟨c0, c1, c2, c3, c4, c5, c6, c7, y0, y1, y2, y3, y4, y5, y6, y7, n, rfl, rfl, h0, h1, h2, h3, h4, h5, h6, h7⟩
end

theorem Tryd.cellsPk : Tryd.prog.cellsOf 40 = 8 := by kernel_rfl
/-- A body that came in. -/
theorem open_body {H : Type} {enc : TypeId × Value → H} {W : World} {fuel : Nat} {cs : List Value} {y : DataW H × List MemPlace} (hf : DataW.trod enc Tryd.prog W 0 (fun _ => true) true fuel 38 cs = some y)
    (hw : ∀ n ∈ y.1.weights Tryd.prog 38, n ≤ reachBytes) : ∃ bv zs, cs = [bv] ∧ Bytes W bv zs := by
  rcases open_ints Tryd.underlying38 Tryd.underlying5 (by kernel_rfl) hf with ⟨hcs, _⟩ | ⟨x, len, cap, zs, hcs, _, hl, hm, hz, hx, hcell, hwz⟩
  · exact ⟨_, [], hcs, .inl ⟨rfl, _, _, rfl, fun _ => rfl⟩⟩
  · have hz' : zs.length = cap := by simpa using hz
    subst hx
    have hb := hw _ (by simp only [DataW.weights, Tryd.underlying38]; exact List.mem_cons_self)
    rw [show Tryd.prog.bytesOf 5 = 1 by kernel_rfl] at hb
    have hcap : cap ≤ reachBytes := by simpa [lits, hz', Nat.min_eq_left hl, Nat.add_sub_cancel' hl] using hb
    have hcb : reachBytes < 2 ^ 47 := reachBytes_lt
    refine ⟨_, zs.take len, hcs, ?_⟩
    by_cases h0 : len = 0
    · subst h0
      exact .inl ⟨by simp, _, _, rfl, fun h => by cases h⟩
    · obtain ⟨b, off, spot⟩ := x
      have hc := hcell 0 (by omega)
      have hspot : spot = none := by simpa [Addr.add] using World.cell?_spot hc
      subst hspot
      refine .inr ⟨b, off, len, cap, rfl, hl, hm, by omega, by simp; omega, fun i hi => ?_, fun n hn => u8_wf (hwz n (List.mem_of_mem_take hn))⟩
      have hi' : i < len := by simp at hi; omega
      have := hcell i (by omega)
      have ea : Addr.add ⟨b, off, none⟩ i = ⟨b, off + i, none⟩ := by by_cases hi0 : i = 0 <;> simp [Addr.add, hi0]
      rw [ea] at this
      rw [this]
      congr 2
      simp [List.getD, hi']
set_option maxRecDepth 100000 in
theorem open_pkcells {H : Type} {enc : TypeId × Value → H} {W : World} {fuel : Nat} {cs : List Value} {x : DataW H × List MemPlace} (hf : DataW.trod enc Tryd.prog W 0 (fun _ => true) true fuel 40 cs = some x)
    (hw : ∀ n ∈ x.1.weights Tryd.prog 40, n ≤ reachBytes) :
    ∃ (p : Pk) (bv : Value), cs = [.int .i64 p.kind, .int .i64 p.ttl, .int .i64 p.ident, .int .i64 p.src, .int .i64 p.dst, .int .i64 p.pos, .bool p.more, bv] ∧ Bytes W bv p.body := by
  obtain ⟨c0, c1, c2, c3, c4, c5, c6, c7, y0, y1, y2, y3, y4, y5, y6, y7, n, rfl, hx, h0, h1, h2, h3, h4, h5, h6, h7⟩ := open_struct8 Tryd.underlying40 (by kernel_rfl) Tryd.cellsPk hf
  have hw7 : ∀ n ∈ y7.1.weights Tryd.prog 38, n ≤ reachBytes := by
    intro m hm
    refine hw m ?_
    rw [hx]
    simp only [DataW.weights, Tryd.underlying40]
    exact DataW.weights_mem_each (j := 7) rfl rfl m hm
  obtain ⟨n0, e0, _, _⟩ := DataW.trod_int Tryd.underlying3 h0
  obtain ⟨n1, e1, _, _⟩ := DataW.trod_int Tryd.underlying3 h1
  obtain ⟨n2, e2, _, _⟩ := DataW.trod_int Tryd.underlying3 h2
  obtain ⟨n3, e3, _, _⟩ := DataW.trod_int Tryd.underlying3 h3
  obtain ⟨n4, e4, _, _⟩ := DataW.trod_int Tryd.underlying3 h4
  obtain ⟨n5, e5, _, _⟩ := DataW.trod_int Tryd.underlying3 h5
  obtain ⟨m6, e6, _⟩ := DataW.trod_bool Tryd.underlying4 h6
  obtain ⟨bv, zs, e7, hb⟩ := open_body h7 hw7
  simp only [List.cons.injEq, and_true] at e0 e1 e2 e3 e4 e5 e6 e7
  subst e0 e1 e2 e3 e4 e5 e6 e7
  exact ⟨{ kind := n0, ttl := n1, ident := n2, src := n3, dst := n4, pos := n5, more := m6, body := zs }, _, rfl, hb⟩
set_option maxRecDepth 100000 in
/-- A packet by value. -/
theorem open_pk {H : Type} {enc : TypeId × Value → H} {W : World} {r : Reach} {b0 : Nat} {v : Value} {d : DataW H} {p : List MemPlace} {ts : List TypeId} {ds : List (DataW H)} {j : Nat}
    (hv : Value.okWide Tryd.prog W r b0 40 v) (h : DataW.Trod enc Tryd.prog W 0 (fun _ => true) true 40 v d p)
    (hsz : (DataW.weightsEach Tryd.prog ts ds).all (· ≤ reachBytes) = true) (ht : ts[j]? = some 40) (hd : ds[j]? = some d) :
    ∃ (p : Pk) (bv : Value), v = pkV p bv ∧ Bytes W bv p.body := by
  obtain ⟨cs, rfl, hcs⟩ := okWide_struct Tryd.underlying40 hv
  obtain ⟨fuel, hf⟩ := h
  have hw : ∀ n ∈ d.weights Tryd.prog 40, n ≤ reachBytes := by
    intro n hn
    have := List.all_eq_true.1 hsz _ (DataW.weights_mem_each ht hd n hn)
    simpa using this
  obtain ⟨q, bv, e, hb⟩ := open_pkcells hf hw
  refine ⟨q, bv, ?_, hb⟩
  have e' : cs.toList = [.int .i64 q.kind, .int .i64 q.ttl, .int .i64 q.ident, .int .i64 q.src, .int .i64 q.dst, .int .i64 q.pos, .bool q.more, bv] := e
  unfold pkV
  rw [← e', Array.toArray_toList]
theorem mem_weightsAll {H : Type} {P : Program} {e : TypeId} : ∀ {l : List (DataW H)} {d : DataW H}, d ∈ l → ∀ n ∈ d.weights P e, n ∈ DataW.weightsAll P e l
  | [], d, h, n, hn => by cases h
  | a :: l, d, h, n, hn => by
      rcases List.mem_cons.1 h with rfl | h
      · simp only [DataW.weightsAll, List.mem_append]; exact .inl hn
      · simp only [DataW.weightsAll, List.mem_append]; exact .inr (mem_weightsAll h n hn)
end Go.Proofs.YtgodjaffmojhlaaDoor
