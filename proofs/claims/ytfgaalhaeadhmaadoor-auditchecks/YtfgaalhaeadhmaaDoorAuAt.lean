/- An event as a value ('evV'), in a block of its own ('EvAt'), and in a slice that came in ('Evs'). -/
import Derived.Test.YtfgaalhaeadhmaaDoorAuMath
import Derived.WalkKit
import Derived.Below
import Derived.WalkSmall
import Derived.Laws.Tables
import Derived.Laws.CopyOwn
import Derived.OwnWalk
namespace Go.Proofs.YtfgaalhaeadhmaaDoor
open Go.RowKit
set_option linter.unusedVariables false

theorem hidA {p : Prop} (h : p) : Hid p := h
def auV (e : Int) : Value := if e = 0 then .nilIface else .iface 73 (.int .i64 e)
theorem auV_ne {e : Int} (h : ¬ e = 0) : auV e = .iface 73 (.int .i64 e) := if_neg h
def evV (e : Ev) : Value := .agg #[.int .i64 e.time, .int .i64 e.node, .int .i64 e.what, .int .i64 e.key.kind, .int .i64 e.key.src, .int .i64 e.key.frm, .int .i64 e.key.dst, .int .i64 e.key.too]
def EvAt (w : World) (b : Nat) (e : Ev) : Prop := w.heap[b]? = some (.cells #[.int .i64 e.time, .int .i64 e.node, .int .i64 e.what, .int .i64 e.key.kind, .int .i64 e.key.src, .int .i64 e.key.frm, .int .i64 e.key.dst, .int .i64 e.key.too] 54 (0, 0))
theorem EvAt.lt {w : World} {b : Nat} {p : Ev} (h : EvAt w b p) : b < w.heap.size := by
  rcases Nat.lt_or_ge b w.heap.size with h1 | h1
  · exact h1
  · unfold EvAt at h; simp [Array.getElem?_eq_none h1] at h
theorem EvAt.new (w : World) (e : Ev) : EvAt (w.alloc (.cells #[.int .i64 e.time, .int .i64 e.node, .int .i64 e.what, .int .i64 e.key.kind, .int .i64 e.key.src, .int .i64 e.key.frm, .int .i64 e.key.dst, .int .i64 e.key.too] 54)) w.heap.size e := heap_alloc_new w _
theorem EvAt.drewN {w : World} {b : Nat} {p : Ev} (h : EvAt w b p) (n : Nat) : EvAt (w.drewN n) b p := h
theorem EvAt.below {w w' : World} {b B : Nat} {p : Ev} (h : EvAt w b p) (hB : b < B) (hb : Below B w w') : EvAt w' b p := by
  unfold EvAt; rw [hb.block b hB]; exact h
theorem EvAt.alloc {w : World} {b : Nat} {p : Ev} (h : EvAt w b p) (o : Obj) : EvAt (w.alloc o) b p := h.below h.lt ((Below.refl _ _).alloc (Nat.le_refl _) _)
theorem EvAt.free {w : World} {b : Nat} {p : Ev} (h : EvAt w b p) (j : Nat) : w.frozen? ⟨b, j, none⟩ = false := frozen_of_row w b j _ _ h
theorem EvAt.cells {w : World} {b : Nat} {p : Ev} (h : EvAt w b p) :
    w.cell? ⟨b, 0, none⟩ = some (.int .i64 p.time) ∧ w.cell? ⟨b, 1, none⟩ = some (.int .i64 p.node) ∧ w.cell? ⟨b, 2, none⟩ = some (.int .i64 p.what) ∧ w.cell? ⟨b, 3, none⟩ = some (.int .i64 p.key.kind) ∧ w.cell? ⟨b, 4, none⟩ = some (.int .i64 p.key.src) ∧ w.cell? ⟨b, 5, none⟩ = some (.int .i64 p.key.frm) ∧ w.cell? ⟨b, 6, none⟩ = some (.int .i64 p.key.dst) ∧ w.cell? ⟨b, 7, none⟩ = some (.int .i64 p.key.too) := by
  refine ⟨?_, ?_, ?_, ?_, ?_, ?_, ?_, ?_⟩ <;> (rw [cell_of_row w b _ _ _ _ h]; rfl)
/-- An event in eight cells. -/
def EvCells (w : World) (b o : Nat) (e : Ev) : Prop :=
  w.cell? ⟨b, o, none⟩ = some (.int .i64 e.time) ∧ w.cell? ⟨b, o + 1, none⟩ = some (.int .i64 e.node) ∧ w.cell? ⟨b, o + 2, none⟩ = some (.int .i64 e.what) ∧ w.cell? ⟨b, o + 3, none⟩ = some (.int .i64 e.key.kind) ∧ w.cell? ⟨b, o + 4, none⟩ = some (.int .i64 e.key.src) ∧ w.cell? ⟨b, o + 5, none⟩ = some (.int .i64 e.key.frm) ∧ w.cell? ⟨b, o + 6, none⟩ = some (.int .i64 e.key.dst) ∧ w.cell? ⟨b, o + 7, none⟩ = some (.int .i64 e.key.too)
/-- The value v is a slice of these events. -/
def Evs (w : World) (v : Value) (es : List Ev) : Prop :=
  (es = [] ∧ ∃ a cap, v = .slice a 0 cap) ∨
  ∃ b off len cap, v = .slice (some ⟨b, off, none⟩) len cap ∧ len ≤ cap ∧ cap ≤ maxLen ∧ es.length = len ∧ ∀ i (h : i < es.length), EvCells w b (off + i * 8) es[i]
theorem EvCells.lt {w : World} {b o : Nat} {f : Ev} (h : EvCells w b o f) : b < w.heap.size := by
  rcases Nat.lt_or_ge b w.heap.size with h1 | h1
  · exact h1
  · have := h.1; simp [World.cell?, Array.getElem?_eq_none h1] at this
theorem EvCells.blk {w w' : World} {b o : Nat} {f : Ev} (h : EvCells w b o f) (hb : w'.heap[b]? = w.heap[b]?) : EvCells w' b o f := by
  have hc : ∀ i, w'.cell? ⟨b, i, none⟩ = w.cell? ⟨b, i, none⟩ := fun i => by simp [World.cell?, hb]
  obtain ⟨h0, h1, h2, h3, h4, h5, h6, h7⟩ := h
  exact ⟨(hc _).trans h0, (hc _).trans h1, (hc _).trans h2, (hc _).trans h3, (hc _).trans h4, (hc _).trans h5, (hc _).trans h6, (hc _).trans h7⟩
theorem EvCells.below {w w' : World} {b o : Nat} {f : Ev} (h : EvCells w b o f) (hb : Below w.heap.size w w') : EvCells w' b o f := h.blk (hb.block _ h.lt)
theorem Evs.below {w w' : World} {v : Value} {es : List Ev} (h : Evs w v es) (hb : Below w.heap.size w w') : Evs w' v es := by
  rcases h with h | ⟨b, off, len, cap, e, h1, h2, h3, h4⟩
  · exact .inl h
  · exact .inr ⟨b, off, len, cap, e, h1, h2, h3, fun i hi => (h4 i hi).below hb⟩
theorem Evs.len {w : World} {v : Value} {es : List Ev} (h : Evs w v es) : ∃ a cap, v = .slice a es.length cap := by
  rcases h with ⟨rfl, a, cap, rfl⟩ | ⟨b, off, len, cap, rfl, _, _, rfl, _⟩
  · exact ⟨a, cap, rfl⟩
  · exact ⟨_, _, rfl⟩
theorem Evs.capOk {w : World} {a : Option Addr} {n cap : Nat} {es : List Ev} (h : Evs w (.slice a n cap) es) (h0 : 0 < n) : n ≤ cap ∧ cap ≤ maxLen ∧ ∃ b off, a = some ⟨b, off, none⟩ := by
  rcases h with ⟨rfl, a', cap', e⟩ | ⟨b, off, len, cap', e, h1, h2, rfl, h4⟩
  · simp only [Value.slice.injEq] at e
    omega
  · simp only [Value.slice.injEq] at e
    obtain ⟨rfl, rfl, rfl⟩ := e
    exact ⟨h1, h2, b, off, rfl⟩
theorem Evs.cells {w : World} {b off n cap : Nat} {es : List Ev} (h : Evs w (.slice (some ⟨b, off, none⟩) n cap) es) (i : Nat) (hi : i < es.length) : EvCells w b (off + i * 8) es[i] := by
  rcases h with ⟨rfl, _⟩ | ⟨b', off', len, cap', e, h1, h2, rfl, h4⟩
  · simp at hi
  · simp only [Value.slice.injEq, Option.some.injEq, Addr.mk.injEq] at e
    obtain ⟨⟨rfl, rfl, _⟩, rfl, rfl⟩ := e
    exact h4 i hi
/-- The first m of a slice's events. -/
theorem Evs.take {w : World} {a : Option Addr} {n cap : Nat} {es : List Ev} (h : Evs w (.slice a n cap) es) (m : Nat) (hm : m ≤ es.length) : Evs w (.slice a m cap) (es.take m) := by
  rcases h with ⟨rfl, a', cap', e⟩ | ⟨b, off, len, cap', e, h1, h2, rfl, h4⟩
  · simp only [List.length_nil] at hm
    obtain rfl : m = 0 := by omega
    exact .inl ⟨by simp, a, cap, rfl⟩
  · simp only [Value.slice.injEq] at e
    obtain ⟨rfl, rfl, rfl⟩ := e
    refine .inr ⟨b, off, m, cap, rfl, by omega, h2, by rw [List.length_take]; omega, fun i hi => ?_⟩
    rw [List.getElem_take]
    exact h4 i _
theorem Evs.nilOk (w : World) : Evs w (.slice none 0 0) [] := .inl ⟨rfl, _, _, rfl⟩
theorem Tryd.evFields : Tryd.prog.fieldsOf 54 = Tryd.prog.fieldsOf 54 := rfl
end Go.Proofs.YtfgaalhaeadhmaaDoor
