/- A strings.Builder that holds some bytes ('BldAt'): WriteString, String, Len. -/
import Derived.Test.YtjhofmmmlemfcaaDoorRuleBld
import Derived.Test.YtjhofmmmlemfcaaDoorTxt
import Derived.Test.YtjhofmmmlemfcaaDoorTurnT
import Derived.Deep.DeepMust
import Derived.Laws.Rows
namespace Go.Proofs.YtjhofmmmlemfcaaDoor
open Go.RowKit
set_option linter.unusedVariables false
set_option maxRecDepth 10000

/-- The builder at bb holds bs, from block B on. -/
def BldAt (w : World) (B bb : Nat) (bs : List UInt8) : Prop := Lib.IsBuilderF 58 5 B bb (Lib.byteCells bs) w
theorem BldAt.keep {w w' : World} {B bb : Nat} {bs : List UInt8} (h : BldAt w B bb bs) (hb : Below w.heap.size w w') : BldAt w' B bb bs := by
  have one : ∀ {p : Value}, Lib.BuilderAtF 58 5 B bb p (Lib.byteCells bs) w → Lib.BuilderAtF 58 5 B bb p (Lib.byteCells bs) w' := by
    intro p h
    obtain ⟨h1, v, h2, h3, h4⟩ := h
    refine ⟨h1, v, (hb.block bb (Array.getElem?_eq_some_iff.1 h2).1).trans h2, ?_, h4⟩
    obtain ⟨k1, k2⟩ := h3
    refine ⟨k1, ?_⟩
    rcases k2 with k2 | ⟨g, cap, cur, fz, e, hg, hh, rest⟩
    · exact .inl k2
    · exact .inr ⟨g, cap, cur, fz, e, hg, (hb.block g (Array.getElem?_eq_some_iff.1 hh).1).trans hh, rest⟩
  rcases h with h | h
  · exact .inl (one h)
  · exact .inr (one h)
theorem strCells_mk (l : List UInt8) : Lib.strCells (mkB l) = Lib.byteCells l := rfl
/-- WriteString of some bytes. -/
theorem bldW (B bb : Nat) (bs l : List UInt8) (w : World) (h : BldAt w B bb bs) (hlen : bs.length + l.length ≤ 140737488355328) (hBw : B ≤ w.heap.size) :
    Calls Tryd.prog 30 #[.pointer (some ⟨bb, 0, none⟩), .string (mkB l)] w fun e w' => e = .returned (.tuple #[.int .i64 (l.length : Int), .nilIface]) ∧ BldAt w' B bb (bs ++ l) ∧ Below B w w' ∧ Lib.OthersKept 5 (some bb) w w' := by
  refine (wString_k B bb (Lib.byteCells bs) (mkB l) w h (by rw [Lib.byteCells_length, mkB_size]; exact hlen) hBw).mono ?_
  rintro e w' ⟨rfl, h1, h2, h3⟩
  refine ⟨by rw [mkB_size], .inr ?_, h2, h3⟩
  rw [strCells_mk] at h1
  unfold Lib.byteCells at h1 ⊢
  rw [List.map_append]
  exact h1
/-- Builder.String. -/
theorem bldS (B bb : Nat) (bs : List UInt8) (w : World) (h : BldAt w B bb bs) (hBw : B ≤ w.heap.size) :
    Calls Tryd.prog 33 #[.pointer (some ⟨bb, 0, none⟩)] w fun e w' => e = .returned (.string (mkB bs)) ∧ Below B w w' :=
  (Any.Builder_String_any_k (ρ := Tryd.lays156_ren) { Tryd.lays156 with } Tryd.Builder_Extra_156 B bb bs w h hBw).mono (by rintro e w' ⟨rfl, _, h, _⟩; exact ⟨rfl, h⟩)
theorem BldAt.new (w : World) : BldAt (w.alloc (.cells #[.pointer none, .slice none 0 0] 58)) w.heap.size w.heap.size [] :=
  .inl ⟨Nat.le_refl _, .slice none 0 0, heap_alloc_new w _, ⟨rfl, .inl ⟨rfl, rfl⟩⟩, by simp [Value.ownBlock]⟩
theorem BldAt.keepT {w w' : World} {B bb : Nat} {bs : List UInt8} (h : BldAt w B bb bs) (hk : ∀ k o, w.heap[k]? = some o → (k = bb ∨ ∃ c fz, o = .cells c 5 fz) → w'.heap[k]? = some o) : BldAt w' B bb bs := by
  have one : ∀ {p : Value}, Lib.BuilderAtF 58 5 B bb p (Lib.byteCells bs) w → Lib.BuilderAtF 58 5 B bb p (Lib.byteCells bs) w' := by
    intro p h
    obtain ⟨h1, v, h2, h3, h4⟩ := h
    refine ⟨h1, v, hk _ _ h2 (.inl rfl), ?_, h4⟩
    obtain ⟨k1, k2⟩ := h3
    refine ⟨k1, ?_⟩
    rcases k2 with k2 | ⟨g, cap, cur, fz, e, hg, hh, rest⟩
    · exact .inl k2
    · exact .inr ⟨g, cap, cur, fz, e, hg, hk _ _ hh (.inr ⟨_, _, rfl⟩), rest⟩
  rcases h with h | h
  · exact .inl (one h)
  · exact .inr (one h)
theorem BldAt.at {w : World} {B bb : Nat} {bs : List UInt8} (h : BldAt w B bb bs) : ∃ p v, w.heap[bb]? = some (.cells #[p, v] 58 (0, 0)) ∧ ∃ a c, v = .slice a bs.length c := by
  have one : ∀ {p : Value}, Lib.BuilderAtF 58 5 B bb p (Lib.byteCells bs) w → ∃ p v, w.heap[bb]? = some (.cells #[p, v] 58 (0, 0)) ∧ ∃ a c, v = .slice a bs.length c := by
    intro p h
    obtain ⟨h1, v, h2, h3, h4⟩ := h
    refine ⟨p, v, h2, ?_⟩
    obtain ⟨k1, k2⟩ := h3
    rcases k2 with ⟨rfl, h0⟩ | ⟨g, cap, cur, fz, e, _⟩
    · rw [Lib.byteCells_length] at h0; exact ⟨none, 0, by rw [h0]⟩
    · rw [Lib.byteCells_length] at e; exact ⟨_, _, e⟩
  rcases h with h | h
  · exact one h
  · exact one h
/-- Builder.String, with what it leaves. -/
theorem bldSk (B bb : Nat) (bs : List UInt8) (w : World) (h : BldAt w B bb bs) (hBw : B ≤ w.heap.size) :
    Calls Tryd.prog 33 #[.pointer (some ⟨bb, 0, none⟩)] w fun e w' => e = .returned (.string (mkB bs)) ∧ Below B w w' ∧ Lib.OthersKept 5 (some bb) w w' :=
  (Any.Builder_String_any_k (ρ := Tryd.lays156_ren) { Tryd.lays156 with } Tryd.Builder_Extra_156 B bb bs w h hBw).mono (by rintro e w' ⟨rfl, _, h, k⟩; exact ⟨rfl, h, k⟩)
/-- Builder.Len. -/
theorem bldLen (B bb : Nat) (bs : List UInt8) (w : World) (h : BldAt w B bb bs) : Calls Tryd.prog 32 #[.pointer (some ⟨bb, 0, none⟩)] w fun e w' => e = .returned (.int .i64 (bs.length : Int)) ∧ w' = w := by
  obtain ⟨p, v, hp, a, c, hv⟩ := h.at
  generalize bs.length = m at hv ⊢
  subst hv
  have c1 : w.cell? ⟨bb, 1, none⟩ = some (.slice a m c) := by rw [cell_of_row w bb _ _ _ _ hp]; rfl
  clear hp h
  go_enter Tryd.func32, Tryd.ntmps32
  go_wp2
  go_ret
  exact ⟨rfl, rfl⟩
end Go.Proofs.YtjhofmmmlemfcaaDoor
