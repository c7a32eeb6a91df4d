/- A region that draws its order, whose operations only read and whose callees only make memory: one walk of the lexical order serves every order, in the class of worlds that extend the one at hand. -/
import Derived.Test.YtdhjfjnjdkmhjaaDoorMgB
import Derived.Deep.QuietTactic
import Derived.BigQuiet
import Derived.Test.YtdhjfjnjdkmhjaaDoorTrkSd
import Derived.Deep.RegionHeld3
namespace Go.Proofs.YtdhjfjnjdkmhjaaDoor
open Go.RowKit
set_option linter.unusedVariables false

/-- A world that has what w has, and perhaps more. -/
structure Ext (w : World) where
  W : World
  h : Below w.heap.size w W
instance (w : World) : Nonempty (Ext w) := ⟨⟨w, Below.refl _ _⟩⟩
theorem wp_region_ext {P : Program} {id : Nat} {Q : Exit → Act → World → Prop} {a : Act} {w : World} {l : List Oper} (hm : P.follows .mixedOrders = true) (hB : Region.lexB .any l.toArray = true)
    (h : wpQuiet P l.toArray (fun W => ∃ u : Ext w, W = u.W) (fun a' => ∀ w', (∃ u : Ext w, w' = u.W) → Q .normal a' w') l a) : (Code.region id l.toArray true).wp P Q a w :=
  wp_region_quiet (C := fun W => ∃ u : Ext w, W = u.W) hm hB ⟨⟨{ w with drawn := w.drawn + 1 }, ⟨rfl, rfl, rfl, Nat.le_refl _, fun _ _ => rfl⟩⟩, rfl⟩ (by simpa using h)
theorem Ext.cell {w : World} {b o : Nat} {v : Value} (h : w.cell? ⟨b, o, none⟩ = some v) : ∀ u : Ext w, u.W.cell? ⟨b, o, none⟩ = some v := fun u => by
  have hlt : b < w.heap.size := by
    rcases Nat.lt_or_ge b w.heap.size with h1 | h1
    · exact h1
    · simp [World.cell?, Array.getElem?_eq_none h1] at h
  rw [u.h.cell (p := ⟨b, o, none⟩) hlt]; exact h
/-- A call that only makes memory, in every such world. -/
theorem Ext.call {P : Program} {f : FuncId} {args : Array Value} {v : Value} {w : World} (h : ∀ W, Calls P f args W fun e w' => e = .returned v ∧ Below W.heap.size W w') (u : Ext w) : Calls P f args u.W fun e w' => e = .returned v ∧ ∃ u' : Ext w, w' = u'.W := by
  refine (h u.W).mono ?_
  rintro e w' ⟨rfl, hb⟩
  exact ⟨rfl, ⟨w', u.h.trans (hb.mono u.h.size)⟩, rfl⟩
end Go.Proofs.YtdhjfjnjdkmhjaaDoor

namespace Go.Proofs.YtdhjfjnjdkmhjaaDoor
open Go.RowKit
set_option linter.unusedVariables false

/-- A flow and a segment in boxes, and a flow that is to be the answer. -/
structure Fsz (w : World) (f : Fl) (s : Sg) (bv : Value) (g : Fl) (W : World) : Prop where
  fl : FlAt W w.heap.size f
  sg : SgAt W (w.heap.size + 1) s bv
  rs : FlAt W (w.heap.size + 2) g
  bel : Below w.heap.size w W
def fszW (w : World) (f : Fl) (s : Sg) (bv : Value) : World := ((w.alloc (.cells #[.int .i64 f.key.kind, .int .i64 f.key.src, .int .i64 f.key.frm, .int .i64 f.key.dst, .int .i64 f.key.too, .int .i64 f.st, .int .i64 f.unt, .int .i64 f.stp, .int .i64 f.h0, .int .i64 f.h1, .int .i64 f.w0, .int .i64 f.w1, .bool f.d0, .bool f.d1, .int .i64 f.num] 30)).alloc (.cells #[.int .i64 s.frm, .int .i64 s.too, .int .i64 s.seq, .int .i64 s.ack, .int .i64 s.win, .int .i64 s.flg, bv] 26)).alloc (.cells #[.int .i64 0, .int .i64 0, .int .i64 0, .int .i64 0, .int .i64 0, .int .i64 0, .int .i64 0, .int .i64 0, .int .i64 0, .int .i64 0, .int .i64 0, .int .i64 0, .bool false, .bool false, .int .i64 0] 30)
theorem Fsz.start (w : World) (f : Fl) (s : Sg) (bv : Value) : Fsz w f s bv zeroF (fszW w f s bv) := by
  unfold fszW
  have h1 := FlAt.new w f
  have s1 : (w.alloc (.cells #[.int .i64 f.key.kind, .int .i64 f.key.src, .int .i64 f.key.frm, .int .i64 f.key.dst, .int .i64 f.key.too, .int .i64 f.st, .int .i64 f.unt, .int .i64 f.stp, .int .i64 f.h0, .int .i64 f.h1, .int .i64 f.w0, .int .i64 f.w1, .bool f.d0, .bool f.d1, .int .i64 f.num] 30)).heap.size = w.heap.size + 1 := by simp
  have b1 : Below w.heap.size w (w.alloc (.cells #[.int .i64 f.key.kind, .int .i64 f.key.src, .int .i64 f.key.frm, .int .i64 f.key.dst, .int .i64 f.key.too, .int .i64 f.st, .int .i64 f.unt, .int .i64 f.stp, .int .i64 f.h0, .int .i64 f.h1, .int .i64 f.w0, .int .i64 f.w1, .bool f.d0, .bool f.d1, .int .i64 f.num] 30)) := (Below.refl _ _).alloc (Nat.le_refl _) _
  generalize w.alloc (.cells #[.int .i64 f.key.kind, .int .i64 f.key.src, .int .i64 f.key.frm, .int .i64 f.key.dst, .int .i64 f.key.too, .int .i64 f.st, .int .i64 f.unt, .int .i64 f.stp, .int .i64 f.h0, .int .i64 f.h1, .int .i64 f.w0, .int .i64 f.w1, .bool f.d0, .bool f.d1, .int .i64 f.num] 30) = w1 at h1 s1 b1 ⊢
  have h2 := SgAt.new w1 s bv
  rw [s1] at h2
  have h1' := h1.alloc (.cells #[.int .i64 s.frm, .int .i64 s.too, .int .i64 s.seq, .int .i64 s.ack, .int .i64 s.win, .int .i64 s.flg, bv] 26)
  have b2 := b1.alloc b1.size (.cells #[.int .i64 s.frm, .int .i64 s.too, .int .i64 s.seq, .int .i64 s.ack, .int .i64 s.win, .int .i64 s.flg, bv] 26)
  have s2 : (w1.alloc (.cells #[.int .i64 s.frm, .int .i64 s.too, .int .i64 s.seq, .int .i64 s.ack, .int .i64 s.win, .int .i64 s.flg, bv] 26)).heap.size = w.heap.size + 2 := by simp [s1]
  generalize w1.alloc (.cells #[.int .i64 s.frm, .int .i64 s.too, .int .i64 s.seq, .int .i64 s.ack, .int .i64 s.win, .int .i64 s.flg, bv] 26) = w2 at h1' s2 b2 h2 ⊢
  have h3 := FlAt.zero w2
  rw [s2] at h3
  exact ⟨h1'.alloc _, h2.alloc _, h3, b2.alloc b2.size _⟩
theorem Fsz.step {w W W' : World} {f g : Fl} {s : Sg} {bv : Value} (h : Fsz w f s bv g W) (hb : Below W.heap.size W W') : Fsz w f s bv g W' :=
  ⟨h.fl.below h.fl.lt hb, h.sg.below h.sg.lt hb, h.rs.below h.rs.lt hb, h.bel.trans (hb.mono h.bel.size)⟩
theorem Fsz.drew {w W : World} {f g : Fl} {s : Sg} {bv : Value} (h : Fsz w f s bv g W) : Fsz w f s bv g W.drew := ⟨h.fl, h.sg, h.rs, h.bel.drew⟩
theorem Fsz.drewN {w W : World} {f g : Fl} {s : Sg} {bv : Value} (h : Fsz w f s bv g W) (n : Nat) : Fsz w f s bv g (W.drewN n) := ⟨h.fl.drewN n, h.sg.drewN n, h.rs.drewN n, below_drewN h.bel n⟩
theorem Fsz.put {w W W' : World} {f f' g : Fl} {s : Sg} {bv : Value} (h : Fsz w f s bv g W) (hf : FlAt W' w.heap.size f') (ho : Only w.heap.size W W') : Fsz w f' s bv g W' :=
  ⟨hf, h.sg.only (by omega) ho, h.rs.only (by omega) ho, ho.below (Nat.le_refl _) h.bel⟩
theorem Fsz.fin {w W : World} {f g : Fl} {s : Sg} {bv : Value} (h : Fsz w f s bv g W) (q : Fl) :
    ∃ W', (((((((((((((((W.setCell ⟨w.heap.size + 2, 0, none⟩ (.int .i64 q.key.kind)).setCell ⟨w.heap.size + 2, 1, none⟩ (.int .i64 q.key.src)).setCell ⟨w.heap.size + 2, 2, none⟩ (.int .i64 q.key.frm)).setCell ⟨w.heap.size + 2, 3, none⟩ (.int .i64 q.key.dst)).setCell ⟨w.heap.size + 2, 4, none⟩ (.int .i64 q.key.too)).setCell ⟨w.heap.size + 2, 5, none⟩ (.int .i64 q.st)).setCell ⟨w.heap.size + 2, 6, none⟩ (.int .i64 q.unt)).setCell ⟨w.heap.size + 2, 7, none⟩ (.int .i64 q.stp)).setCell ⟨w.heap.size + 2, 8, none⟩ (.int .i64 q.h0)).setCell ⟨w.heap.size + 2, 9, none⟩ (.int .i64 q.h1)).setCell ⟨w.heap.size + 2, 10, none⟩ (.int .i64 q.w0)).setCell ⟨w.heap.size + 2, 11, none⟩ (.int .i64 q.w1)).setCell ⟨w.heap.size + 2, 12, none⟩ (.bool q.d0)).setCell ⟨w.heap.size + 2, 13, none⟩ (.bool q.d1)).setCell ⟨w.heap.size + 2, 14, none⟩ (.int .i64 q.num)) = W' ∧ FlAt W' (w.heap.size + 2) q ∧ Below w.heap.size w W' := by
  obtain ⟨W', hW', g', o'⟩ := h.rs.store q
  exact ⟨W', hW', g', o'.below (by omega) h.bel⟩
theorem Fsz.put_st {w W : World} {f g : Fl} {s : Sg} {bv : Value} (h : Fsz w f s bv g W) (n : Int) : ∃ W', W.setCell ⟨w.heap.size, 5, none⟩ (.int .i64 n) = W' ∧ Fsz w { f with st := n } s bv g W' := by
  obtain ⟨W', e, p, o⟩ := h.fl.store_st n
  exact ⟨W', e, h.put p o⟩
theorem Fsz.put_unt {w W : World} {f g : Fl} {s : Sg} {bv : Value} (h : Fsz w f s bv g W) (n : Int) : ∃ W', W.setCell ⟨w.heap.size, 6, none⟩ (.int .i64 n) = W' ∧ Fsz w { f with unt := n } s bv g W' := by
  obtain ⟨W', e, p, o⟩ := h.fl.store_unt n
  exact ⟨W', e, h.put p o⟩
theorem Fsz.put_stp {w W : World} {f g : Fl} {s : Sg} {bv : Value} (h : Fsz w f s bv g W) (n : Int) : ∃ W', W.setCell ⟨w.heap.size, 7, none⟩ (.int .i64 n) = W' ∧ Fsz w { f with stp := n } s bv g W' := by
  obtain ⟨W', e, p, o⟩ := h.fl.store_stp n
  exact ⟨W', e, h.put p o⟩
theorem Fsz.put_h0 {w W : World} {f g : Fl} {s : Sg} {bv : Value} (h : Fsz w f s bv g W) (n : Int) : ∃ W', W.setCell ⟨w.heap.size, 8, none⟩ (.int .i64 n) = W' ∧ Fsz w { f with h0 := n } s bv g W' := by
  obtain ⟨W', e, p, o⟩ := h.fl.store_h0 n
  exact ⟨W', e, h.put p o⟩
theorem Fsz.put_h1 {w W : World} {f g : Fl} {s : Sg} {bv : Value} (h : Fsz w f s bv g W) (n : Int) : ∃ W', W.setCell ⟨w.heap.size, 9, none⟩ (.int .i64 n) = W' ∧ Fsz w { f with h1 := n } s bv g W' := by
  obtain ⟨W', e, p, o⟩ := h.fl.store_h1 n
  exact ⟨W', e, h.put p o⟩
theorem Fsz.put_w0 {w W : World} {f g : Fl} {s : Sg} {bv : Value} (h : Fsz w f s bv g W) (n : Int) : ∃ W', W.setCell ⟨w.heap.size, 10, none⟩ (.int .i64 n) = W' ∧ Fsz w { f with w0 := n } s bv g W' := by
  obtain ⟨W', e, p, o⟩ := h.fl.store_w0 n
  exact ⟨W', e, h.put p o⟩
theorem Fsz.put_w1 {w W : World} {f g : Fl} {s : Sg} {bv : Value} (h : Fsz w f s bv g W) (n : Int) : ∃ W', W.setCell ⟨w.heap.size, 11, none⟩ (.int .i64 n) = W' ∧ Fsz w { f with w1 := n } s bv g W' := by
  obtain ⟨W', e, p, o⟩ := h.fl.store_w1 n
  exact ⟨W', e, h.put p o⟩
theorem Fsz.put_d0 {w W : World} {f g : Fl} {s : Sg} {bv : Value} (h : Fsz w f s bv g W) (n : Bool) : ∃ W', W.setCell ⟨w.heap.size, 12, none⟩ (.bool n) = W' ∧ Fsz w { f with d0 := n } s bv g W' := by
  obtain ⟨W', e, p, o⟩ := h.fl.store_d0 n
  exact ⟨W', e, h.put p o⟩
theorem Fsz.put_d1 {w W : World} {f g : Fl} {s : Sg} {bv : Value} (h : Fsz w f s bv g W) (n : Bool) : ∃ W', W.setCell ⟨w.heap.size, 13, none⟩ (.bool n) = W' ∧ Fsz w { f with d1 := n } s bv g W' := by
  obtain ⟨W', e, p, o⟩ := h.fl.store_d1 n
  exact ⟨W', e, h.put p o⟩
theorem Fsz.put_num {w W : World} {f g : Fl} {s : Sg} {bv : Value} (h : Fsz w f s bv g W) (n : Int) : ∃ W', W.setCell ⟨w.heap.size, 14, none⟩ (.int .i64 n) = W' ∧ Fsz w { f with num := n } s bv g W' := by
  obtain ⟨W', e, p, o⟩ := h.fl.store_num n
  exact ⟨W', e, h.put p o⟩

end Go.Proofs.YtdhjfjnjdkmhjaaDoor
