/- What KeyOf of package seg returns, for every packet: the key, the segment, or why it has none. -/
import Derived.Test.YteijbohfakokfacDoorSegRead
import Derived.Test.YteijbohfakokfacDoorSegFst
import Derived.Test.YteijbohfakokfacDoorWirePk
namespace Go.Proofs.YteijbohfakokfacDoor
open Go.RowKit
set_option linter.unusedVariables false

theorem zero_keys {w : World} {b : Nat} (h : KyAt w b zeroY) : w.cell? ⟨b, 0, none⟩ = some (.int .i64 0) ∧ w.cell? ⟨b, 1, none⟩ = some (.int .i64 0) ∧ w.cell? ⟨b, 2, none⟩ = some (.int .i64 0) ∧ w.cell? ⟨b, 3, none⟩ = some (.int .i64 0) ∧ w.cell? ⟨b, 4, none⟩ = some (.int .i64 0) := h.cells
theorem KyAt.wipe {w : World} {b : Nat} {p : Ky} (h : KyAt w b p) :
    ∃ w', ((((w.setCell ⟨b, 0, none⟩ (.int .i64 0)).setCell ⟨b, 1, none⟩ (.int .i64 0)).setCell ⟨b, 2, none⟩ (.int .i64 0)).setCell ⟨b, 3, none⟩ (.int .i64 0)).setCell ⟨b, 4, none⟩ (.int .i64 0) = w' ∧ KyAt w' b zeroY ∧ Only b w w' :=
  h.store zeroY
/-- What KeyOf's answer is. -/
def Keys (p : Pk) (w : World) (e : Ending) (w' : World) : Prop :=
  ∃ bs, e = .returned (.tuple #[keyV (kyK p), segV (kyS p) bs, errV (kyE p)]) ∧ Bytes w' bs (kyS p).body ∧ Below w.heap.size w w'
theorem keys_no {p : Pk} {w w' : World} {n : Int} (hn : ¬ n = 0) (hE : kyE p = n) (hw : Below w.heap.size w w') :
    Keys p w (.returned (.tuple #[keyV zeroY, segV zeroS (.slice none 0 0), .iface 52 (.int .i64 n)])) w' := by
  have e0 : ¬ kyE p = 0 := by rw [hE]; exact hn
  have e1 : kyK p = zeroY := by unfold kyK; rw [if_neg e0]
  have e2 : kyS p = zeroS := by unfold kyS; rw [if_neg e0]
  refine ⟨.slice none 0 0, ?_, ?_, hw⟩
  · rw [e1, e2, hE, errV_no hn]
  · rw [e2]; exact .inl ⟨rfl, _, _, rfl, fun _ => rfl⟩

theorem reads_err {k src dst : Int} {zs : List Int} {w w' : World} {e : Ending} (h : Reads k src dst zs w e w') (hx : ¬ rdErr k zs src dst = 0) :
    ∃ a c, e = .returned (.tuple #[.agg #[.int .i64 0, .int .i64 0, .int .i64 0, .int .i64 0, .int .i64 0, .int .i64 0, .slice a 0 c], .iface 52 (.int .i64 (rdErr k zs src dst))]) ∧ Below w.heap.size w w' := by
  obtain ⟨bv, rfl, hb, hw⟩ := h
  have e1 : rdS k zs src dst = zeroS := by unfold rdS; rw [if_neg hx]
  rw [e1] at hb ⊢
  obtain ⟨a, c, rfl⟩ := len_body hb
  exact ⟨a, c, by rw [errV_no hx]; rfl, hw⟩
theorem reads_good {k src dst : Int} {zs : List Int} {w w' : World} {e : Ending} (h : Reads k src dst zs w e w') (hx : rdErr k zs src dst = 0) :
    ∃ a n c, e = .returned (.tuple #[segV (fldS k zs) (.slice a n c), .nilIface]) ∧ Bytes w' (.slice a n c) (fldS k zs).body ∧ Below w.heap.size w w' := by
  obtain ⟨bv, rfl, hb, hw⟩ := h
  have e1 : rdS k zs src dst = fldS k zs := by unfold rdS; rw [if_pos hx]
  rw [e1] at hb ⊢
  obtain ⟨a, c, rfl⟩ := len_body hb
  exact ⟨a, _, c, by rw [hx, errV_ok], hb, hw⟩
/-- Bytes do not lie in a block that holds none. -/
theorem Bytes.off {w w' : World} {v : Value} {zs : List Int} {g : Nat} (h : Bytes w v zs) (ho : Only g w w') (hg : ∀ j u, w.cell? ⟨g, j, none⟩ ≠ some (.int .u8 u)) : Bytes w' v zs := by
  rcases h with h | ⟨b, off, len, cap, h1, h2, h3, h4, h5, h6⟩
  · exact .inl h
  · refine .inr ⟨b, off, len, cap, h1, h2, h3, h4, h5, fun i hi => ?_, h6.2⟩
    have hc := h6.1 i hi
    by_cases hb : b = g
    · subst hb; exact absurd hc (hg _ _)
    · rw [ho.cell (p := ⟨b, off + i, none⟩) hb]; exact hc
theorem KyAt.nobyte {w : World} {b : Nat} {p : Ky} (h : KyAt w b p) : ∀ j u, w.cell? ⟨b, j, none⟩ ≠ some (.int .u8 u) := by
  intro j u
  rw [cell_of_row w b j _ _ _ h]
  match j with
  | 0 | 1 | 2 | 3 | 4 => simp
  | n + 5 => simp
theorem SgAt.nobyte {w : World} {b : Nat} {p : Sg} {bv : Value} (h : SgAt w b p bv) (hv : ∀ u, bv ≠ .int .u8 u) : ∀ j u, w.cell? ⟨b, j, none⟩ ≠ some (.int .u8 u) := by
  intro j u
  rw [cell_of_row w b j _ _ _ h]
  match j with
  | 0 | 1 | 2 | 3 | 4 | 5 => simp
  | 6 => simp [hv]
  | n + 7 => simp
/-- The packet, and the results' blocks. -/
structure Ko (w : World) (p : Pk) (bv : Value) (w' : World) : Prop where
  pk : PkAt w' w.heap.size p bv
  ky : KyAt w' (w.heap.size + 1) zeroY
  sg : SgAt w' (w.heap.size + 2) zeroS (.slice none 0 0)
  below : Below w.heap.size w w'
theorem Ko.step {w : World} {p : Pk} {bv : Value} {w' w'' : World} (h : Ko w p bv w') (hb : Below w'.heap.size w' w'') : Ko w p bv w'' :=
  ⟨h.pk.below h.pk.lt hb, h.ky.below h.ky.lt hb, h.sg.below h.sg.lt hb, h.below.trans (hb.mono h.below.size)⟩
theorem Ko.alloc {w : World} {p : Pk} {bv : Value} {w' : World} (h : Ko w p bv w') (o : Obj) : Ko w p bv (w'.alloc o) := h.step ((Below.refl _ _).alloc (Nat.le_refl _) _)
theorem Ko.start (w : World) (p : Pk) (bv : Value) :
    Ko w p bv (((w.alloc (.cells #[.int .i64 p.kind, .int .i64 p.ttl, .int .i64 p.ident, .int .i64 p.src, .int .i64 p.dst, .int .i64 p.pos, .bool p.more, bv] 24)).alloc (.cells #[.int .i64 0, .int .i64 0, .int .i64 0, .int .i64 0, .int .i64 0] 26)).alloc (.cells #[.int .i64 0, .int .i64 0, .int .i64 0, .int .i64 0, .int .i64 0, .int .i64 0, .slice none 0 0] 29)) := by
  have h1 := PkAt.new w p bv
  have s1 : (w.alloc (.cells #[.int .i64 p.kind, .int .i64 p.ttl, .int .i64 p.ident, .int .i64 p.src, .int .i64 p.dst, .int .i64 p.pos, .bool p.more, bv] 24)).heap.size = w.heap.size + 1 := by simp
  have b1 : Below w.heap.size w (w.alloc (.cells #[.int .i64 p.kind, .int .i64 p.ttl, .int .i64 p.ident, .int .i64 p.src, .int .i64 p.dst, .int .i64 p.pos, .bool p.more, bv] 24)) := (Below.refl _ _).alloc (Nat.le_refl _) _
  generalize w.alloc (.cells #[.int .i64 p.kind, .int .i64 p.ttl, .int .i64 p.ident, .int .i64 p.src, .int .i64 p.dst, .int .i64 p.pos, .bool p.more, bv] 24) = w1 at h1 s1 b1 ⊢
  have h2 := KyAt.zero w1
  have s2 : (w1.alloc (.cells #[.int .i64 0, .int .i64 0, .int .i64 0, .int .i64 0, .int .i64 0] 26)).heap.size = w.heap.size + 2 := by simp [s1]
  have b2 : Below w1.heap.size w1 (w1.alloc (.cells #[.int .i64 0, .int .i64 0, .int .i64 0, .int .i64 0, .int .i64 0] 26)) := (Below.refl _ _).alloc (Nat.le_refl _) _
  generalize w1.alloc (.cells #[.int .i64 0, .int .i64 0, .int .i64 0, .int .i64 0, .int .i64 0] 26) = w2 at h2 s2 b2 ⊢
  have h3 := SgAt.zero w2
  have b3 : Below w2.heap.size w2 (w2.alloc (.cells #[.int .i64 0, .int .i64 0, .int .i64 0, .int .i64 0, .int .i64 0, .int .i64 0, .slice none 0 0] 29)) := (Below.refl _ _).alloc (Nat.le_refl _) _
  rw [s1] at h2
  rw [s2] at h3
  have h1' := h1.below h1.lt b2
  exact ⟨h1'.below h1'.lt b3, h2.below h2.lt b3, h3, (b1.trans (b2.mono b1.size)).trans (b3.mono (Nat.le_trans b1.size b2.size))⟩

end Go.Proofs.YteijbohfakokfacDoor
