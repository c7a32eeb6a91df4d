/- The law SegKeys of package portlaw1 returns true, for every packet, key and three numbers, where errors.errorType holds the handle of the type error; the walk of its text. -/
import Derived.Test.YteijbohfakokfacDoorSegKeyOf
import Derived.Test.YteijbohfakokfacDoorSegSame
import Derived.Test.YteijbohfakokfacDoorRefRs
import Derived.Test.YteijbohfakokfacDoorRefKey
import Derived.Test.YteijbohfakokfacDoorRefPk
import Derived.Test.YteijbohfakokfacDoorTold
import Derived.Test.YteijbohfakokfacDoorEqK
namespace Go.Proofs.YteijbohfakokfacDoor
open Go.RowKit
set_option linter.unusedVariables false

theorem errV_val (e : Int) : ErrVal (errV e) e := by
  unfold errV
  split
  · exact .inl ⟨rfl, by assumption⟩
  · exact .inr rfl
/-- The packet and the key that came in lie there still. -/
structure Ks (w : World) (p : Pk) (bv : Value) (k : Ky) (w' : World) : Prop where
  pk : PkAt w' w.heap.size p bv
  ky : KyAt w' (w.heap.size + 1) k
  below : Below w.heap.size w w'
theorem Ks.step {w : World} {p : Pk} {bv : Value} {k : Ky} {w' w'' : World} (h : Ks w p bv k w') (hb : Below w'.heap.size w' w'') : Ks w p bv k w'' :=
  ⟨h.pk.below h.pk.lt hb, h.ky.below h.ky.lt hb, h.below.trans (hb.mono h.below.size)⟩
theorem Ks.only {w : World} {p : Pk} {bv : Value} {k : Ky} {w' w'' : World} {g : Nat} (h : Ks w p bv k w') (ho : Only g w' w'') (hg : w.heap.size + 1 < g) : Ks w p bv k w'' :=
  ⟨h.pk.only (by omega) ho, h.ky.only (by omega) ho, ho.below (by omega) h.below⟩
theorem Ks.start (w : World) (p : Pk) (bv : Value) (k : Ky) :
    Ks w p bv k ((w.alloc (.cells #[.int .i64 p.kind, .int .i64 p.ttl, .int .i64 p.ident, .int .i64 p.src, .int .i64 p.dst, .int .i64 p.pos, .bool p.more, bv] 24)).alloc (.cells #[.int .i64 k.kind, .int .i64 k.src, .int .i64 k.frm, .int .i64 k.dst, .int .i64 k.too] 26)) := by
  have h1 := PkAt.new w p bv
  have s1 : (w.alloc (.cells #[.int .i64 p.kind, .int .i64 p.ttl, .int .i64 p.ident, .int .i64 p.src, .int .i64 p.dst, .int .i64 p.pos, .bool p.more, bv] 24)).heap.size = w.heap.size + 1 := by simp
  have b1 : Below w.heap.size w (w.alloc (.cells #[.int .i64 p.kind, .int .i64 p.ttl, .int .i64 p.ident, .int .i64 p.src, .int .i64 p.dst, .int .i64 p.pos, .bool p.more, bv] 24)) := (Below.refl _ _).alloc (Nat.le_refl _) _
  generalize w.alloc (.cells #[.int .i64 p.kind, .int .i64 p.ttl, .int .i64 p.ident, .int .i64 p.src, .int .i64 p.dst, .int .i64 p.pos, .bool p.more, bv] 24) = w1 at h1 s1 b1 ⊢
  have h2 := KyAt.new w1 k
  rw [s1] at h2
  exact ⟨h1.alloc _, h2, b1.alloc b1.size _⟩
/-- The keys that the last statement compares. -/
structure Kc (w : World) (k y f : Ky) (K9 K5 T9 F9 : Nat) (w' : World) : Prop where
  a : KyAt w' K9 y
  b : KyAt w' K5 y
  c : KyAt w' (w.heap.size + 1) k
  d : KyAt w' T9 { kind := k.kind, src := k.dst, frm := k.too, dst := k.src, too := k.frm }
  e : KyAt w' F9 f
  below : Below w.heap.size w w'
theorem Kc.step {w : World} {k y f : Ky} {K9 K5 T9 F9 : Nat} {w' w'' : World} (h : Kc w k y f K9 K5 T9 F9 w') (hb : Below w'.heap.size w' w'') : Kc w k y f K9 K5 T9 F9 w'' :=
  ⟨h.a.below h.a.lt hb, h.b.below h.b.lt hb, h.c.below h.c.lt hb, h.d.below h.d.lt hb, h.e.below h.e.lt hb, h.below.trans (hb.mono h.below.size)⟩
theorem Kc.drew {w : World} {k y f : Ky} {K9 K5 T9 F9 : Nat} {w' : World} (h : Kc w k y f K9 K5 T9 F9 w') : Kc w k y f K9 K5 T9 F9 w'.drew := ⟨h.a, h.b, h.c, h.d, h.e, h.below.drew⟩
theorem kc_of {w : World} {k y f : Ky} {K9 K5 T9 F9 : Nat} {w' : World} (h : Kc w k y f K9 K5 T9 F9 w') : ((w'.cell? ⟨K9, 0, none⟩ = some (.int .i64 y.kind) ∧ w'.cell? ⟨K9, 1, none⟩ = some (.int .i64 y.src) ∧ w'.cell? ⟨K9, 2, none⟩ = some (.int .i64 y.frm) ∧ w'.cell? ⟨K9, 3, none⟩ = some (.int .i64 y.dst) ∧ w'.cell? ⟨K9, 4, none⟩ = some (.int .i64 y.too)) ∧ (w'.cell? ⟨K5, 0, none⟩ = some (.int .i64 y.kind) ∧ w'.cell? ⟨K5, 1, none⟩ = some (.int .i64 y.src) ∧ w'.cell? ⟨K5, 2, none⟩ = some (.int .i64 y.frm) ∧ w'.cell? ⟨K5, 3, none⟩ = some (.int .i64 y.dst) ∧ w'.cell? ⟨K5, 4, none⟩ = some (.int .i64 y.too)) ∧ (w'.cell? ⟨w.heap.size + 1, 0, none⟩ = some (.int .i64 k.kind) ∧ w'.cell? ⟨w.heap.size + 1, 1, none⟩ = some (.int .i64 k.src) ∧ w'.cell? ⟨w.heap.size + 1, 2, none⟩ = some (.int .i64 k.frm) ∧ w'.cell? ⟨w.heap.size + 1, 3, none⟩ = some (.int .i64 k.dst) ∧ w'.cell? ⟨w.heap.size + 1, 4, none⟩ = some (.int .i64 k.too)) ∧ (w'.cell? ⟨T9, 0, none⟩ = some (.int .i64 k.kind) ∧ w'.cell? ⟨T9, 1, none⟩ = some (.int .i64 k.dst) ∧ w'.cell? ⟨T9, 2, none⟩ = some (.int .i64 k.too) ∧ w'.cell? ⟨T9, 3, none⟩ = some (.int .i64 k.src) ∧ w'.cell? ⟨T9, 4, none⟩ = some (.int .i64 k.frm)) ∧ (w'.cell? ⟨F9, 0, none⟩ = some (.int .i64 f.kind) ∧ w'.cell? ⟨F9, 1, none⟩ = some (.int .i64 f.src) ∧ w'.cell? ⟨F9, 2, none⟩ = some (.int .i64 f.frm) ∧ w'.cell? ⟨F9, 3, none⟩ = some (.int .i64 f.dst) ∧ w'.cell? ⟨F9, 4, none⟩ = some (.int .i64 f.too))) ∧ Kc w k y f K9 K5 T9 F9 w' := ⟨⟨h.a.cells, h.b.cells, h.c.cells, h.d.cells, h.e.cells⟩, h⟩
theorem keys_slice {p : Pk} {w w' : World} {e : Ending} (h : Keys p w e w') :
    ∃ a n c, e = .returned (.tuple #[keyV (kyK p), segV (kyS p) (.slice a n c), errV (kyE p)]) ∧ Bytes w' (.slice a n c) (kyS p).body ∧ Below w.heap.size w w' := by
  obtain ⟨bv, rfl, hb, hw⟩ := h
  obtain ⟨a, c, rfl⟩ := len_body hb
  exact ⟨a, _, c, rfl, hb, hw⟩
theorem rr_slice {k src dst : Int} {zs : List Int} {w w' : World} {e : Ending} (h : RReads k src dst zs w e w') :
    ∃ a n c, e = .returned (.tuple #[segV (rdS k zs src dst) (.slice a n c), .int .i64 (rdErr k zs src dst)]) ∧ Bytes w' (.slice a n c) (rdS k zs src dst).body ∧ Below w.heap.size w w' := by
  obtain ⟨bv, rfl, hb, hw⟩ := h
  obtain ⟨a, c, rfl⟩ := len_body hb
  exact ⟨a, _, c, rfl, hb, hw⟩
end Go.Proofs.YteijbohfakokfacDoor
