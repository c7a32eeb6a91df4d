/- The names of packets as keys of a map: each is a key, and no two are one. -/
import Derived.Test.YtkpbcdnkbokekaaDoorProg
import Derived.Test.YtkpbcdnkbokekaaDoorMapL
import Derived.Test.YtkpbcdnkbokekaaDoorPoolMath
import Derived.DeepKeys4
import Derived.WalkKit
namespace Go.Proofs.YtkpbcdnkbokekaaDoor
open Go.RowKit Go.Maps
set_option linter.unusedVariables false

def nmV (n : Nm) : Value := .agg #[.int .i64 n.kind, .int .i64 n.src, .int .i64 n.dst, .int .i64 n.ident]
def NmOk (n : Nm) : Prop := (0 ≤ n.kind ∧ n.kind ≤ 4294967295) ∧ (0 ≤ n.src ∧ n.src ≤ 4294967295) ∧ (0 ≤ n.dst ∧ n.dst ≤ 4294967295) ∧ (0 ≤ n.ident ∧ n.ident ≤ 4294967295)
theorem nmOk_of {p : Pk} (h : pkErr p = 0) : NmOk (nmOf p) := by
  obtain ⟨a, _, b, c, d, _⟩ := of_pkIn (pkErr_ok h).1
  unfold NmOk nmOf
  simp only
  omega
theorem Tryd.laidOutN : laidOutB Tryd.prog = true := by kernel_rfl
theorem Tryd.rowName : (65 : TypeId) < Tryd.prog.types.size := of_decide_eq_true (by kernel_rfl)
theorem Tryd.cellsName : Tryd.prog.cellsOf 65 = 4 := by kernel_rfl
theorem Tryd.cellsInt : Tryd.prog.cellsOf 3 = 1 := by kernel_rfl
theorem Tryd.deepName : Tryd.prog.keyType 65 = true := by kernel_rfl
theorem Tryd.wideName : (match Tryd.prog.underlying 65 with | some (.array _ _) | some (.struct _) => true | _ => false) = true := by kernel_rfl
set_option maxRecDepth 100000 in
theorem lawN : Keyed Tryd.prog 65 := Keyed.of_law (deep_law_laid Tryd.laidOutN (m := 2) (by omega) Tryd.rowName (by kernel_rfl) Tryd.wideName)
theorem lawI : Keyed Tryd.prog 3 := int_keyed Tryd.underlying3
theorem Tryd.someTypes : 1 ≤ Tryd.prog.types.size := Nat.lt_of_le_of_lt (Nat.zero_le _) Tryd.rowName
theorem wf_small {n : Int} (h0 : 0 ≤ n) (h1 : n ≤ 4294967295) : (Lit.int .i64 n).wf = true := WalkArith.wf_i64 (by omega)
theorem keyN_ex {n : Nm} (h : NmOk n) : ∃ l, keyOf Tryd.prog 65 (nmV n) = some l := by
  obtain ⟨⟨a0, a1⟩, ⟨b0, b1⟩, ⟨c0, c1⟩, ⟨d0, d1⟩⟩ := h
  have wa := wf_small a0 a1
  have wb := wf_small b0 b1
  have wc := wf_small c0 c1
  have wd := wf_small d0 d1
  have hf : (nmV n).formed Tryd.prog 65 = true := by
    simp [nmV, Value.formed, Tryd.underlying65, Tryd.cellsName]
  have hint : ∀ (d : Nat) (x : Int), (Lit.int .i64 x).wf = true → Tryd.prog.keyLits (d + 1) 3 [.int .i64 x] = some [.int .i64 x] := by
    intro d x hx
    unfold Program.keyLits
    rw [Tryd.underlying3]
    simp [hx]
  have hst : ∀ d : Nat, Tryd.prog.keyLits (d + 1 + 1) 65 [.int .i64 n.kind, .int .i64 n.src, .int .i64 n.dst, .int .i64 n.ident] = some [.int .i64 n.kind, .int .i64 n.src, .int .i64 n.dst, .int .i64 n.ident] := by
    intro d
    unfold Program.keyLits
    rw [Tryd.underlying65]
    simp [Tryd.cellsName, Tryd.cellsInt, hint d _ wa, hint d _ wb, hint d _ wc, hint d _ wd]
  have hl : ∃ ls, Tryd.prog.keyLits (Tryd.prog.types.size + 1) 65 (nmV n).cells.toList = some ls := by
    have e : Tryd.prog.types.size + 1 = Tryd.prog.types.size - 1 + 1 + 1 := by have := Tryd.someTypes; omega
    rw [e]
    exact ⟨_, hst _⟩
  obtain ⟨ls, hl⟩ := hl
  refine ⟨.string (keyBytes ls), ?_⟩
  unfold keyOf
  rw [Tryd.underlying65]
  simp only [Tryd.deepName, hf, Bool.and_self, if_true, hl, Option.map_some]
noncomputable def litN (n : Nm) : Lit := (keyOf Tryd.prog 65 (nmV n)).getD .nil
theorem keyN {n : Nm} (h : NmOk n) : keyOf Tryd.prog 65 (nmV n) = some (litN n) := by
  obtain ⟨l, hl⟩ := keyN_ex h
  unfold litN; rw [hl]; rfl
theorem nmV_inj {a b : Nm} (h : nmV a = nmV b) : a = b := by
  obtain ⟨a1, a2, a3, a4⟩ := a
  obtain ⟨b1, b2, b3, b4⟩ := b
  simpa [nmV] using h
theorem litN_inj {a b : Nm} (ha : NmOk a) (hb : NmOk b) (h : litN a = litN b) : a = b := by
  have h1 := keyN ha
  have h2 := keyN hb
  rw [h] at h1
  exact nmV_inj (lawN.inj h1 h2)
end Go.Proofs.YtkpbcdnkbokekaaDoor
