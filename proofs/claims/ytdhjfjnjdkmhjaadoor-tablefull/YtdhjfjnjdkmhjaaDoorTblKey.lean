/- Keys of flows as keys of a map: each is a key, and no two are one. -/
import Derived.Test.YtdhjfjnjdkmhjaaDoorMgA
import Derived.Test.YtdhjfjnjdkmhjaaDoorMgA
import Derived.Test.YtdhjfjnjdkmhjaaDoorMapL
import Derived.DeepKeys4
import Derived.WalkKit
namespace Go.Proofs.YtdhjfjnjdkmhjaaDoor
open Go.RowKit Go.Maps
set_option linter.unusedVariables false

/-- The numbers of a key are numbers of a machine. -/
def KyOk (k : Ky) : Prop := (Lit.int .i64 k.kind).wf = true ∧ (Lit.int .i64 k.src).wf = true ∧ (Lit.int .i64 k.frm).wf = true ∧ (Lit.int .i64 k.dst).wf = true ∧ (Lit.int .i64 k.too).wf = true
theorem KyOk.turn {k : Ky} (h : KyOk k) : KyOk (turnK k) := ⟨h.1, h.2.2.2.1, h.2.2.2.2, h.2.1, h.2.2.1⟩
theorem KyOk.first {k : Ky} (h : KyOk k) : KyOk (firstK k) := by
  unfold firstK
  split
  · exact h.turn
  · exact h
theorem Tryd.laidOutK : laidOutB Tryd.prog = true := by kernel_rfl
theorem Tryd.rowKey : (23 : TypeId) < Tryd.prog.types.size := of_decide_eq_true (by kernel_rfl)
theorem Tryd.cellsKey : Tryd.prog.cellsOf 23 = 5 := by kernel_rfl
theorem Tryd.cellsIntK : Tryd.prog.cellsOf 3 = 1 := by kernel_rfl
theorem Tryd.deepKey : Tryd.prog.keyType 23 = true := by kernel_rfl
theorem Tryd.wideKey : (match Tryd.prog.underlying 23 with | some (.array _ _) | some (.struct _) => true | _ => false) = true := by kernel_rfl
set_option maxRecDepth 100000 in
theorem lawK : Keyed Tryd.prog 23 := Keyed.of_law (deep_law_laid Tryd.laidOutK (m := 2) (by omega) Tryd.rowKey (by kernel_rfl) Tryd.wideKey)
theorem Tryd.someTypesK : 1 ≤ Tryd.prog.types.size := Nat.lt_of_le_of_lt (Nat.zero_le _) Tryd.rowKey
theorem keyK_ex {n : Ky} (h : KyOk n) : ∃ l, keyOf Tryd.prog 23 (keyV n) = some l := by
  obtain ⟨wa, wb, wc, wd, we⟩ := h
  have hf : (keyV n).formed Tryd.prog 23 = true := by
    simp [keyV, Value.formed, Tryd.underlying23, Tryd.cellsKey]
  have hint : ∀ (d : Nat) (x : Int), (Lit.int .i64 x).wf = true → Tryd.prog.keyLits (d + 1) 3 [.int .i64 x] = some [.int .i64 x] := by
    intro d x hx
    unfold Program.keyLits
    rw [Tryd.underlying3]
    simp [hx]
  have hst : ∀ d : Nat, Tryd.prog.keyLits (d + 1 + 1) 23 [.int .i64 n.kind, .int .i64 n.src, .int .i64 n.frm, .int .i64 n.dst, .int .i64 n.too] = some [.int .i64 n.kind, .int .i64 n.src, .int .i64 n.frm, .int .i64 n.dst, .int .i64 n.too] := by
    intro d
    unfold Program.keyLits
    rw [Tryd.underlying23]
    simp [Tryd.cellsKey, Tryd.cellsIntK, hint d _ wa, hint d _ wb, hint d _ wc, hint d _ wd, hint d _ we]
  have hl : ∃ ls, Tryd.prog.keyLits (Tryd.prog.types.size + 1) 23 (keyV n).cells.toList = some ls := by
    have e : Tryd.prog.types.size + 1 = Tryd.prog.types.size - 1 + 1 + 1 := by have := Tryd.someTypesK; omega
    rw [e]
    exact ⟨_, hst _⟩
  obtain ⟨ls, hl⟩ := hl
  refine ⟨.string (keyBytes ls), ?_⟩
  unfold keyOf
  rw [Tryd.underlying23]
  simp only [Tryd.deepKey, hf, Bool.and_self, if_true, hl, Option.map_some]
noncomputable def litK (n : Ky) : Lit := (keyOf Tryd.prog 23 (keyV n)).getD .nil
theorem keyK {n : Ky} (h : KyOk n) : keyOf Tryd.prog 23 (keyV n) = some (litK n) := by
  obtain ⟨l, hl⟩ := keyK_ex h
  unfold litK; rw [hl]; rfl
theorem keyV_inj {a b : Ky} (h : keyV a = keyV b) : a = b := by
  obtain ⟨a1, a2, a3, a4, a5⟩ := a
  obtain ⟨b1, b2, b3, b4, b5⟩ := b
  simpa [keyV] using h
theorem litK_inj {a b : Ky} (ha : KyOk a) (hb : KyOk b) (h : litK a = litK b) : a = b := by
  have h1 := keyK ha
  have h2 := keyK hb
  rw [h] at h1
  exact keyV_inj (lawK.inj h1 h2)
section
variable {P : Program} {k t e : TypeId} {w : World} {b : Nat} {l : List (Lit × Value)}
/-- A look-up that tells whether there is one: there is. -/
theorem MapIs.look_ok (h : MapIs P k w b l) (K : Keyed P k) (ht : P.underlying t = some (.map k e)) {z : Value} (hz : (zeroValue e).run P w = .ok z w) {key : Value} {kl : Lit} (hkey : keyOf P k key = some kl) {v : Value} (hv : (kl, v) ∈ l) :
    (Instr.lookup t (.map (some b)) key true).run P w = .ok (.tuple #[v, .bool true]) w := by
  obtain ⟨es, h1, h2⟩ := h
  obtain ⟨u, ps, hr, hR⟩ := h1.look_ok K ht hz (zd := .held z) (zp := []) rfl hkey
  obtain ⟨es', e, hp⟩ := h1.tidy K
  injection e with e
  subst e
  have hm := h2.mem_iff.2 (heldL_mem (x := (kl, v)).2 hv)
  rw [atKey_mem (K.key hkey) hp hm] at hR
  unfold rawR at hR
  simp only [Option.some.injEq, Prod.mk.injEq, DataW.held.injEq] at hR
  have hh : Maps.has (DataW.map es) kl = true := by
    unfold Maps.has
    simp only [List.any_eq_true]
    exact ⟨_, hm, WideAt.sameKey_self (K.key hkey)⟩
  rw [hr, hR.1, hh]
/-- .. there is none. -/
theorem MapIs.look_ok_no (h : MapIs P k w b l) (K : Keyed P k) (ht : P.underlying t = some (.map k e)) {z : Value} (hz : (zeroValue e).run P w = .ok z w) {key : Value} {kl : Lit} (hkey : keyOf P k key = some kl) (hv : ∀ x ∈ l, x.1 ≠ kl) :
    (Instr.lookup t (.map (some b)) key true).run P w = .ok (.tuple #[z, .bool false]) w := by
  obtain ⟨es, h1, h2⟩ := h
  obtain ⟨u, ps, hr, hR⟩ := h1.look_ok K ht hz (zd := .held z) (zp := []) rfl hkey
  have hn : ∀ p ∈ es, p.1 ≠ kl := fun p hp => by
    have := h2.mem_iff.1 hp
    unfold heldL at this
    obtain ⟨x, hx, rfl⟩ := List.mem_map.1 this
    exact hv x hx
  rw [atKey_none hn] at hR
  unfold rawR at hR
  simp only [Option.some.injEq, Prod.mk.injEq, DataW.held.injEq] at hR
  have hh : Maps.has (DataW.map es) kl = false := by
    unfold Maps.has
    rw [List.any_eq_false]
    exact fun p hp hc => hn p hp (WideAt.sameKey_eq hc)
  rw [hr, hR.1, hh]
end
end Go.Proofs.YtdhjfjnjdkmhjaaDoor
