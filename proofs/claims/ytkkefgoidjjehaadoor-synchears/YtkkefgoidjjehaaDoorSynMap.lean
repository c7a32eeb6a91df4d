/- Maps from numbers to notes: look-ups that tell whether there is one; the notes that the law SyncHears tells (nK); a hearer in memory ('HeAt'); what NewHearer, Seq and keyOf return. -/
import Derived.Test.YtkkefgoidjjehaaDoorSynHp
import Derived.Test.YtkkefgoidjjehaaDoorSynLd
import Derived.Test.YtkkefgoidjjehaaDoorSynChk
import Derived.Test.YtkkefgoidjjehaaDoorMapL
namespace Go.Proofs.YtkkefgoidjjehaaDoor
open Go.RowKit Go.Maps
set_option linter.unusedVariables false

section
variable {P : Program} {k e t : TypeId} {w : World} {b : Nat} {l : List (Lit × Value)}
theorem MapIs.lookOk (h : MapIs P k w b l) (K : Keyed P k) (ht : P.underlying t = some (.map k e)) {z : Value} (hz : (zeroValue e).run P w = .ok z w) {key : Value} {kl : Lit} (hkey : keyOf P k key = some kl) {v : Value} (hv : (kl, v) ∈ l) :
    (Instr.lookup t (.map (some b)) key true).run P w = .ok (.tuple #[v, .bool true]) w := by
  obtain ⟨es, h1, h2⟩ := h
  obtain ⟨u, ps, hr, hR⟩ := h1.look_ok K ht hz (zd := .held z) (zp := []) rfl hkey
  obtain ⟨es', e, hp⟩ := h1.tidy K
  injection e with e
  subst e
  have hm := h2.mem_iff.2 (heldL_mem (x := (kl, v)).2 hv)
  rw [atKey_mem (K.key hkey) hp hm] at hR
  unfold rawR at hR
  simp only [Option.some.injEq, Prod.mk.injEq, DataW.held.injEq] at hR
  have hh : Maps.has (DataW.map es) kl = true := by
    unfold Maps.has
    simp only [List.any_eq_true]
    exact ⟨_, hm, WideAt.sameKey_self (K.key hkey)⟩
  rw [hr, hR.1, hh]
theorem MapIs.lookOkNo (h : MapIs P k w b l) (K : Keyed P k) (ht : P.underlying t = some (.map k e)) {z : Value} (hz : (zeroValue e).run P w = .ok z w) {key : Value} {kl : Lit} (hkey : keyOf P k key = some kl) (hv : ∀ x ∈ l, x.1 ≠ kl) :
    (Instr.lookup t (.map (some b)) key true).run P w = .ok (.tuple #[z, .bool false]) w := by
  obtain ⟨es, h1, h2⟩ := h
  obtain ⟨u, ps, hr, hR⟩ := h1.look_ok K ht hz (zd := .held z) (zp := []) rfl hkey
  have hn : ∀ p ∈ es, p.1 ≠ kl := fun p hp => by
    have := h2.mem_iff.1 hp
    unfold heldL at this
    obtain ⟨x, hx, rfl⟩ := List.mem_map.1 this
    exact hv x hx
  rw [atKey_none hn] at hR
  unfold rawR at hR
  simp only [Option.some.injEq, Prod.mk.injEq, DataW.held.injEq] at hR
  have hh : Maps.has (DataW.map es) kl = false := by
    unfold Maps.has
    rw [List.any_eq_false]
    exact fun p hp hc => hn p hp (WideAt.sameKey_eq hc)
  rw [hr, hR.1, hh]
end
theorem lawI : Keyed Tryd.prog 3 := int_keyed Tryd.underlying3
theorem litWf {k : Nat} (h : k < 1000000) : (Lit.int .i64 (k : Int)).wf = true := by
  have e1 : IntKind.i64.min = -9223372036854775808 := by decide
  have e2 : IntKind.i64.max = 9223372036854775807 := by decide
  simp [Lit.wf, e1, e2]
  omega
theorem keyI {k : Nat} (h : k < 1000000) : keyOf Tryd.prog 3 (.int .i64 (k : Int)) = some (.int .i64 (k : Int)) := keyOf_int_mk Tryd.underlying3 (litWf h)
theorem same_int (a b : Nat) : (Lit.int .i64 (a : Int)).sameKey (Lit.int .i64 (b : Int)) = decide (a = b) := by
  by_cases h : a = b
  · simp [Lit.sameKey, h]
  · have h2 : ¬ (a : Int) = (b : Int) := by omega
    simp [Lit.sameKey, h, h2]
/-- The key that the law makes of a number. -/
def keyJ (i : Nat) : Ky := { kind := 1 + (i : Int) % 3, src := 10 + (i : Int) % 5, frm := 7, dst := 20 - (i : Int) % 3, too := 7 }
/-- The note that the law tells, by its number. -/
def nK (j : Nat) : Nt := { what := 2, seq := (j : Int), fl := bareF (keyJ (j - 1)) }
theorem nK_ok {j : Nat} (h : j ≤ 1000000) : ntE (nK j) = 0 := by
  have hk : chkE (keyF (keyJ (j - 1))) = 0 := by
    have h1 : kyB (keyJ (j - 1)) = true := by
      unfold kyB keyJ inR
      simp only [Bool.and_eq_true, decide_eq_true_eq]
      omega
    have h2 : fiB (keyF (keyJ (j - 1))) = true := by
      unfold fiB keyF keyJ zeroF inR lifeI
      simp only [Bool.and_eq_true, decide_eq_true_eq]
      have h3 : ((j - 1 : Nat) : Int) % 3 = 0 ∨ ((j - 1 : Nat) : Int) % 3 = 1 ∨ ((j - 1 : Nat) : Int) % 3 = 2 := by omega
      rcases h3 with h3 | h3 | h3 <;> rw [h3] <;> simp
    unfold chkE
    rw [show (keyF (keyJ (j - 1))).key = keyJ (j - 1) from rfl, h1, h2]
    simp [bareB, keyF, zeroF, keyJ]
  unfold ntE nK
  simp only
  rw [if_neg (by simp [manyN]; omega), if_neg (by omega), if_pos trivial, show (bareF (keyJ (j - 1))).key = keyJ (j - 1) from rfl, if_neg (by omega), if_pos (eqF_self _)]
def litN (ν : Nat → Nt) (W : List Nat) : List (Lit × Value) := W.map fun x : Nat => (.int .i64 (x : Int), ntV (ν x))
theorem litN_filter (ν : Nat → Nt) (W : List Nat) (j : Nat) : (litN ν W).filter (fun x => !x.1.sameKey (.int .i64 (j : Int))) = litN ν (W.filter fun x => decide (x ≠ j)) := by
  unfold litN
  rw [List.filter_map]
  congr 1
  apply List.filter_congr
  intro x hx
  simp only [Function.comp, same_int]
  by_cases h : x = j <;> simp [h]
theorem litN_mem {ν : Nat → Nt} {W : List Nat} {j : Nat} (h : j ∈ W) : (Lit.int .i64 (j : Int), ntV (ν j)) ∈ litN ν W := List.mem_map.2 ⟨j, h, rfl⟩
theorem litN_no {ν : Nat → Nt} {W : List Nat} {j : Nat} (h : j ∉ W) : ∀ x ∈ litN ν W, x.1 ≠ .int .i64 (j : Int) := by
  intro x hx e
  obtain ⟨y, hy, rfl⟩ := List.mem_map.1 hx
  simp only [Lit.int.injEq, true_and] at e
  exact h (by rw [← show y = j by omega]; exact hy)
theorem zeroNt (w : World) : (zeroValue 29).run Tryd.prog w = .ok (ntV zeroN) w := by
  have h : (Tryd.prog.info? 29).map (fun i => i.zero) = some (some (ntV zeroN)) := by kernel_rfl
  obtain ⟨i0, hi, hz0⟩ := Option.map_eq_some_iff.1 h
  simp [zeroValue, typeInfo, hi, hz0]
/-- A hearer in memory. -/
def HeAt (ν : Nat → Nt) (w : World) (b m s : Nat) (W : List Nat) : Prop := w.heap[b]? = some (.cells #[.int .i64 (s : Int), .map (some m)] 67 (0, 0)) ∧ MapIs Tryd.prog 3 w m (litN ν W)
theorem HeAt.lt {w : World} {b m s : Nat} {ν : Nat → Nt} {W : List Nat} (h : HeAt ν w b m s W) : b < w.heap.size := (Array.getElem?_eq_some_iff.1 h.1).1
theorem HeAt.ne {w : World} {b m s : Nat} {ν : Nat → Nt} {W : List Nat} (h : HeAt ν w b m s W) : b ≠ m := fun e => h.2.not_cells (e ▸ h.1)
theorem HeAt.below {w w' : World} {b m s B : Nat} {ν : Nat → Nt} {W : List Nat} (h : HeAt ν w b m s W) (hB : w.heap.size ≤ B) (hb : Below B w w') : HeAt ν w' b m s W :=
  ⟨by rw [hb.block b (Nat.lt_of_lt_of_le h.lt hB)]; exact h.1, h.2.block (hb.block m (Nat.lt_of_lt_of_le h.2.lt hB))⟩
theorem HeAt.alloc {w : World} {b m s : Nat} {ν : Nat → Nt} {W : List Nat} (h : HeAt ν w b m s W) (o : Obj) : HeAt ν (w.alloc o) b m s W := h.below (Nat.le_refl _) ((Below.refl _ _).alloc (Nat.le_refl _) _)
theorem HeAt.drew {w : World} {b m s : Nat} {ν : Nat → Nt} {W : List Nat} (h : HeAt ν w b m s W) : HeAt ν w.drew b m s W := ⟨h.1, h.2.block rfl⟩
theorem HeAt.cells {w : World} {b m s : Nat} {ν : Nat → Nt} {W : List Nat} (h : HeAt ν w b m s W) : w.cell? ⟨b, 0, none⟩ = some (.int .i64 (s : Int)) ∧ w.cell? ⟨b, 1, none⟩ = some (.map (some m)) := by
  constructor <;> (rw [cell_of_row w b _ _ _ _ h.1]; rfl)
theorem HeAt.free {w : World} {b m s : Nat} {ν : Nat → Nt} {W : List Nat} (h : HeAt ν w b m s W) : w.frozen? ⟨b, 0, none⟩ = false := frozen_of_row w b 0 _ _ h.1
set_option maxHeartbeats 4000000 in
theorem heNew_any (ν : Nat → Nt) (w : World) :
    Calls Tryd.prog 8 #[] w fun e w' => ∃ b m, e = .returned (.pointer (some ⟨b, 0, none⟩)) ∧ w.heap.size ≤ b ∧ w.heap.size ≤ m ∧ HeAt ν w' b m 0 [] ∧ Below w.heap.size w w' := by
  have hb := (Below.refl w.heap.size w).alloc (Nat.le_refl _) (.map #[] 0)
  have h1 : HeAt ν ((w.alloc (.map #[] 0)).alloc (.cells #[.int .i64 0, .map (some w.heap.size)] 67)) (w.heap.size + 1) w.heap.size 0 [] := by
    refine ⟨?_, (MapIs.made Tryd.prog 3 w).block (Below.heap_alloc _ _ _ (by simp))⟩
    have h := heap_alloc_new (w.alloc (.map #[] 0)) (.cells #[.int .i64 0, .map (some w.heap.size)] 67)
    rw [show (w.alloc (.map #[] 0)).heap.size = w.heap.size + 1 by simp] at h
    exact h
  have h2 := hb.alloc hb.size (.cells #[.int .i64 0, .map (some w.heap.size)] 67)
  have hmm := @run_makeMap Tryd.prog
  go_enter Tryd.func8, Tryd.ntmps8
  go_wp2_with fail
  go_ret
  exact ⟨w.heap.size + 1, w.heap.size, by simp, by omega, Nat.le_refl _, h1, h2⟩
set_option maxHeartbeats 4000000 in
theorem heSeq_any (ν : Nat → Nt) (b m s : Nat) (W : List Nat) (w : World) (h : HeAt ν w b m s W) :
    Calls Tryd.prog 10 #[.pointer (some ⟨b, 0, none⟩)] w fun e w' => e = .returned (.int .i64 (s : Int)) ∧ w' = w := by
  obtain ⟨c0, c1⟩ := h.cells
  go_enter Tryd.func10, Tryd.ntmps10
  go_wp2
  go_ret
  exact ⟨rfl, rfl⟩
end Go.Proofs.YtkkefgoidjjehaaDoor
