/- What noteOf of package sync returns: the note of at most sixteen numbers in a row of the call's own. -/
import Derived.Test.YtbncegjnjlokmaaDoorSynPar
import Derived.Test.YtbncegjnjlokmaaDoorSynLd
import Derived.Laws.CopyOwn
import Derived.BigRegion
import Derived.Deep.RegionHeld3
import Derived.Deep.DeepCutAuto
namespace Go.Proofs.YtbncegjnjlokmaaDoor
open Go.RowKit
set_option linter.unusedVariables false

theorem and_1 (x : Int) : (bits .and .i64 x 1 != 0) = decide (x % 2 = 1) := by
  have e : bits .and .i64 x 1 = x % 2 := by
    simp only [bits]
    show IntKind.i64.wrap ((((BitVec.ofInt 64 x) &&& (BitVec.ofInt 64 1)).toNat : Nat) : Int) = _
    rw [BitVec.toNat_and, show (BitVec.ofInt 64 1).toNat = 1 from rfl, BitVec.toNat_ofInt, Nat.and_one_is_mod, IntKind.wrap_i64]
    omega
  rw [e]
  rw [Bool.eq_iff_iff]; simp; omega
theorem and_2 (x : Int) : (bits .and .i64 x 2 != 0) = decide (x / 2 % 2 = 1) := by
  have e : bits .and .i64 x 2 = 2 * (x / 2 % 2) := by
    simp only [bits]
    show IntKind.i64.wrap ((((BitVec.ofInt 64 x) &&& (BitVec.ofInt 64 2)).toNat : Nat) : Int) = _
    rw [BitVec.toNat_and, show (BitVec.ofInt 64 2).toNat = 2 from rfl, BitVec.toNat_ofInt, IntKind.wrap_i64]
    generalize hk : (x % ((2 ^ 64 : Nat) : Int)).toNat = k
    have h4 : k &&& 2 = 2 * (k / 2 % 2) := by
      have e1 : (k &&& 2) % 2 ^ 2 = (k % 2 ^ 2) &&& (2 % 2 ^ 2) := Nat.and_mod_two_pow
      have e2 : k &&& 2 ≤ 2 := Nat.and_le_right
      have e3 : (k &&& 2) % 2 ^ 2 = k &&& 2 := Nat.mod_eq_of_lt (by omega)
      rw [← e3, e1]
      have : k % 2 ^ 2 = 0 ∨ k % 2 ^ 2 = 1 ∨ k % 2 ^ 2 = 2 ∨ k % 2 ^ 2 = 3 := by omega
      rcases this with h | h | h | h <;> rw [h] <;> simp <;> omega
    rw [h4]
    omega
  rw [e]
  rw [Bool.eq_iff_iff]; simp; omega
def row16 (l : List Int) : List Value := [.int .i64 (l.getD 0 0), .int .i64 (l.getD 1 0), .int .i64 (l.getD 2 0), .int .i64 (l.getD 3 0), .int .i64 (l.getD 4 0), .int .i64 (l.getD 5 0), .int .i64 (l.getD 6 0), .int .i64 (l.getD 7 0), .int .i64 (l.getD 8 0), .int .i64 (l.getD 9 0), .int .i64 (l.getD 10 0), .int .i64 (l.getD 11 0), .int .i64 (l.getD 12 0), .int .i64 (l.getD 13 0), .int .i64 (l.getD 14 0), .int .i64 (l.getD 15 0)]
theorem splice16 (l : List Int) (h : l.length ≤ 16) : splice [.int .i64 0, .int .i64 0, .int .i64 0, .int .i64 0, .int .i64 0, .int .i64 0, .int .i64 0, .int .i64 0, .int .i64 0, .int .i64 0, .int .i64 0, .int .i64 0, .int .i64 0, .int .i64 0, .int .i64 0, .int .i64 0] 0 (l.map (Value.int .i64)) = row16 l := by
  rw [show row16 l = (List.range 16).map (fun i => Value.int .i64 (l.getD i 0)) from rfl, show ([.int .i64 0, .int .i64 0, .int .i64 0, .int .i64 0, .int .i64 0, .int .i64 0, .int .i64 0, .int .i64 0, .int .i64 0, .int .i64 0, .int .i64 0, .int .i64 0, .int .i64 0, .int .i64 0, .int .i64 0, .int .i64 0] : List Value) = List.replicate 16 (.int .i64 0) from rfl]
  simp only [splice, List.take_zero, List.nil_append, Nat.zero_add, List.length_map, List.drop_replicate]
  apply List.ext_getElem
  · simp; omega
  · intro i h1 h2
    simp only [List.length_map, List.length_range] at h2
    simp only [List.getElem_map, List.getElem_range, List.getElem_append, List.length_map]
    by_cases hi : i < l.length
    · simp [hi, List.getD]
    · simp [hi, List.getD]
def Ar16 (w : World) (b : Nat) (x0 x1 x2 x3 x4 x5 x6 x7 x8 x9 x10 x11 x12 x13 x14 x15 : Int) : Prop := w.heap[b]? = some (.cells #[.int .i64 x0, .int .i64 x1, .int .i64 x2, .int .i64 x3, .int .i64 x4, .int .i64 x5, .int .i64 x6, .int .i64 x7, .int .i64 x8, .int .i64 x9, .int .i64 x10, .int .i64 x11, .int .i64 x12, .int .i64 x13, .int .i64 x14, .int .i64 x15] 96 (0, 0))
theorem Ar16.cells {w : World} {b : Nat} {x0 x1 x2 x3 x4 x5 x6 x7 x8 x9 x10 x11 x12 x13 x14 x15 : Int} (h : Ar16 w b x0 x1 x2 x3 x4 x5 x6 x7 x8 x9 x10 x11 x12 x13 x14 x15) : w.cell? ⟨b, 0, none⟩ = some (.int .i64 x0) ∧ w.cell? ⟨b, 1, none⟩ = some (.int .i64 x1) ∧ w.cell? ⟨b, 2, none⟩ = some (.int .i64 x2) ∧ w.cell? ⟨b, 3, none⟩ = some (.int .i64 x3) ∧ w.cell? ⟨b, 4, none⟩ = some (.int .i64 x4) ∧ w.cell? ⟨b, 5, none⟩ = some (.int .i64 x5) ∧ w.cell? ⟨b, 6, none⟩ = some (.int .i64 x6) ∧ w.cell? ⟨b, 7, none⟩ = some (.int .i64 x7) ∧ w.cell? ⟨b, 8, none⟩ = some (.int .i64 x8) ∧ w.cell? ⟨b, 9, none⟩ = some (.int .i64 x9) ∧ w.cell? ⟨b, 10, none⟩ = some (.int .i64 x10) ∧ w.cell? ⟨b, 11, none⟩ = some (.int .i64 x11) ∧ w.cell? ⟨b, 12, none⟩ = some (.int .i64 x12) ∧ w.cell? ⟨b, 13, none⟩ = some (.int .i64 x13) ∧ w.cell? ⟨b, 14, none⟩ = some (.int .i64 x14) ∧ w.cell? ⟨b, 15, none⟩ = some (.int .i64 x15) := by
  refine ⟨?_, ?_, ?_, ?_, ?_, ?_, ?_, ?_, ?_, ?_, ?_, ?_, ?_, ?_, ?_, ?_⟩ <;> (rw [cell_of_row w b _ _ _ _ h]; rfl)
theorem Ar16.lt {w : World} {b : Nat} {x0 x1 x2 x3 x4 x5 x6 x7 x8 x9 x10 x11 x12 x13 x14 x15 : Int} (h : Ar16 w b x0 x1 x2 x3 x4 x5 x6 x7 x8 x9 x10 x11 x12 x13 x14 x15) : b < w.heap.size := by
  rcases Nat.lt_or_ge b w.heap.size with h1 | h1
  · exact h1
  · unfold Ar16 at h; simp [Array.getElem?_eq_none h1] at h
theorem Ar16.alloc {w : World} {b : Nat} {x0 x1 x2 x3 x4 x5 x6 x7 x8 x9 x10 x11 x12 x13 x14 x15 : Int} (h : Ar16 w b x0 x1 x2 x3 x4 x5 x6 x7 x8 x9 x10 x11 x12 x13 x14 x15) (o : Obj) : Ar16 (w.alloc o) b x0 x1 x2 x3 x4 x5 x6 x7 x8 x9 x10 x11 x12 x13 x14 x15 := by
  have hb := (Below.refl w.heap.size w).alloc (Nat.le_refl _) o
  unfold Ar16; rw [hb.block b h.lt]; exact h
theorem min_len (k : Nat) (h : k ≤ 16) : k = Nat.min k 16 := by show k = min k 16; omega
theorem copy16 (W : World) (g : Nat) (ao : Option Addr) (ca n : Nat) (cs : List Value) (hn : cs.length = n) (h16 : cs.length ≤ 16) (hg : W.heap[g]? = some (.cells ([.int .i64 0, .int .i64 0, .int .i64 0, .int .i64 0, .int .i64 0, .int .i64 0, .int .i64 0, .int .i64 0, .int .i64 0, .int .i64 0, .int .i64 0, .int .i64 0, .int .i64 0, .int .i64 0, .int .i64 0, .int .i64 0] : List Value).toArray 96 (0, 0)))
    (hpos : 0 < cs.length → ∃ ad, ao = some ad ∧ ∀ j v, cs[j]? = some v → W.cell? (ad.add j) = some v) (h1 : ∀ v ∈ cs, v.oneCell' = true) :
    ∃ W3, (Builtin.copy_ #[49, 49] 3 #[.slice (some ⟨g, 0, none⟩) 16 16, .slice ao n ca]).run Tryd.prog W = .ok (goInt cs.length) W3 ∧ W3.heap[g]? = some (.cells (splice [.int .i64 0, .int .i64 0, .int .i64 0, .int .i64 0, .int .i64 0, .int .i64 0, .int .i64 0, .int .i64 0, .int .i64 0, .int .i64 0, .int .i64 0, .int .i64 0, .int .i64 0, .int .i64 0, .int .i64 0, .int .i64 0] 0 cs).toArray 96 (0, 0)) ∧ Below g W W3 := by
  have hzi : (Tryd.prog.info? 3).map (·.size) = some 1 := by kernel_rfl
  have hmin : Nat.min n 16 = n := by show min n 16 = n; omega
  by_cases h0 : cs.length = 0
  · obtain rfl : cs = [] := List.eq_nil_of_length_eq_zero h0
    have hrun := run_copy_none (P := Tryd.prog) W 49 49 3 3 (some ⟨g, 0, none⟩) ao 16 16 n ca Tryd.underlying49 hzi (by rw [hmin, ← hn]; rfl)
    exact ⟨W, hrun, by simpa [splice] using hg, Below.refl _ _⟩
  · obtain ⟨ad, rfl, hsrc⟩ := hpos (by omega)
    have hrun := run_copy_row (P := Tryd.prog) W 49 49 3 3 g 0 16 16 ad n ca _ 96 cs Tryd.underlying49 hzi hg (by rw [hmin]; exact hn) hsrc (by simpa using h16) h1
    exact ⟨_, hrun, by simpa [splice] using setRow_heap W g _ _ 96 _ hg, below_setRow (Below.refl _ _) (Nat.le_refl _) _⟩
set_option maxRecDepth 100000 in
set_option maxHeartbeats 16000000 in
theorem noteOf_any (lv : Value) (l : List Int) (base : Nat) (w : World) (own : OwnI w base lv l) (hl : l.length ≤ 16) :
    Calls Tryd.prog 33 #[lv] w fun e w' => e = .returned (ntV (noteL l)) ∧ Below w.heap.size w w' := by
  obtain ⟨ao, ca, rfl⟩ := own.form
  have own2 := (own.alloc (.cells #[.int .i64 0, .int .i64 0, .int .i64 0, .int .i64 0, .int .i64 0, .int .i64 0, .int .i64 0, .int .i64 0, .int .i64 0, .int .i64 0, .int .i64 0, .int .i64 0, .int .i64 0, .int .i64 0, .bool false, .bool false, .int .i64 0] 29)).alloc (.cells #[.int .i64 0, .int .i64 0, .int .i64 0, .int .i64 0, .int .i64 0, .int .i64 0, .int .i64 0, .int .i64 0, .int .i64 0, .int .i64 0, .int .i64 0, .int .i64 0, .int .i64 0, .int .i64 0, .int .i64 0, .int .i64 0] 96)
  have n2 := (NtAt.zero w).alloc (.cells #[.int .i64 0, .int .i64 0, .int .i64 0, .int .i64 0, .int .i64 0, .int .i64 0, .int .i64 0, .int .i64 0, .int .i64 0, .int .i64 0, .int .i64 0, .int .i64 0, .int .i64 0, .int .i64 0, .int .i64 0, .int .i64 0] 96)
  have a2 : ((w.alloc (.cells #[.int .i64 0, .int .i64 0, .int .i64 0, .int .i64 0, .int .i64 0, .int .i64 0, .int .i64 0, .int .i64 0, .int .i64 0, .int .i64 0, .int .i64 0, .int .i64 0, .int .i64 0, .int .i64 0, .bool false, .bool false, .int .i64 0] 29)).alloc (.cells #[.int .i64 0, .int .i64 0, .int .i64 0, .int .i64 0, .int .i64 0, .int .i64 0, .int .i64 0, .int .i64 0, .int .i64 0, .int .i64 0, .int .i64 0, .int .i64 0, .int .i64 0, .int .i64 0, .int .i64 0, .int .i64 0] 96)).heap[w.heap.size + 1]? = some (.cells ([.int .i64 0, .int .i64 0, .int .i64 0, .int .i64 0, .int .i64 0, .int .i64 0, .int .i64 0, .int .i64 0, .int .i64 0, .int .i64 0, .int .i64 0, .int .i64 0, .int .i64 0, .int .i64 0, .int .i64 0, .int .i64 0] : List Value).toArray 96 (0, 0)) := by
    have h := heap_alloc_new (w.alloc (.cells #[.int .i64 0, .int .i64 0, .int .i64 0, .int .i64 0, .int .i64 0, .int .i64 0, .int .i64 0, .int .i64 0, .int .i64 0, .int .i64 0, .int .i64 0, .int .i64 0, .int .i64 0, .int .i64 0, .bool false, .bool false, .int .i64 0] 29)) (.cells #[.int .i64 0, .int .i64 0, .int .i64 0, .int .i64 0, .int .i64 0, .int .i64 0, .int .i64 0, .int .i64 0, .int .i64 0, .int .i64 0, .int .i64 0, .int .i64 0, .int .i64 0, .int .i64 0, .int .i64 0, .int .i64 0] 96)
    rw [show (w.alloc (.cells #[.int .i64 0, .int .i64 0, .int .i64 0, .int .i64 0, .int .i64 0, .int .i64 0, .int .i64 0, .int .i64 0, .int .i64 0, .int .i64 0, .int .i64 0, .int .i64 0, .int .i64 0, .int .i64 0, .bool false, .bool false, .int .i64 0] 29)).heap.size = w.heap.size + 1 by simp] at h
    exact h
  have b1 : Below w.heap.size w (w.alloc (.cells #[.int .i64 0, .int .i64 0, .int .i64 0, .int .i64 0, .int .i64 0, .int .i64 0, .int .i64 0, .int .i64 0, .int .i64 0, .int .i64 0, .int .i64 0, .int .i64 0, .int .i64 0, .int .i64 0, .bool false, .bool false, .int .i64 0] 29)) := (Below.refl _ _).alloc (Nat.le_refl _) _
  have b2 := b1.alloc b1.size (.cells #[.int .i64 0, .int .i64 0, .int .i64 0, .int .i64 0, .int .i64 0, .int .i64 0, .int .i64 0, .int .i64 0, .int .i64 0, .int .i64 0, .int .i64 0, .int .i64 0, .int .i64 0, .int .i64 0, .int .i64 0, .int .i64 0] 96)
  have s2 : ((w.alloc (.cells #[.int .i64 0, .int .i64 0, .int .i64 0, .int .i64 0, .int .i64 0, .int .i64 0, .int .i64 0, .int .i64 0, .int .i64 0, .int .i64 0, .int .i64 0, .int .i64 0, .int .i64 0, .int .i64 0, .bool false, .bool false, .int .i64 0] 29)).alloc (.cells #[.int .i64 0, .int .i64 0, .int .i64 0, .int .i64 0, .int .i64 0, .int .i64 0, .int .i64 0, .int .i64 0, .int .i64 0, .int .i64 0, .int .i64 0, .int .i64 0, .int .i64 0, .int .i64 0, .int .i64 0, .int .i64 0] 96)).heap.size = w.heap.size + 2 := by simp
  obtain ⟨W2, hW2⟩ : ∃ W2, (w.alloc (.cells #[.int .i64 0, .int .i64 0, .int .i64 0, .int .i64 0, .int .i64 0, .int .i64 0, .int .i64 0, .int .i64 0, .int .i64 0, .int .i64 0, .int .i64 0, .int .i64 0, .int .i64 0, .int .i64 0, .bool false, .bool false, .int .i64 0] 29)).alloc (.cells #[.int .i64 0, .int .i64 0, .int .i64 0, .int .i64 0, .int .i64 0, .int .i64 0, .int .i64 0, .int .i64 0, .int .i64 0, .int .i64 0, .int .i64 0, .int .i64 0, .int .i64 0, .int .i64 0, .int .i64 0, .int .i64 0] 96) = W2 := ⟨_, rfl⟩
  rw [hW2] at own2 n2 a2 b2 s2
  have hpos : 0 < (l.map (Value.int .i64)).length → ∃ ad, ao = some ad ∧ ∀ j v, (l.map (Value.int .i64))[j]? = some v → W2.cell? (ad.add j) = some v := by
    intro h0
    obtain ⟨g, cap, e, hb, hg, _⟩ := own2.shape (by simpa using h0)
    cases e
    refine ⟨_, rfl, ?_⟩
    intro j v hj
    have hjl : j < l.length := by
      rcases Nat.lt_or_ge j l.length with h | h
      · exact h
      · rw [List.getElem?_eq_none (by simpa using h)] at hj; cases hj
    have hc := own2.cell rfl j hjl
    rw [show ((⟨g, 0, none⟩ : Addr).add j) = ⟨g, j, none⟩ by simp [Addr.add]; omega, hc]
    rw [← hj]
    simp [hjl]
  have hzi : (Tryd.prog.info? 3).map (·.size) = some 1 := by kernel_rfl
  have E1 := and_1 (l.getD 14 0)
  have E2 := and_2 (l.getD 14 0)
  have EN : noteL l = { what := l.getD 0 0, seq := l.getD 1 0, fl := { key := { kind := l.getD 2 0, src := l.getD 3 0, frm := l.getD 4 0, dst := l.getD 5 0, too := l.getD 6 0 }, st := l.getD 7 0, unt := l.getD 8 0, stp := l.getD 9 0, h0 := l.getD 10 0, h1 := l.getD 11 0, w0 := l.getD 12 0, w1 := l.getD 13 0, d0 := decide (l.getD 14 0 % 2 = 1), d1 := decide (l.getD 14 0 / 2 % 2 = 1), num := l.getD 15 0 } } := rfl
  have ES := splice16 l hl
  unfold row16 at ES
  rw [EN]
  unfold ntV
  simp only
  generalize decide (l.getD 14 0 % 2 = 1) = d0 at E1 ⊢
  generalize decide (l.getD 14 0 / 2 % 2 = 1) = d1 at E2 ⊢
  generalize l.getD 0 0 = x0 at ES ⊢
  generalize l.getD 1 0 = x1 at ES ⊢
  generalize l.getD 2 0 = x2 at ES ⊢
  generalize l.getD 3 0 = x3 at ES ⊢
  generalize l.getD 4 0 = x4 at ES ⊢
  generalize l.getD 5 0 = x5 at ES ⊢
  generalize l.getD 6 0 = x6 at ES ⊢
  generalize l.getD 7 0 = x7 at ES ⊢
  generalize l.getD 8 0 = x8 at ES ⊢
  generalize l.getD 9 0 = x9 at ES ⊢
  generalize l.getD 10 0 = x10 at ES ⊢
  generalize l.getD 11 0 = x11 at ES ⊢
  generalize l.getD 12 0 = x12 at ES ⊢
  generalize l.getD 13 0 = x13 at ES ⊢
  generalize l.getD 14 0 = x14 at ES E1 E2
  generalize l.getD 15 0 = x15 at ES ⊢
  have h1c : ∀ v ∈ l.map (Value.int .i64), v.oneCell' = true := by
    intro v hv
    obtain ⟨y, _, rfl⟩ := List.mem_map.1 hv
    rfl
  obtain ⟨W3, hrun, h3, b3⟩ := copy16 W2 (w.heap.size + 1) ao ca l.length (l.map (Value.int .i64)) (by simp) (by simpa using hl) a2 hpos h1c
  have a3 : Ar16 W3 (w.heap.size + 1) x0 x1 x2 x3 x4 x5 x6 x7 x8 x9 x10 x11 x12 x13 x14 x15 := by
    unfold Ar16
    rw [h3, ES]
  have n3 := n2.below (by omega) b3
  have b3' : Below w.heap.size w W3 := b2.trans (b3.mono (by omega))
  rw [List.length_map] at hrun
  clear EN own own2 ES hpos h1c b1 h3 a2 n2 b2 b3 s2
  go_enter Tryd.func33, Tryd.ntmps33
  go_upto_region 2 with fail
  try rw [hW2]
  clear hW2
  go_upto_region 3 with fail
  obtain ⟨r0, r1, r2, r3, r4, r5, r6, r7, r8, r9, r10, r11, r12, r13, r14, r15⟩ := a3.cells
  clear hrun hzi hl
  go_cut [4, 5] (fun v4 v5 wc => v4 = .slice (some ⟨w.heap.size + 1, 2, none⟩) 5 14 ∧ v5 = .slice (some ⟨w.heap.size + 1, 7, none⟩) 9 9 ∧ Ar16 wc (w.heap.size + 1) x0 x1 x2 x3 x4 x5 x6 x7 x8 x9 x10 x11 x12 x13 x14 x15 ∧ NtAt wc w.heap.size zeroN ∧ Below w.heap.size w wc)
  case first =>
    go_region
    all_goals (go_wp2_with fail; go_meet; case rel => exact ⟨rfl, rfl, a3, n3, b3'.drew⟩)
  case rest =>
    obtain ⟨rfl, rfl, a4, n4, b4⟩ := hcut
    clear r0 r1 r2 r3 r4 r5 r6 r7 r8 r9 r10 r11 r12 r13 r14 r15 a3 n3 b3'
    obtain ⟨r0, r1, r2, r3, r4, r5, r6, r7, r8, r9, r10, r11, r12, r13, r14, r15⟩ := a4.cells
    have hlt := a4.lt
    go_upto_region 4 with fail
    go_cut [6] (fun v6 wc => ∃ b6, v6 = .pointer (some ⟨b6, 0, none⟩) ∧ FlAt wc b6 { key := { kind := x2, src := x3, frm := x4, dst := x5, too := x6 }, st := x7, unt := x8, stp := x9, h0 := x10, h1 := x11, w0 := x12, w1 := x13, d0 := d0, d1 := d1, num := x15 } ∧ NtAt wc w.heap.size zeroN ∧ Ar16 wc (w.heap.size + 1) x0 x1 x2 x3 x4 x5 x6 x7 x8 x9 x10 x11 x12 x13 x14 x15 ∧ Below w.heap.size w wc)
    case first =>
      have hS : (wc.cell? ⟨w.heap.size + 1, 0, none⟩ = some (.int .i64 x0) ∧ wc.cell? ⟨w.heap.size + 1, 1, none⟩ = some (.int .i64 x1) ∧ wc.cell? ⟨w.heap.size + 1, 2, none⟩ = some (.int .i64 x2) ∧ wc.cell? ⟨w.heap.size + 1, 3, none⟩ = some (.int .i64 x3) ∧ wc.cell? ⟨w.heap.size + 1, 4, none⟩ = some (.int .i64 x4) ∧ wc.cell? ⟨w.heap.size + 1, 5, none⟩ = some (.int .i64 x5) ∧ wc.cell? ⟨w.heap.size + 1, 6, none⟩ = some (.int .i64 x6) ∧ wc.cell? ⟨w.heap.size + 1, 7, none⟩ = some (.int .i64 x7) ∧ wc.cell? ⟨w.heap.size + 1, 8, none⟩ = some (.int .i64 x8) ∧ wc.cell? ⟨w.heap.size + 1, 9, none⟩ = some (.int .i64 x9) ∧ wc.cell? ⟨w.heap.size + 1, 10, none⟩ = some (.int .i64 x10) ∧ wc.cell? ⟨w.heap.size + 1, 11, none⟩ = some (.int .i64 x11) ∧ wc.cell? ⟨w.heap.size + 1, 12, none⟩ = some (.int .i64 x12) ∧ wc.cell? ⟨w.heap.size + 1, 13, none⟩ = some (.int .i64 x13) ∧ wc.cell? ⟨w.heap.size + 1, 14, none⟩ = some (.int .i64 x14) ∧ wc.cell? ⟨w.heap.size + 1, 15, none⟩ = some (.int .i64 x15)) := a4.cells
      go_region_held3 (fun W => (W.cell? ⟨w.heap.size + 1, 0, none⟩ = some (.int .i64 x0) ∧ W.cell? ⟨w.heap.size + 1, 1, none⟩ = some (.int .i64 x1) ∧ W.cell? ⟨w.heap.size + 1, 2, none⟩ = some (.int .i64 x2) ∧ W.cell? ⟨w.heap.size + 1, 3, none⟩ = some (.int .i64 x3) ∧ W.cell? ⟨w.heap.size + 1, 4, none⟩ = some (.int .i64 x4) ∧ W.cell? ⟨w.heap.size + 1, 5, none⟩ = some (.int .i64 x5) ∧ W.cell? ⟨w.heap.size + 1, 6, none⟩ = some (.int .i64 x6) ∧ W.cell? ⟨w.heap.size + 1, 7, none⟩ = some (.int .i64 x7) ∧ W.cell? ⟨w.heap.size + 1, 8, none⟩ = some (.int .i64 x8) ∧ W.cell? ⟨w.heap.size + 1, 9, none⟩ = some (.int .i64 x9) ∧ W.cell? ⟨w.heap.size + 1, 10, none⟩ = some (.int .i64 x10) ∧ W.cell? ⟨w.heap.size + 1, 11, none⟩ = some (.int .i64 x11) ∧ W.cell? ⟨w.heap.size + 1, 12, none⟩ = some (.int .i64 x12) ∧ W.cell? ⟨w.heap.size + 1, 13, none⟩ = some (.int .i64 x13) ∧ W.cell? ⟨w.heap.size + 1, 14, none⟩ = some (.int .i64 x14) ∧ W.cell? ⟨w.heap.size + 1, 15, none⟩ = some (.int .i64 x15))) (with_reducible first | assumption | go_keep) (fail)
      all_goals (go_wp2_with fail; go_meet; case rel => exact ⟨_, rfl, FlAt.new wc { key := { kind := x2, src := x3, frm := x4, dst := x5, too := x6 }, st := x7, unt := x8, stp := x9, h0 := x10, h1 := x11, w0 := x12, w1 := x13, d0 := d0, d1 := d1, num := x15 }, n4.alloc _, a4.alloc _, (b4.alloc b4.size _).drew⟩)
    case rest =>
      clear r0 r1 r2 r3 r4 r5 r6 r7 r8 r9 r10 r11 r12 r13 r14 r15 a4 n4 b4 hlt E1 E2
      obtain ⟨b6, rfl, f5, n5, a5, b5⟩ := hcut
      obtain ⟨r0, r1, r2, r3, r4, r5, r6, r7, r8, r9, r10, r11, r12, r13, r14, r15⟩ := a5.cells
      clear r2 r3 r4 r5 r6 r7 r8 r9 r10 r11 r12 r13 r14 r15
      obtain ⟨g0, g1, g2, g3, g4, g5, g6, g7, g8, g9, g10, g11, g12, g13, g14⟩ := f5.cells
      simp only at g0 g1 g2 g3 g4 g5 g6 g7 g8 g9 g10 g11 g12 g13 g14
      go_wp2_with (refine wpList_store_nt rfl rfl (.tmp 2) (.tmp 71) rfl w.heap.size _ { what := x0, seq := x1, fl := { key := { kind := x2, src := x3, frm := x4, dst := x5, too := x6 }, st := x7, unt := x8, stp := x9, h0 := x10, h1 := x11, w0 := x12, w1 := x13, d0 := d0, d1 := d1, num := x15 } } rfl rfl n5 ?_; intro W6 n6 o6)
      exact bodyPost_ret (res_nt1 rfl _ w.heap.size _ rfl W6 n6) rfl ⟨rfl, o6.below (Nat.le_refl _) b5⟩
end Go.Proofs.YtbncegjnjlokmaaDoor
