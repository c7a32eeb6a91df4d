/- What slices.Clone and slices.SortFunc leave of a slice of prefixes, where the comparison is of their addresses (the program's closure in package addr). -/
import Derived.Test.YtkjjalaelehjeabDoorSort
import Derived.Test.YtkjjalaelehjeabDoorShelf
import Derived.Test.YtkjjalaelehjeabDoorOwnP
import Derived.Test.YtkjjalaelehjeabDoorPrefs
import Derived.Shelf.SlSortFuncK.ComposeK
namespace Go.Proofs.YtkjjalaelehjeabDoor
open Go.RowKit
open Go.Sort hiding Below
set_option linter.unusedVariables false

def encP (x : Int × Int) : List Value := [.int .i64 x.1, .int .i64 x.2]
def cmpP (x y : Int × Int) : Int := Lib.compareInt x.1 y.1
theorem ltP (x y : Int × Int) : ltOf cmpP x y = decide (x.1 < y.1) := by
  unfold ltOf cmpP Lib.compareInt
  by_cases h1 : x.1 < y.1
  · simp [h1]
  · by_cases h2 : y.1 < x.1 <;> simp [h1, h2]
theorem swoP : SWO (ltOf cmpP) := {
  irrefl := fun x => by rw [ltP]; simp
  trans := fun x y z h1 h2 => by rw [ltP] at *; simp at *; omega
  ntrans := fun x y z h1 h2 => by rw [ltP] at *; simp at *; omega }

set_option maxHeartbeats 1000000 in
theorem closure_any (x y : Int × Int) (W : World) : Calls Tryd.prog 26 #[.agg #[.int .i64 x.1, .int .i64 x.2], .agg #[.int .i64 y.1, .int .i64 y.2]] W fun e w' => e = .returned (.int .i64 (cmpP x y)) ∧ ∃ q os', w' = grow (W.drewN q) os' := by
  have hcon := fun W' => Tryd.cmp_Compare_int x.1 y.1 W'
  unfold cmpP
  generalize Lib.compareInt x.1 y.1 = r at hcon ⊢
  go_enter Tryd.func26, Tryd.ntmps26
  go_wp2_with (go_at_call 27; refine (hcon _).mono ?_; rintro e w' ⟨rfl, rfl⟩)
  go_ret
  exact ⟨rfl, 0, _, by rw [alloc_eq_grow, alloc_eq_grow, grow_grow]; rfl⟩
theorem cmpLaysP (blk off size : Nat) (w : World) : CmpLays Tryd.prog 26 #[] encP 2 cmpP blk off size w :=
  fun _ _ _ _ x y => closure_any x y _

theorem below_sorted {w : World} {B blk off m : Nat} {d : Array (Int × Int)} {os : Array Obj} (hB : B ≤ blk) (hw : B ≤ w.heap.size) : Below B w (sortWorldK encP 2 w blk off m d os) := by
  refine ⟨rfl, rfl, rfl, ?_, ?_⟩
  · simp [sortWorldK, putRowK, putRow, mapBlock, grow, Sort.ahead]
  · intro j hj
    have h1 : j < w.heap.size := Nat.lt_of_lt_of_le hj hw
    have h2 : blk ≠ j := by omega
    have e : ∀ f, (w.heap.modify blk f)[j]? = w.heap[j]? := fun f => by rw [Array.getElem?_modify, if_neg h2]
    show ((w.heap.modify blk _) ++ os)[j]? = w.heap[j]?
    rw [Array.getElem?_append_left (by simpa using h1)]
    exact e _

theorem pairCells_get : ∀ (ps : List (Int × Int)) (t : Nat), t < ps.length * 2 → (pairCells ps)[t]? = some ((encP (ps.getD (t / 2) (0, 0)))[t % 2]!)
  | [], t, h => by simp at h
  | p :: r, 0, h => by simp [pairCells, encP]
  | p :: r, 1, h => by simp [pairCells, encP]
  | p :: r, t + 2, h => by
      have ih := pairCells_get r t (by simp at h; omega)
      have e : pairCells (p :: r) = .int .i64 p.1 :: .int .i64 p.2 :: pairCells r := by simp [pairCells]
      have e1 : (t + 2) / 2 = t / 2 + 1 := by omega
      have e2 : (t + 2) % 2 = t % 2 := by omega
      rw [e, e1, e2]
      simpa [List.getD] using ih
theorem getBang (ps : List (Int × Int)) (i : Nat) (h : i < ps.length) : ps.toArray[i]! = ps.getD i (0, 0) := by
  rw [getElem!_pos _ i (by simpa using h)]
  simp [List.getD, h]
theorem arrBang (d : Array (Int × Int)) (i : Nat) (h : i < d.size) : d[i]! = d.toList.getD i (0, 0) := by
  rw [getElem!_pos _ i h]
  simp [List.getD, h]

set_option maxHeartbeats 1000000 in
/-- The sort leaves a permutation, rising by address. -/
theorem sort_any (w : World) (base : Nat) (v : Value) (ps : List (Int × Int)) (hown : OwnP w base v ps) (hw : ∀ p ∈ ps, (Lit.int .i64 p.1).wf = true ∧ (Lit.int .i64 p.2).wf = true) (hz : 0 < ps.length) (hl : ps.length ≤ 1000) (hb : base ≤ w.heap.size) :
    Calls Tryd.prog 25 #[v, .func (.func 26) #[] #[]] w fun e w' => e = .returned (.tuple #[]) ∧ ∃ qs, qs.Perm ps ∧ qs.Pairwise (fun p q => p.1 ≤ q.1) ∧ Prefs w' v qs ∧ Below base w w' := by
  have hh := hown
  obtain ⟨h1, h2⟩ := hown
  rcases h2 with ⟨_, h0⟩ | ⟨g, cap, cur, rfl, hbg, hg, hnc, hcm, hcs, htake⟩
  · omega
  have hglt : g < w.heap.size := by
    rcases Nat.lt_or_ge g w.heap.size with h | h
    · exact h
    · simp [Array.getElem?_eq_none h] at hg
  have hH : HoldsK encP 2 w g 0 ps.toArray := by
    intro j hj
    have hj' : j < ps.length * 2 := by simpa using hj
    have c := World.ownsRow.cellAt hh j hj'
    have f := World.ownsRow.frozenAt hh j
    rw [Nat.zero_add]
    refine ⟨?_, f⟩
    rw [c, pairCells_get ps j hj', get_flatK encP 2 ps.toArray j (by simpa using hj'), getBang ps (j / 2) (by omega)]
    rfl
  have eg : ∀ args w, (callFunc 26 args).run Tryd.prog w = .ok (.enter 26 args) w := enters_of Tryd.func26 (by kernel_rfl) rfl
  have hcon := AnyQ.slices_SortFunc Tryd.sortP 2 Tryd.isAgg28 Tryd.sizeOf28 encP (fun _ => rfl) (fun x v hv => by simp [encP] at hv; rcases hv with rfl | rfl <;> rfl) cmpP swoP 26 #[] g 0 cap ps.toArray w eg (cmpLaysP g 0 ps.toArray.size w) hH hglt (by simp; omega)
  refine hcon.mono ?_
  rintro e w' ⟨rfl, d', n, os, hp, hs, rfl⟩
  obtain ⟨hsz, _, hperm⟩ := hp
  have hsz' : d'.size = ps.length := by simpa using hsz
  have e1 : d'.extract 0 ps.toArray.size = d' := by rw [← hsz]; simp
  have e2 : ps.toArray.extract 0 ps.toArray.size = ps.toArray := by simp
  rw [e1, e2] at hperm
  have hperm' : d'.toList.Perm ps := by simpa using hperm
  have hK := holdsK_sortWorldK encP 2 w g 0 n ps.toArray d' os hglt hH hsz
  refine ⟨rfl, d'.toList, hperm', ?_, ?_, below_sorted hbg hb⟩
  · rw [List.pairwise_iff_getElem]
    intro i j hi hj hij
    have hi' : i < d'.size := by simpa using hi
    have hj' : j < d'.size := by simpa using hj
    have := hs i j (Nat.zero_le _) hij (by rw [← hsz]; exact hj')
    rw [ltP, getElem!_pos d' j hj', getElem!_pos d' i hi'] at this
    have := of_decide_eq_false this
    simp at this ⊢
    exact this
  · refine .inr ⟨g, 0, ps.length, cap, rfl, hnc, hcm, by simpa using hsz', fun i hi => ?_, fun p hp => hw p (hperm'.mem_iff.1 hp)⟩
    have hi' : i < d'.size := by simpa using hi
    have k0 := (hK (i * 2) (by simp; omega)).1
    have k1 := (hK (i * 2 + 1) (by simp; omega)).1
    rw [get_flatK encP 2 d' _ (by omega)] at k0 k1
    have a0 : i * 2 / 2 = i := by omega
    have a1 : (i * 2 + 1) / 2 = i := by omega
    have b0 : i * 2 % 2 = 0 := by omega
    have b1 : (i * 2 + 1) % 2 = 1 := by omega
    rw [a0, b0, arrBang d' i hi'] at k0
    rw [a1, b1, arrBang d' i hi'] at k1
    exact ⟨k0, by rw [Nat.add_assoc]; exact k1⟩

theorem Tryd.eqlNil (w : World) (a : Option Addr) (n c n' c' : Nat) : (binOp .eql 22 (.slice a n c) (.slice none n' c')).run Tryd.prog w = .ok (.bool a.isNone) w := Lib.run_eql_slice_nil w _ _ a n c n' c' Tryd.underlying22

set_option maxHeartbeats 2000000 in
set_option maxRecDepth 100000 in
/-- The clone of a slice of prefixes is a row of the call's own. -/
theorem clone_any (w : World) (v : Value) (ps : List (Int × Int)) (hv : Prefs w v ps) (hl : ps.length ≤ 1000) :
    Calls Tryd.prog 24 #[v] w fun e w' => ∃ v', e = .returned v' ∧ OwnP w' w.heap.size v' ps ∧ Below w.heap.size w w' := by
  have qn := fun w a n c n' c' => Tryd.eqlNil w a n c n' c'
  obtain ⟨i0, hi, hz0, hz1, hz2⟩ := info_parts Tryd.infoPref
  have key : ∀ (ad : Addr) (n c : Nat), n = ps.length → (∀ j u, (pairCells ps)[j]? = some u → w.cell? (ad.add j) = some u) →
      Calls Tryd.prog 24 #[.slice (some ad) n c] w fun e w' => ∃ v', e = .returned v' ∧ OwnP w' w.heap.size v' ps ∧ Below w.heap.size w w' := by
    intro ad n c hn hc
    have A : Aside (∀ j u, (pairCells ps)[j]? = some u → w.cell? (ad.add j) = some u) := hc
    have hn1 : n ≤ ps.length := by omega
    have hn2 : ps.length ≤ n := by omega
    have HN : Hid (n = ps.length) := hn
    clear hc hn
    go_enter Tryd.func24, Tryd.ntmps24
    go_wp2_with (at_builtin; refine wpList_append_own _ rfl _ _ 22 rfl w.heap.size 28 i0 (.agg #[.int .i64 0, .int .i64 0]) 2 16 Tryd.underlying22 hi hz0 hz1 hz2 rfl (by decide) _ _ _ rfl (World.ownsRow_made w #[] 0 (Nat.le_refl _) (Nat.zero_le _) (by simp)) ad n c (pairCells ps) rfl ?qc1 ?qc2 ?qc3 ?qc4 ?qc5 ?qc6 ?_)
    case qc1 => rw [pairCells_len, HN.out]
    case qc2 =>
      intro j u hj
      have c := A.out j u hj
      have hlt : (ad.add j).block < w.heap.size := by
        rcases Nat.lt_or_ge (ad.add j).block w.heap.size with h | h
        · exact h
        · simp [World.cell?, Array.getElem?_eq_none h] at c
      rw [((Below.refl w.heap.size w).alloc (Nat.le_refl _) _).cell hlt]; exact c
    case qc3 => exact pairCells_one ps
    case qc4 => unfold maxLen; omega
    case qc5 => omega
    case qc6 => simp
    intro v' w1 hown hgrow hnil
    go_wp2
    go_ret
    refine ⟨v', rfl, ?_, ((Below.refl _ w).alloc (Nat.le_refl _) _).grown hgrow (by simp) (by intro k hk; simp [Value.ownBlock] at hk; omega)⟩
    have e := HN.out
    unfold OwnP
    rw [← e]; simpa using hown
  rcases hv with ⟨rfl, a, cap, rfl, ha⟩ | ⟨b, off, len, cap, rfl, hlc, hcm, hlen, hcell, _⟩
  · cases a with
    | none =>
      go_enter Tryd.func24, Tryd.ntmps24
      go_wp2
      go_ret
      exact ⟨_, rfl, OwnP.nil _ _, Below.refl _ _⟩
    | some ad => exact key ad 0 cap rfl (fun j u hj => by simp [pairCells] at hj)
  · refine key ⟨b, off, none⟩ len cap hlen.symm ?_
    intro j u hj
    have hj' : j < ps.length * 2 := by
      rcases Nat.lt_or_ge j (ps.length * 2) with h | h
      · exact h
      · rw [List.getElem?_eq_none (by rw [pairCells_len]; exact h)] at hj; cases hj
    rw [pairCells_get ps j hj'] at hj
    obtain ⟨c0, c1⟩ := hcell (j / 2) (by omega)
    rw [add_lit]
    rcases Nat.mod_two_eq_zero_or_one j with h | h
    · have e : off + j = off + j / 2 * 2 := by omega
      rw [e, c0, ← hj, h]; rfl
    · have e : off + j = off + j / 2 * 2 + 1 := by omega
      rw [e, c1, ← hj, h]; rfl
end Go.Proofs.YtkjjalaelehjeabDoor
