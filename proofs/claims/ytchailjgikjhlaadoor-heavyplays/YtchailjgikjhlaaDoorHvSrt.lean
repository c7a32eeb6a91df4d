/- What slices.SortFunc leaves of a slice of counts, where ranked of package heavy tells which is ahead: the same counts, the greatest first. -/
import Derived.Test.YtchailjgikjhlaaDoorSortK
import Derived.Test.YtchailjgikjhlaaDoorHvCmp
import Derived.Test.YtchailjgikjhlaaDoorHvRow
import Derived.Shelf.SlSortFuncK.ComposeK
namespace Go.Proofs.YtchailjgikjhlaaDoor
open Go.RowKit
open Go.Sort hiding Below
set_option linter.unusedVariables false

instance : Inhabited Ct := ⟨zeroCt⟩
theorem ltCt (x y : Ct) : ltOf cmpC x y = true ↔ LtC x y := by
  unfold ltOf
  rw [decide_eq_true_iff]
  exact cmpC_neg x y
theorem swoK : SWO (ltOf cmpC) := {
  irrefl := fun x => by
    cases h : ltOf cmpC x x
    · rfl
    · exact absurd ((ltCt x x).1 h) (LtC_irr x)
  trans := fun x y z h1 h2 => (ltCt x z).2 (LtC_trans ((ltCt x y).1 h1) ((ltCt y z).1 h2))
  ntrans := fun x y z h1 h2 => by
    cases h : ltOf cmpC x z
    · rfl
    · have h3 := (ltCt x z).1 h
      have n1 : ¬ LtC x y := fun h => by rw [(ltCt x y).2 h] at h1; cases h1
      have n2 : ¬ LtC y z := fun h => by rw [(ltCt y z).2 h] at h2; cases h2
      exfalso
      unfold LtC at *
      omega }
theorem cmpLaysK (blk off size : Nat) (w : World) : CmpLays Tryd.prog 27 #[] ctRow 3 cmpC blk off size w :=
  fun _ _ _ _ x y => ccmp_any x y _
theorem kbelow_sorted {w : World} {B blk off m : Nat} {d : Array Ct} {os : Array Obj} (hB : B ≤ blk) (hw : B ≤ w.heap.size) : Below B w (sortWorldK ctRow 3 w blk off m d os) := by
  refine ⟨rfl, rfl, rfl, ?_, ?_⟩
  · simp [sortWorldK, putRowK, putRow, mapBlock, grow, Sort.ahead]
  · intro j hj
    have h1 : j < w.heap.size := Nat.lt_of_lt_of_le hj hw
    have h2 : blk ≠ j := by omega
    have e : ∀ f, (w.heap.modify blk f)[j]? = w.heap[j]? := fun f => by rw [Array.getElem?_modify, if_neg h2]
    show ((w.heap.modify blk _) ++ os)[j]? = w.heap[j]?
    rw [Array.getElem?_append_left (by simpa using h1)]
    exact e _
theorem kblock_sorted {w : World} {blk off m : Nat} {d : Array Ct} {os : Array Obj} : ∀ k, k ≠ blk → k < w.heap.size → (sortWorldK ctRow 3 w blk off m d os).heap[k]? = w.heap[k]? := by
  intro j hj h1
  have h2 : blk ≠ j := fun e => hj e.symm
  have e : ∀ f, (w.heap.modify blk f)[j]? = w.heap[j]? := fun f => by rw [Array.getElem?_modify, if_neg h2]
  show ((w.heap.modify blk _) ++ os)[j]? = w.heap[j]?
  rw [Array.getElem?_append_left (by simpa using h1)]
  exact e _
theorem ctRow_len (k : Ct) : (ctRow k).length = 3 := rfl
theorem ctCells_get (ks : List Ct) (t : Nat) (h : t < ks.length * 3) : (ks.flatMap ctRow)[t]? = some ((ctRow (ks.getD (t / 3) zeroCt))[t % 3]!) := by
  have hi : t / 3 < ks.length := by omega
  have e := encs_get (n := 3) ctRow_len ks (t / 3) hi (t % 3) (by omega)
  rw [show t / 3 * 3 + t % 3 = t by omega] at e
  rw [e]
  have hg : ks.getD (t / 3) zeroCt = ks[t / 3] := by simp [List.getD, hi]
  rw [hg]
  have hm : t % 3 < (ctRow ks[t / 3]).length := by rw [ctRow_len]; omega
  rw [List.getElem?_eq_getElem hm, getElem!_pos (ctRow ks[t / 3]) (t % 3) hm]
theorem kgetBang (ks : List Ct) (i : Nat) (h : i < ks.length) : ks.toArray[i]! = ks.getD i zeroCt := by
  rw [getElem!_pos _ i (by simpa using h)]
  simp [List.getD, h]
theorem karrBang (d : Array Ct) (i : Nat) (h : i < d.size) : d[i]! = d.toList.getD i zeroCt := by
  rw [getElem!_pos _ i h]
  simp [List.getD, h]
/-- The value v is a slice of these counts. -/
def Cts (w : World) (v : Value) (ks : List Ct) : Prop :=
  (ks = [] ∧ v = .slice none 0 0) ∨
  ∃ b len cap, v = .slice (some ⟨b, 0, none⟩) len cap ∧ len ≤ cap ∧ cap ≤ maxLen ∧ ks.length = len ∧ b < w.heap.size ∧ ∀ i (h : i < ks.length), w.cell? ⟨b, i * 3 + 0, none⟩ = some (.int .i64 ks[i].key) ∧ w.cell? ⟨b, i * 3 + 1, none⟩ = some (.int .i64 ks[i].many) ∧ w.cell? ⟨b, i * 3 + 2, none⟩ = some (.int .i64 ks[i].less)
set_option maxHeartbeats 2000000 in
set_option maxRecDepth 100000 in
theorem csort_keeps (w : World) (base : Nat) (v : Value) (ks : List Ct) (hown : OwnCt w base v ks) (hl : ks.length ≤ 1000) (hb : base ≤ w.heap.size) :
    Calls Tryd.prog 26 #[v, .func (.func 27) #[] #[]] w fun e w' => e = .returned (.tuple #[]) ∧ ∃ qs, qs.Perm ks ∧ qs.Pairwise (fun p q => ¬ LtC q p) ∧ Cts w' v qs ∧ Below base w w' ∧ ∀ k, v.ownBlock ≠ some k → k < w.heap.size → w'.heap[k]? = w.heap[k]? := by
  have hh := hown
  obtain ⟨h1, h2⟩ := hown
  rcases h2 with ⟨rfl, h0⟩ | ⟨g, cap, cur, rfl, hbg, hg, hnc, hcm, hcs, htake⟩
  · have hk : ks = [] := List.eq_nil_of_length_eq_zero h0
    subst hk
    refine (AnyF.slices_SortFunc_none Tryd.sortK none 0 _ w).mono fun e w' ⟨he, hw⟩ => ?_
    exact ⟨he, [], .refl _, .nil, .inl ⟨rfl, rfl⟩, by rw [hw]; exact Below.refl _ _, fun k _ _ => by rw [hw]⟩
  have hglt : g < w.heap.size := blkLt hg
  have hH : HoldsK ctRow 3 w g 0 ks.toArray := by
    intro j hj
    have hj' : j < ks.length * 3 := by simpa using hj
    have c := World.ownsRow.cellAt hh j hj'
    have f := World.ownsRow.frozenAt hh j
    rw [Nat.zero_add]
    refine ⟨?_, f⟩
    rw [c, ctCells_get ks j hj', get_flatK ctRow 3 ks.toArray j (by simpa using hj'), kgetBang ks (j / 3) (by omega)]
    rfl
  have eg : ∀ args w, (callFunc 27 args).run Tryd.prog w = .ok (.enter 27 args) w := enters_of Tryd.func27 (by kernel_rfl) rfl
  have hcon := AnyQ.slices_SortFunc Tryd.sortK 3 Tryd.isAgg37 Tryd.sizeOf37 ctRow (fun _ => rfl) (fun x v hv => by simp [ctRow] at hv; rcases hv with rfl | rfl | rfl <;> rfl) cmpC swoK 27 #[] g 0 cap ks.toArray w eg (cmpLaysK g 0 ks.toArray.size w) hH hglt (by simp; omega)
  refine hcon.mono ?_
  rintro e w' ⟨rfl, d', n, os, hp, hs, rfl⟩
  obtain ⟨hsz, _, hperm⟩ := hp
  have hsz' : d'.size = ks.length := by simpa using hsz
  have e1 : d'.extract 0 ks.toArray.size = d' := by rw [← hsz]; simp
  have e2 : ks.toArray.extract 0 ks.toArray.size = ks.toArray := by simp
  rw [e1, e2] at hperm
  have hperm' : d'.toList.Perm ks := by simpa using hperm
  have hK := holdsK_sortWorldK ctRow 3 w g 0 n ks.toArray d' os hglt hH hsz
  refine ⟨rfl, d'.toList, hperm', ?_, ?_, kbelow_sorted hbg hb, fun k hk hlt => kblock_sorted k (fun e => hk (by rw [e]; rfl)) hlt⟩
  · rw [List.pairwise_iff_getElem]
    intro i j hi hj hij
    have hi' : i < d'.size := by simpa using hi
    have hj' : j < d'.size := by simpa using hj
    have := hs i j (Nat.zero_le _) hij (by rw [← hsz]; exact hj')
    rw [getElem!_pos d' j hj', getElem!_pos d' i hi'] at this
    intro hlt
    have h3 := (ltCt d'[j] d'[i]).2 hlt
    rw [h3] at this
    cases this
  · refine .inr ⟨g, ks.length, cap, rfl, hnc, hcm, by simpa using hsz', ?_, fun i hi => ?_⟩
    · exact Nat.lt_of_lt_of_le hglt (kbelow_sorted (Nat.le_refl _) (Nat.le_of_lt hglt)).size
    · have hi' : i < d'.size := by simpa using hi
      have kk : ∀ j, j < 3 → (sortWorldK ctRow 3 w g 0 n d' os).cell? ⟨g, i * 3 + j, none⟩ = some ((ctRow (d'.toList[i]'hi))[j]!) := by
        intro j hj
        have k0 := (hK (i * 3 + j) (by simp; omega)).1
        rw [get_flatK ctRow 3 d' _ (by omega)] at k0
        have a0 : (i * 3 + j) / 3 = i := by omega
        have b0 : (i * 3 + j) % 3 = j := by omega
        rw [a0, b0, karrBang d' i hi', Nat.zero_add] at k0
        rw [k0]
        congr 2
        simp [List.getD, hi']
      exact ⟨kk 0 (by omega), kk 1 (by omega), kk 2 (by omega)⟩
end Go.Proofs.YtchailjgikjhlaaDoor
