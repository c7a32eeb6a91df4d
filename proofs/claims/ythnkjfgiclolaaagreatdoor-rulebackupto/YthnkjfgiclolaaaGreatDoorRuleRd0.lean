/- A variable that holds a text ('StrAt'), and what read's closures over it return (package rule): cut and next. -/
import Derived.Test.YthnkjfgiclolaaaGreatDoorMgF
import Derived.Test.YthnkjfgiclolaaaGreatDoorShelfB
import Derived.Test.YthnkjfgiclolaaaGreatDoorMgA
import Derived.Laws.Rows
import Derived.Deep.DeepMust
namespace Go.Proofs.YthnkjfgiclolaaaGreatDoor
open Go.RowKit
set_option linter.unusedVariables false
set_option maxRecDepth 4000

def StrAt (w : World) (g : Nat) (l : List UInt8) : Prop := w.heap[g]? = some (.cells #[.string (mkB l)] 9 (0, 0))
theorem StrAt.lt {w : World} {g : Nat} {l : List UInt8} (h : StrAt w g l) : g < w.heap.size := (Array.getElem?_eq_some_iff.1 h).1
theorem StrAt.keep {w w' : World} {g : Nat} {l : List UInt8} (h : StrAt w g l) (hb : w'.heap[g]? = w.heap[g]?) : StrAt w' g l := hb.trans h
theorem StrAt.cell {w : World} {g : Nat} {l : List UInt8} (h : StrAt w g l) : w.cell? ⟨g, 0, none⟩ = some (.string (mkB l)) := by rw [cell_of_row w g _ _ _ _ h]; rfl
theorem StrAt.free {w : World} {g : Nat} {l : List UInt8} (h : StrAt w g l) : w.frozen? ⟨g, 0, none⟩ = false := frozen_of_row w g 0 _ _ h
theorem StrAt.store {w : World} {g : Nat} {l : List UInt8} (h : StrAt w g l) (m : List UInt8) : ∃ w', w.setCell ⟨g, 0, none⟩ (.string (mkB m)) = w' ∧ StrAt w' g m ∧ Only g w w' :=
  ⟨_, rfl, heap_setCell_same _ g 0 _ _ (.string (mkB m)) h, (Only.refl _ _).setCell _ _⟩
theorem mk_ext (l : List UInt8) : (⟨l.toArray⟩ : ByteArray) = mkB l := rfl
theorem cut1_any (g : Nat) (l p : List UInt8) (w : World) (h : StrAt w g l) :
    Calls Tryz.prog 56 #[.string (mkB p), .pointer (some ⟨g, 0, none⟩)] w fun e w' => e = .returned (.bool (Lib.hasPrefix l p)) ∧ StrAt w' g (Lib.trimPrefix l p) ∧ Only g w w' := by
  have hc := fun w => Tryz.strings_CutPrefix (mkB l) (mkB p) w
  rw [mkB_toList, mkB_toList, mk_ext] at hc
  have c0 := h.cell
  have fz := h.free
  obtain ⟨w1, hw1, s1, o1⟩ := h.store (Lib.trimPrefix l p)
  have H1 : Hid (StrAt w1 g (Lib.trimPrefix l p) ∧ Only g w w1) := ⟨s1, o1⟩
  generalize Lib.trimPrefix l p = m at hc hw1 H1 ⊢
  generalize Lib.hasPrefix l p = t at hc ⊢
  have HW1 : Hid (w.setCell ⟨g, 0, none⟩ (.string (mkB m)) = w1) := hw1
  clear h s1 o1 hw1
  go_enter Tryz.func56, Tryz.ntmps56
  go_upto_region 3 with (go_at_call 57; go_must (refine (hc _).mono ?_; rintro e w2 ⟨rfl, hw2⟩; rw [hw2]; clear hw2))
  rw [HW1.out]
  go_wp2_with fail
  go_ret
  exact ⟨rfl, H1.out⟩
theorem drop_ext (l : List UInt8) (k : Nat) : (mkB l).extract k (mkB l).size = mkB (l.drop k) := by rw [ext_drop, mkB_toList]
set_option maxHeartbeats 1000000 in
theorem nxt_any (g : Nat) (l : List UInt8) (w : World) (h : StrAt w g l) (hl : l.length ≤ 1048576) :
    Calls Tryz.prog 58 #[.pointer (some ⟨g, 0, none⟩)] w fun e w' => e = .returned (.string (mkB (splitC 32 l).1)) ∧ StrAt w' g (l.drop (splitC 32 l).1.length) ∧ Only g w w' := by
  have hc := fun w => strCut_any (mkB l) 32 w (by rw [mkB_size]; unfold maxLen; omega)
  rw [mkB_toList] at hc
  have c0 := h.cell
  have hx := drop_ext l (splitC 32 l).1.length
  have hz := (splitC_len 32 l).1
  have hsz := mkB_size l
  have hsz1 := mkB_size (splitC 32 l).1
  generalize (splitC 32 l).1 = x at hc hx hz hsz1 ⊢
  generalize (splitC 32 l).2.1 = y at hc
  generalize (splitC 32 l).2.2 = t at hc
  obtain ⟨n, hn⟩ : ∃ n, x.length = n := ⟨_, rfl⟩
  obtain ⟨N, hN⟩ : ∃ N, l.length = N := ⟨_, rfl⟩
  rw [hn] at hx hz hsz1 ⊢
  rw [hN] at hz hsz hl
  have HD : Hid (∀ w1, Drew w w1 → StrAt w1 g l ∧ Only g w w1) := fun w1 hd => by
    obtain ⟨k, rfl⟩ := hd
    exact ⟨h, (Only.refl _ _).drewN k⟩
  generalize l.drop n = m at hx ⊢
  have HX : Hid ((mkB l).extract n (mkB l).size = mkB m) := hx
  clear h hx hn hN
  generalize hL : mkB l = L at c0 hc hsz HX
  generalize hXX : mkB x = X at hc hsz1 ⊢
  have HL : Hid (mkB l = L) := hL
  clear hL hXX
  go_enter Tryz.func58, Tryz.ntmps58
  go_upto_region 2 with (go_at_call 59; go_must (refine (hc _).mono ?_; rintro e w1 ⟨rfl, hd⟩))
  have hs1 := (HD.out w1 hd).1
  have ho1 := (HD.out w1 hd).2
  have c1 := hs1.cell
  have fz := hs1.free
  rw [HL.out] at c1
  obtain ⟨w2, hw2, s2, o2⟩ := hs1.store m
  have H2 : Hid (StrAt w2 g m ∧ Only g w w2) := ⟨s2, ho1.trans o2⟩
  have HW2 : Hid (w1.setCell ⟨g, 0, none⟩ (.string (mkB m)) = w2) := hw2
  clear hd hs1 ho1 s2 o2 hw2 hc c0
  go_upto_region 3 with fail
  rw [← hsz, HX.out, HW2.out]
  go_wp2_with fail
  go_ret
  exact ⟨rfl, H2.out⟩
end Go.Proofs.YthnkjfgiclolaaaGreatDoor
