/- What Names returns (package rule) of too long a text. -/
import Derived.Test.YtjhofmmmlemfcaaDoorRuleLin
import Derived.Test.YtjhofmmmlemfcaaDoorLnF
namespace Go.Proofs.YtjhofmmmlemfcaaDoor
open Go.RowKit
set_option linter.unusedVariables false
set_option maxRecDepth 10000

theorem na3 (e : Value) (w : World) : (((w.alloc (.cells #[.slice none 0 0] 22)).alloc (.cells #[.slice none 0 0] 22)).alloc (.cells #[e] 26)).cell? ⟨w.heap.size, 0, none⟩ = some (.slice none 0 0) ∧ (((w.alloc (.cells #[.slice none 0 0] 22)).alloc (.cells #[.slice none 0 0] 22)).alloc (.cells #[e] 26)).cell? ⟨w.heap.size + 1, 0, none⟩ = some (.slice none 0 0) ∧ (((w.alloc (.cells #[.slice none 0 0] 22)).alloc (.cells #[.slice none 0 0] 22)).alloc (.cells #[e] 26)).cell? ⟨w.heap.size + 1 + 1, 0, none⟩ = some e ∧ Below w.heap.size w (((w.alloc (.cells #[.slice none 0 0] 22)).alloc (.cells #[.slice none 0 0] 22)).alloc (.cells #[e] 26)) := by
  have z1 : (w.alloc (.cells #[.slice none 0 0] 22)).heap.size = w.heap.size + 1 := by simp
  have b1 : Below w.heap.size w (w.alloc (.cells #[.slice none 0 0] 22)) := (Below.refl _ _).alloc (Nat.le_refl _) _
  have c1 := heap_alloc_new w (.cells #[.slice none 0 0] 22)
  generalize w.alloc (.cells #[.slice none 0 0] 22) = W1 at z1 b1 c1 ⊢
  have z2 : (W1.alloc (.cells #[.slice none 0 0] 22)).heap.size = w.heap.size + 1 + 1 := by simp; omega
  have b2 : Below W1.heap.size W1 (W1.alloc (.cells #[.slice none 0 0] 22)) := (Below.refl _ _).alloc (Nat.le_refl _) _
  have c2 := heap_alloc_new W1 (.cells #[.slice none 0 0] 22)
  rw [z1] at c2
  have c1 := (b2.block _ (by omega)).trans c1
  have b2 := b1.trans (b2.mono b1.size)
  generalize W1.alloc (.cells #[.slice none 0 0] 22) = W2 at z2 b2 c1 c2 ⊢
  have b3 : Below W2.heap.size W2 (W2.alloc (.cells #[e] 26)) := (Below.refl _ _).alloc (Nat.le_refl _) _
  have c3 := heap_alloc_new W2 (.cells #[e] 26)
  rw [z2] at c3
  have c1 := (b3.block _ (by omega)).trans c1
  have c2 := (b3.block _ (by omega)).trans c2
  exact ⟨(cell1 c1).1, (cell1 c2).1, (cell1 c3).1, b2.trans (b3.mono b2.size)⟩
/-- Too long a text. -/
theorem names_full (text : List UInt8) (w : World) (hl : 2000 < text.length) :
    Calls Tryd.prog 5 #[.string (mkB text)] w fun e w' => e = .returned (.tuple #[.slice none 0 0, .slice none 0 0, .iface 37 (.int .i64 4)]) ∧ Below w.heap.size w w' := by
  have hsz := mkB_size text
  have hn : ((mkB text).size : Int) > 2000 := by rw [hsz]; omega
  generalize mkB text = s at hn
  clear hsz hl
  obtain ⟨c0, c1, c2, hb⟩ := na3 (.iface 37 (.int .i64 4)) w
  have HC := hidR (And.intro c0 (And.intro c1 (And.intro c2 hb)))
  clear c0 c1 c2 hb
  go_enter Tryd.func5, Tryd.ntmps5
  go_wp2
  obtain ⟨c0, c1, c2, hb⟩ := HC.out
  generalize (((w.alloc (.cells #[.slice none 0 0] 22)).alloc (.cells #[.slice none 0 0] 22)).alloc (.cells #[.iface 37 (.int .i64 4)] 26)) = W3 at c0 c1 c2 hb ⊢
  exact bodyPost_ret (v := .tuple #[.slice none 0 0, .slice none 0 0, .iface 37 (.int .i64 4)]) (by simp [results, Tryd.results5, go_sem, c0, c1, c2]) rfl ⟨rfl, hb⟩
end Go.Proofs.YtjhofmmmlemfcaaDoor
