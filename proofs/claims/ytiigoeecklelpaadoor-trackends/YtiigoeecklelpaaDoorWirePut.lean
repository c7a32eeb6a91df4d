/- What upTo, get, put and fresh of package wire return, for the bytes that its callers hand them: a number read of bytes, and bytes filled with a number, the high one first. -/
import Derived.Test.YtiigoeecklelpaaDoorWireRow0
import Derived.Test.YtiigoeecklelpaaDoorWireMath
import Derived.Deep.DeepCutAuto
import Derived.Outline
namespace Go.Proofs.YtiigoeecklelpaaDoor
open Go.RowKit
set_option linter.unusedVariables false

/-- The number that bytes are, the high one first. -/
def numL : Int → List Int → Int
  | n, [] => n
  | n, c :: r => numL (n * 256 + c) r
theorem numL_drop (l : List Int) (k : Nat) (n : Int) (h : k < l.length) : numL n (l.drop k) = numL (n * 256 + l.getD k 0) (l.drop (k + 1)) := by
  rw [List.drop_eq_getElem_cons h]
  simp [numL, List.getD, List.getElem?_eq_getElem h]
theorem numL_drop0 (l : List Int) (k : Nat) (n : Int) (h : l.length ≤ k) : numL n (l.drop k) = n := by
  rw [List.drop_eq_nil_of_le h, numL]
theorem wraps_i64' (n : Int) (h₀ : 0 ≤ n) (h₁ : n < 2 ^ 40) : IntKind.i64.wrap n = n := by rw [IntKind.wrap_i64]; omega
theorem or8' (x y : Int) (h0 : 0 ≤ x) (h1 : x ≤ 4294967295) (h2 : 0 ≤ y) (h3 : y ≤ 255) : bits .or .i64 (x * 256) y = x * 256 + y :=
  bits_join .i64 40 (by decide) wraps_i64' 8 _ _ (by omega) (by omega) (by omega) (by omega) (by omega) (by omega)

/-- Bytes filled with a number, the high one first. -/
def putL : List Int → Nat → Nat → Int → List Int
  | zs, off, 0, n => zs
  | zs, off, m + 1, n => putL (zs.set (off + m) (n % 256)) off m (n / 256)
theorem putL_length : ∀ (m : Nat) (zs : List Int) (off : Nat) (n : Int), (putL zs off m n).length = zs.length
  | 0, zs, off, n => rfl
  | m + 1, zs, off, n => by rw [putL, putL_length m, List.length_set]

end Go.Proofs.YtiigoeecklelpaaDoor
