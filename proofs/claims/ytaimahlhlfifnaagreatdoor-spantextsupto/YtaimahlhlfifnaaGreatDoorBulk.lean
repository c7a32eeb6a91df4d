/- What a bound on the bulk of the arguments gives of each of them; a pair of numbers by value, and a slice of such pairs, as the rows hand them in. -/
import Derived.Test.YtaimahlhlfifnaaGreatDoorOpen
import Derived.Lib.SmallJoins
import Derived.Deep.Slices
namespace Go.Proofs.YtaimahlhlfifnaaGreatDoor
open Go.ChangeShapes Go.WideShapes Go.ChangeAt Go.RowKit Go.Joins
set_option linter.unusedVariables false

theorem bulk_one {H : Type} (d : DataW H) : 1 ≤ Rows.uptoBulk d := by
  cases d with
  | lit l => cases l <;> simp [Rows.uptoBulk]
  | nil => simp [Rows.uptoBulk]
  | ptr d => simp [Rows.uptoBulk]
  | slice elems spare => simp [Rows.uptoBulk]
  | agg parts => simp [Rows.uptoBulk]
  | iface t d => simp [Rows.uptoBulk]
  | map entries => simp [Rows.uptoBulk]
  | held h => simp [Rows.uptoBulk]
theorem bulk_len {H : Type} : ∀ (l : List (DataW H)), l.length ≤ Rows.uptoBulkAll l
  | [] => by simp [Rows.uptoBulkAll]
  | x :: r => by have := bulk_one x; have := bulk_len r; simp only [Rows.uptoBulkAll, List.length_cons]; omega
theorem bulk_get {H : Type} : ∀ {l : List (DataW H)} {j : Nat} {d : DataW H}, l[j]? = some d → Rows.uptoBulk d ≤ Rows.uptoBulkAll l
  | [], j, d, h => by simp at h
  | x :: r, 0, d, h => by simp at h; subst h; simp only [Rows.uptoBulkAll]; omega
  | x :: r, j + 1, d, h => by
      have := bulk_get (l := r) (j := j) (d := d) (by simpa using h)
      simp only [Rows.uptoBulkAll]; omega
theorem small_of {H : Type} {l : List (DataW H)} (hk : Rows.uptoSmall H l = true) : Rows.uptoBulkAll l ≤ 1048576 := by
  unfold Rows.uptoSmall at hk; exact of_decide_eq_true hk
theorem str_small {H : Type} {l : List (DataW H)} {j : Nat} {s : ByteArray} (hk : Rows.uptoBulkAll l ≤ 1048576) (h : l[j]? = some (.lit (.string s.data.toList))) : s.size ≤ 1048576 := by
  have := bulk_get h
  simp only [Rows.uptoBulk] at this
  have e : s.data.toList.length = s.size := by simp
  omega

end Go.Proofs.YtaimahlhlfifnaaGreatDoor
