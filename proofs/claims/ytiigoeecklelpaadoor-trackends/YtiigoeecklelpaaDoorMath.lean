/- Plain facts on sums of 16 bits and on lists of bytes: what is proved here speaks of no Go text and asks no condition of a program. -/
import Derived.WalkKit
import Derived.Laws.BitsLemmas
namespace Go.Proofs.YtiigoeecklelpaaDoor

def addS (a b : Int) : Int := if 65535 < a + b then a + b - 65535 else a + b
def tot : Int → List Int → Int
  | t, [] => t
  | t, [a] => addS t (a * 256)
  | t, a :: b :: r => tot (addS t (a * 256 + b)) r
def word (n : Int) : Bool := decide (0 ≤ n ∧ n ≤ 65535)
theorem addS_range {a b : Int} (ha : 0 ≤ a) (ha' : a ≤ 65535) (hb : 0 ≤ b) (hb' : b ≤ 65535) : 0 ≤ addS a b ∧ addS a b ≤ 65535 := by
  unfold addS; split <;> omega
theorem tot_range : ∀ (l : List Int) (t : Int), (∀ x ∈ l, 0 ≤ x ∧ x ≤ 255) → 0 ≤ t → t ≤ 65535 → 0 ≤ tot t l ∧ tot t l ≤ 65535
  | [], t, _, h0, h1 => by simp [tot]; omega
  | [a], t, h, h0, h1 => by
      have := h a (by simp)
      exact addS_range h0 h1 (by omega) (by omega)
  | a :: b :: r, t, h, h0, h1 => by
      have ha := h a (by simp)
      have hb := h b (by simp)
      have hs := addS_range h0 h1 (b := a * 256 + b) (by omega) (by omega)
      exact tot_range r _ (fun x hx => h x (by simp [hx])) hs.1 hs.2
theorem tot_drop2 (l : List Int) (k : Nat) (t : Int) (h : k + 1 < l.length) :
    tot t (l.drop k) = tot (addS t (l.getD k 0 * 256 + l.getD (k + 1) 0)) (l.drop (k + 2)) := by
  rw [List.drop_eq_getElem_cons (by omega : k < l.length), List.drop_eq_getElem_cons (by omega : k + 1 < l.length)]
  simp [tot, List.getD, List.getElem?_eq_getElem (by omega : k < l.length), List.getElem?_eq_getElem (by omega : k + 1 < l.length)]
theorem tot_drop1 (l : List Int) (k : Nat) (t : Int) (h : k + 1 = l.length) :
    tot t (l.drop k) = addS t (l.getD k 0 * 256) := by
  rw [List.drop_eq_getElem_cons (by omega : k < l.length), List.drop_eq_nil_of_le (by omega : l.length ≤ k + 1)]
  simp [tot, List.getD, List.getElem?_eq_getElem (by omega : k < l.length)]
theorem tot_drop0 (l : List Int) (k : Nat) (t : Int) (h : l.length ≤ k) : tot t (l.drop k) = t := by
  rw [List.drop_eq_nil_of_le h, tot]
theorem getD_byte {l : List Int} {k : Nat} (h : k < l.length) (hb : ∀ x ∈ l, 0 ≤ x ∧ x ≤ 255) : 0 ≤ l.getD k 0 ∧ l.getD k 0 ≤ 255 := by
  have e : l.getD k 0 = l[k] := by simp [List.getD, h]
  rw [e]; exact hb _ (List.getElem_mem _)
theorem wraps_i64 (n : Int) (h₀ : 0 ≤ n) (h₁ : n < 2 ^ 16) : IntKind.i64.wrap n = n := by rw [IntKind.wrap_i64]; omega
theorem or8 (x y : Int) (h0 : 0 ≤ x) (h1 : x ≤ 255) (h2 : 0 ≤ y) (h3 : y ≤ 255) : bits .or .i64 (x * 256) y = x * 256 + y :=
  bits_join .i64 16 (by decide) wraps_i64 8 _ _ (by omega) (by omega) (by omega) (by omega) (by omega) (by omega)
theorem ret_int {k : IntKind} {a b : Int} (h : a = b) : Ending.returned (.int k a) = .returned (.int k b) := by rw [h]
theorem slice_eq {b o o' l l' c c' : Nat} (h1 : o = o') (h2 : l = l') (h3 : c = c') : Value.slice (some ⟨b, o, none⟩) l c = .slice (some ⟨b, o', none⟩) l' c' := by rw [h1, h2, h3]
theorem slice_if {p : Prop} [Decidable p] {b o1 o2 o' l l' c c' : Nat} (h1 : o' = if p then o1 else o2) (h2 : l = l') (h3 : c = c') :
    Value.slice (if p then some ⟨b, o1, none⟩ else some ⟨b, o2, none⟩) l c = .slice (some ⟨b, o', none⟩) l' c' := by
  subst h1 h2 h3; split <;> rfl
end Go.Proofs.YtiigoeecklelpaaDoor
