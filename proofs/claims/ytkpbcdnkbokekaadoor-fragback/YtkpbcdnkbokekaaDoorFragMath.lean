/- A packet in pieces: plain facts on numbers and lists. No condition is asked of a program. -/
import Derived.Test.YtkpbcdnkbokekaaDoorWireMath
namespace Go.Proofs.YtkpbcdnkbokekaaDoor
set_option linter.unusedVariables false

/-- How many pieces there are ahead of the last one. -/
def fK (len size : Nat) : Nat := (len - size + 8 * (size / 8) - 1) / (8 * (size / 8))
def pcK (p : Pk) (s k : Nat) : Pk := { p with pos := p.pos + (k : Int) * s, more := true, body := (p.body.drop (k * (8 * s))).take (8 * s) }
def lsK (p : Pk) (s k : Nat) : Pk := { p with pos := p.pos + (k : Int) * s, body := p.body.drop (k * (8 * s)) }
/-- The pieces. -/
def cutL (p : Pk) (size : Nat) : List Pk := (List.range (fK p.body.length size)).map (pcK p (size / 8)) ++ [lsK p (size / 8) (fK p.body.length size)]
/-- What is wrong with a packet that is to be cut. -/
def splitE (p : Pk) (size : Int) : Int :=
  if size < 8 ∨ 4000 < size then 1 else if ¬ pkErr p = 0 then pkErr p else if 32767 < p.pos + (fK p.body.length size.toNat : Int) * (size.toNat / 8 : Nat) then 1 else 0
def splitL (p : Pk) (size : Int) : List Pk := if splitE p size = 0 then cutL p size.toNat else []

theorem fK_lt {len size k : Nat} (h8 : 8 ≤ size) : k < fK len size ↔ k * (8 * (size / 8)) + size < len := by
  have hs : 0 < 8 * (size / 8) := by omega
  unfold fK
  rw [← Nat.succ_le_iff, Nat.le_div_iff_mul_le hs, Nat.succ_mul]
  omega
theorem fK_zero {len size : Nat} (h8 : 8 ≤ size) (h : len ≤ size) : fK len size = 0 := by
  rcases Nat.eq_zero_or_pos (fK len size) with h0 | h0
  · exact h0
  · have := (fK_lt h8).1 h0; omega
theorem fK_end {len size : Nat} (h8 : 8 ≤ size) : len ≤ fK len size * (8 * (size / 8)) + size := by
  have := mt (fK_lt (len := len) (k := fK len size) h8).2 (Nat.lt_irrefl _)
  omega
theorem fK_le {len size k : Nat} (h8 : 8 ≤ size) (hk : k < fK len size) : k * (8 * (size / 8)) + 8 * (size / 8) < len := by
  have := (fK_lt h8).1 hk; omega
theorem fK_small {len size : Nat} (h8 : 8 ≤ size) : fK len size * 8 ≤ len := by
  rcases Nat.eq_zero_or_pos (fK len size) with h0 | h0
  · omega
  · have h1 := fK_le (k := fK len size - 1) h8 (show fK len size - 1 < fK len size by omega)
    have h2 : (fK len size - 1) * 8 ≤ (fK len size - 1) * (8 * (size / 8)) := Nat.mul_le_mul_left _ (by omega)
    omega
theorem cutL_length (p : Pk) (size : Nat) : (cutL p size).length = fK p.body.length size + 1 := by simp [cutL]
theorem cutL_get (p : Pk) (size i : Nat) (h : i < (cutL p size).length) : (cutL p size)[i] = if i < fK p.body.length size then pcK p (size / 8) i else lsK p (size / 8) i := by
  have h' := h
  rw [cutL_length] at h'
  by_cases hi : i < fK p.body.length size
  · rw [if_pos hi]
    have e : (cutL p size)[i]? = some (pcK p (size / 8) i) := by
      unfold cutL
      rw [List.getElem?_append_left (by simpa using hi)]
      simp [hi]
    rw [List.getElem?_eq_getElem h] at e
    exact Option.some.inj e
  · rw [if_neg hi]
    have ei : i = fK p.body.length size := by omega
    have e : (cutL p size)[i]? = some (lsK p (size / 8) i) := by
      unfold cutL
      rw [List.getElem?_append_right (by simp; omega), ei]
      simp
    rw [List.getElem?_eq_getElem h] at e
    exact Option.some.inj e
/-- A piece that is not too long is its own only piece. -/
theorem splitE_bad {p : Pk} {size : Int} (h : size < 8 ∨ 4000 < size) : splitE p size = 1 := by unfold splitE; rw [if_pos h]
theorem splitE_err {p : Pk} {size : Int} (h : ¬ (size < 8 ∨ 4000 < size)) (he : ¬ pkErr p = 0) : splitE p size = pkErr p := by unfold splitE; rw [if_neg h, if_pos he]
theorem splitE_far {p : Pk} {size : Int} (h : ¬ (size < 8 ∨ 4000 < size)) (he : pkErr p = 0) (hf : 32767 < p.pos + (fK p.body.length size.toNat : Int) * (size.toNat / 8 : Nat)) : splitE p size = 1 := by
  unfold splitE; rw [if_neg h, if_neg (by simpa using he), if_pos hf]
theorem splitE_ok {p : Pk} {size : Int} (h : ¬ (size < 8 ∨ 4000 < size)) (he : pkErr p = 0) (hf : ¬ 32767 < p.pos + (fK p.body.length size.toNat : Int) * (size.toNat / 8 : Nat)) : splitE p size = 0 := by
  unfold splitE; rw [if_neg h, if_neg (by simpa using he), if_neg hf]
theorem of_splitE {p : Pk} {size : Int} (h : splitE p size = 0) : 8 ≤ size ∧ size ≤ 4000 ∧ pkErr p = 0 ∧ p.pos + (fK p.body.length size.toNat : Int) * (size.toNat / 8 : Nat) ≤ 32767 := by
  unfold splitE at h
  split at h
  · cases h
  · split at h
    · exact absurd h ‹_›
    · split at h
      · cases h
      · refine ⟨by omega, by omega, Classical.not_not.1 ‹_›, by omega⟩
theorem pkErr_part {p : Pk} (he : pkErr p = 0) {q : Pk} (h1 : q.kind = p.kind) (h2 : q.ttl = p.ttl) (h3 : q.ident = p.ident) (h4 : q.src = p.src) (h5 : q.dst = p.dst) (h6 : 0 ≤ q.pos ∧ q.pos ≤ 32767) (h7 : q.body.length ≤ p.body.length) : pkErr q = 0 := by
  obtain ⟨hin, hl⟩ := pkErr_ok he
  unfold pkErr
  rw [if_neg, if_neg (by omega)]
  unfold pkIn at hin ⊢
  rw [h1, h2, h3, h4, h5, upB_yes h6.1 h6.2]
  simp only [Bool.and_eq_true] at hin
  obtain ⟨⟨⟨⟨⟨a, b⟩, c⟩, d⟩, e⟩, f⟩ := hin
  rw [a, b, c, d, e]; simp
theorem splitL_self {p : Pk} {size : Int} (h8 : 8 ≤ size) (h4 : size ≤ 4000) (he : pkErr p = 0) (hl : (p.body.length : Int) ≤ size) : splitE p size = 0 ∧ splitL p size = [p] := by
  have hK : fK p.body.length size.toNat = 0 := fK_zero (by omega) (by omega)
  have hp := (of_pkIn (pkErr_ok he).1).2.2.2.2.2
  have e0 : splitE p size = 0 := splitE_ok (by omega) he (by rw [hK]; simp; omega)
  refine ⟨e0, ?_⟩
  unfold splitL cutL
  rw [if_pos e0, hK]
  simp [lsK]
/-- What each piece is. -/
structure PieceOf (p : Pk) (size : Int) (n i : Nat) (x : Pk) : Prop where
  at8 : 8 * (x.pos - p.pos) = ((i * (8 * (size.toNat / 8)) : Nat) : Int)
  small : (x.body.length : Int) ≤ size
  more : i + 1 < n → x.more = true ∧ x.body.length = 8 * (size.toNat / 8)
  last : i + 1 = n → x.more = p.more
  kind : x.kind = p.kind
  ttl : x.ttl = p.ttl
  ident : x.ident = p.ident
  src : x.src = p.src
  dst : x.dst = p.dst
  good : pkErr x = 0
  body : x.body = if i + 1 < n then (p.body.drop (i * (8 * (size.toNat / 8)))).take (8 * (size.toNat / 8)) else p.body.drop (i * (8 * (size.toNat / 8)))
theorem pieceOf {p : Pk} {size : Int} (h : splitE p size = 0) (i : Nat) (hi : i < (splitL p size).length) : PieceOf p size (splitL p size).length i (splitL p size)[i] := by
  obtain ⟨h8, h4, he, hf⟩ := of_splitE h
  have hp := (of_pkIn (pkErr_ok he).1).2.2.2.2.2
  have hL : splitL p size = cutL p size.toNat := by unfold splitL; rw [if_pos h]
  have h8' : 8 ≤ size.toNat := by omega
  have hlen := cutL_length p size.toNat
  have key : ∀ x n, n = (cutL p size.toNat).length → i < n → x = (if i < fK p.body.length size.toNat then pcK p (size.toNat / 8) i else lsK p (size.toNat / 8) i) → PieceOf p size n i x := by
    intro x n hn hin hx
    have hpos : (i : Int) * ((size.toNat / 8 : Nat) : Int) ≤ (fK p.body.length size.toNat : Int) * ((size.toNat / 8 : Nat) : Int) := Int.mul_le_mul_of_nonneg_right (by omega) (by omega)
    have hpos0 : 0 ≤ (i : Int) * ((size.toNat / 8 : Nat) : Int) := Int.mul_nonneg (by omega) (by omega)
    have e8 : ((i * (8 * (size.toNat / 8)) : Nat) : Int) = 8 * ((i : Int) * ((size.toNat / 8 : Nat) : Int)) := by
      rw [Nat.mul_left_comm]; simp
    by_cases hk : i < fK p.body.length size.toNat
    · rw [if_pos hk] at hx
      have hle := fK_le h8' hk
      have hbl : x.body.length = 8 * (size.toNat / 8) := by rw [hx]; simp only [pcK, List.length_take, List.length_drop]; omega
      have hx5 : x.pos = p.pos + (i : Int) * ((size.toNat / 8 : Nat) : Int) := by rw [hx]; rfl
      exact ⟨by rw [e8, hx5]; omega, by omega, fun _ => ⟨by rw [hx]; rfl, hbl⟩, fun hc => by omega, by rw [hx]; rfl, by rw [hx]; rfl, by rw [hx]; rfl, by rw [hx]; rfl, by rw [hx]; rfl,
        pkErr_part he (by rw [hx]; rfl) (by rw [hx]; rfl) (by rw [hx]; rfl) (by rw [hx]; rfl) (by rw [hx]; rfl) (by rw [hx5]; omega) (by omega), by rw [if_pos (by omega), hx]; rfl⟩
    · rw [if_neg hk] at hx
      have ei : i = fK p.body.length size.toNat := by omega
      have hle := fK_end (len := p.body.length) h8'
      rw [← ei] at hle
      have hbl : x.body.length = p.body.length - i * (8 * (size.toNat / 8)) := by rw [hx]; simp only [lsK, List.length_drop]
      have hx5 : x.pos = p.pos + (i : Int) * ((size.toNat / 8 : Nat) : Int) := by rw [hx]; rfl
      exact ⟨by rw [e8, hx5]; omega, by omega, fun hc => by omega, fun _ => by rw [hx]; rfl, by rw [hx]; rfl, by rw [hx]; rfl, by rw [hx]; rfl, by rw [hx]; rfl, by rw [hx]; rfl,
        pkErr_part he (by rw [hx]; rfl) (by rw [hx]; rfl) (by rw [hx]; rfl) (by rw [hx]; rfl) (by rw [hx]; rfl) (by rw [hx5]; omega) (by omega), by rw [if_neg (by omega), hx]; rfl⟩
  have hi' : i < (cutL p size.toNat).length := by rw [← hL]; exact hi
  have := key ((cutL p size.toNat)[i]) _ rfl hi' (cutL_get p size.toNat i hi')
  simp only [hL]
  exact this
/-- The bodies of the first i pieces, one behind the other. -/
theorem bodies_take {p : Pk} {size : Int} (h : splitE p size = 0) : ∀ i, i ≤ (splitL p size).length → (((splitL p size).take i).map Pk.body).flatten = if i < (splitL p size).length then p.body.take (i * (8 * (size.toNat / 8))) else p.body := by
  intro i
  induction i with
  | zero =>
    intro _
    have : 0 < (splitL p size).length := by unfold splitL; rw [if_pos h, cutL_length]; omega
    rw [if_pos this]; simp
  | succ i ih =>
    intro hi
    have e := ih (by omega)
    rw [if_pos (by omega)] at e
    rw [List.take_succ_eq_append_getElem (by omega), List.map_append, List.flatten_append, e]
    have hp := pieceOf h i (by omega)
    have hb := hp.body
    simp only [List.map_cons, List.map_nil, List.flatten_cons, List.flatten_nil, List.append_nil]
    rw [hb]
    by_cases hc : i + 1 < (splitL p size).length
    · rw [if_pos hc, if_pos hc, show (i + 1) * (8 * (size.toNat / 8)) = i * (8 * (size.toNat / 8)) + 8 * (size.toNat / 8) from Nat.succ_mul _ _]
      generalize 8 * (size.toNat / 8) = c
      rw [← List.take_add]
    · rw [if_neg hc, if_neg hc, List.take_append_drop]
end Go.Proofs.YtkpbcdnkbokekaaDoor
