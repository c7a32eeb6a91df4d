/- Plain facts on sums of 16 bits and on lists of bytes: what is proved here speaks of no Go text and asks no condition of a program. -/
import Derived.WalkKit
import Derived.Laws.BitsLemmas
import Derived.Test.YtobfkabhnanpfaaGreatDoorProg
import Derived.Laws.Rows
import Derived.Below
import Derived.WalkSmall
namespace Go.Proofs.YtobfkabhnanpfaaGreatDoor

def addS (a b : Int) : Int := if 65535 < a + b then a + b - 65535 else a + b
def tot : Int → List Int → Int
  | t, [] => t
  | t, [a] => addS t (a * 256)
  | t, a :: b :: r => tot (addS t (a * 256 + b)) r
def word (n : Int) : Bool := decide (0 ≤ n ∧ n ≤ 65535)
theorem addS_range {a b : Int} (ha : 0 ≤ a) (ha' : a ≤ 65535) (hb : 0 ≤ b) (hb' : b ≤ 65535) : 0 ≤ addS a b ∧ addS a b ≤ 65535 := by
  unfold addS; split <;> omega
theorem tot_range : ∀ (l : List Int) (t : Int), (∀ x ∈ l, 0 ≤ x ∧ x ≤ 255) → 0 ≤ t → t ≤ 65535 → 0 ≤ tot t l ∧ tot t l ≤ 65535
  | [], t, _, h0, h1 => by simp [tot]; omega
  | [a], t, h, h0, h1 => by
      have := h a (by simp)
      exact addS_range h0 h1 (by omega) (by omega)
  | a :: b :: r, t, h, h0, h1 => by
      have ha := h a (by simp)
      have hb := h b (by simp)
      have hs := addS_range h0 h1 (b := a * 256 + b) (by omega) (by omega)
      exact tot_range r _ (fun x hx => h x (by simp [hx])) hs.1 hs.2
theorem tot_drop2 (l : List Int) (k : Nat) (t : Int) (h : k + 1 < l.length) :
    tot t (l.drop k) = tot (addS t (l.getD k 0 * 256 + l.getD (k + 1) 0)) (l.drop (k + 2)) := by
  rw [List.drop_eq_getElem_cons (by omega : k < l.length), List.drop_eq_getElem_cons (by omega : k + 1 < l.length)]
  simp [tot, List.getD, List.getElem?_eq_getElem (by omega : k < l.length), List.getElem?_eq_getElem (by omega : k + 1 < l.length)]
theorem tot_drop1 (l : List Int) (k : Nat) (t : Int) (h : k + 1 = l.length) :
    tot t (l.drop k) = addS t (l.getD k 0 * 256) := by
  rw [List.drop_eq_getElem_cons (by omega : k < l.length), List.drop_eq_nil_of_le (by omega : l.length ≤ k + 1)]
  simp [tot, List.getD, List.getElem?_eq_getElem (by omega : k < l.length)]
theorem tot_drop0 (l : List Int) (k : Nat) (t : Int) (h : l.length ≤ k) : tot t (l.drop k) = t := by
  rw [List.drop_eq_nil_of_le h, tot]
theorem getD_byte {l : List Int} {k : Nat} (h : k < l.length) (hb : ∀ x ∈ l, 0 ≤ x ∧ x ≤ 255) : 0 ≤ l.getD k 0 ∧ l.getD k 0 ≤ 255 := by
  have e : l.getD k 0 = l[k] := by simp [List.getD, h]
  rw [e]; exact hb _ (List.getElem_mem _)
theorem wraps_i64 (n : Int) (h₀ : 0 ≤ n) (h₁ : n < 2 ^ 16) : IntKind.i64.wrap n = n := by rw [IntKind.wrap_i64]; omega
theorem or8 (x y : Int) (h0 : 0 ≤ x) (h1 : x ≤ 255) (h2 : 0 ≤ y) (h3 : y ≤ 255) : bits .or .i64 (x * 256) y = x * 256 + y :=
  bits_join .i64 16 (by decide) wraps_i64 8 _ _ (by omega) (by omega) (by omega) (by omega) (by omega) (by omega)
theorem ret_int {k : IntKind} {a b : Int} (h : a = b) : Ending.returned (.int k a) = .returned (.int k b) := by rw [h]
theorem slice_eq {b o o' l l' c c' : Nat} (h1 : o = o') (h2 : l = l') (h3 : c = c') : Value.slice (some ⟨b, o, none⟩) l c = .slice (some ⟨b, o', none⟩) l' c' := by rw [h1, h2, h3]
theorem slice_if {p : Prop} [Decidable p] {b o1 o2 o' l l' c c' : Nat} (h1 : o' = if p then o1 else o2) (h2 : l = l') (h3 : c = c') :
    Value.slice (if p then some ⟨b, o1, none⟩ else some ⟨b, o2, none⟩) l c = .slice (some ⟨b, o', none⟩) l' c' := by
  subst h1 h2 h3; split <;> rfl
end Go.Proofs.YtobfkabhnanpfaaGreatDoor

namespace Go.Proofs.YtobfkabhnanpfaaGreatDoor
set_option linter.unusedVariables false

def wsum : List Int → Int
  | [] => 0
  | [a] => a * 256
  | a :: b :: r => a * 256 + b + wsum r
def norm (s : Int) : Int := if s = 0 then 0 else (s - 1) % 65535 + 1
def place (j : Nat) : Int := if j % 2 = 0 then 256 else 1

theorem norm_add (t x : Int) (h0 : 0 ≤ t) (h1 : t ≤ 65535) (h2 : 0 ≤ x) (h3 : x ≤ 65535) (s : Int) (hs : 0 ≤ s) : norm (addS t x + s) = norm (t + x + s) := by
  unfold norm addS
  split <;> (repeat' split) <;> omega
theorem norm_self (t : Int) (h0 : 0 ≤ t) (h1 : t ≤ 65535) : norm t = t := by
  unfold norm; split <;> omega
theorem wsum_nonneg : ∀ (l : List Int), (∀ x ∈ l, 0 ≤ x ∧ x ≤ 255) → 0 ≤ wsum l
  | [], _ => by simp [wsum]
  | [a], h => by have := h a (by simp); simp only [wsum]; omega
  | a :: b :: r, h => by
      have ha := h a (by simp)
      have hb := h b (by simp)
      have hr := wsum_nonneg r (fun x hx => h x (by simp [hx]))
      simp only [wsum]; omega
theorem tot_norm : ∀ (l : List Int) (t : Int), (∀ x ∈ l, 0 ≤ x ∧ x ≤ 255) → 0 ≤ t → t ≤ 65535 → tot t l = norm (t + wsum l)
  | [], t, _, h0, h1 => by simp only [tot, wsum, Int.add_zero]; exact (norm_self t h0 h1).symm
  | [a], t, h, h0, h1 => by
      have ha := h a (by simp)
      have hr := addS_range (a := t) (b := a * 256) h0 h1 (by omega) (by omega)
      have e := norm_add t (a * 256) h0 h1 (by omega) (by omega) 0 (by omega)
      simp only [tot, wsum]
      simp only [Int.add_zero] at e
      rw [← e, norm_self _ hr.1 hr.2]
  | a :: b :: r, t, h, h0, h1 => by
      have ha := h a (by simp)
      have hb := h b (by simp)
      have hr : ∀ x ∈ r, 0 ≤ x ∧ x ≤ 255 := fun x hx => h x (by simp [hx])
      have hs := addS_range (a := t) (b := a * 256 + b) h0 h1 (by omega) (by omega)
      have e := norm_add t (a * 256 + b) h0 h1 (by omega) (by omega) (wsum r) (wsum_nonneg r hr)
      simp only [tot, wsum]
      rw [tot_norm r _ hr hs.1 hs.2, e]
      congr 1; omega
theorem wsum_set : ∀ (l : List Int) (j : Nat) (v : Int), j < l.length → wsum (l.set j v) = wsum l + (v - l.getD j 0) * place j
  | [], j, v, h => by simp at h
  | [a], j, v, h => by
      have : j = 0 := by simpa using h
      subst this
      simp [wsum, place, List.getD]; omega
  | a :: b :: r, 0, v, h => by simp [wsum, place, List.getD]; omega
  | a :: b :: r, 1, v, h => by simp [wsum, place, List.getD]; omega
  | a :: b :: r, j + 2, v, h => by
      have hj : j < r.length := by simp at h; omega
      have e := wsum_set r j v hj
      have hp : place (j + 2) = place j := by unfold place; rw [Nat.add_mod_right]
      have hg : (a :: b :: r).getD (j + 2) 0 = r.getD j 0 := by simp [List.getD]
      rw [hg, hp]
      simp only [List.set_cons_succ, wsum]
      rw [e]; omega
theorem byte_set {l : List Int} {j : Nat} {v : Int} (h : ∀ x ∈ l, 0 ≤ x ∧ x ≤ 255) (h0 : 0 ≤ v) (h1 : v ≤ 255) : ∀ x ∈ l.set j v, 0 ≤ x ∧ x ≤ 255 := by
  intro x hx
  rcases List.mem_or_eq_of_mem_set hx with h' | rfl
  · exact h x h'
  · exact ⟨h0, h1⟩
theorem getD_set_ne {l : List Int} {i j : Nat} {v : Int} (h : i ≠ j) : (l.set i v).getD j 0 = l.getD j 0 := by
  simp [List.getD, List.getElem?_set_ne h]
theorem getD_set_self {l : List Int} {i : Nat} {v : Int} (h : i < l.length) : (l.set i v).getD i 0 = v := by
  simp [List.getD, h]

/-- With its sum in its place it is valid. -/
theorem valid_sum {s n : Int} (hs : 0 ≤ s) (hn : n = 65535 - norm s) : norm (s + n) = 65535 := by
  subst hn; unfold norm; split <;> (repeat' split) <;> omega
theorem sum_range {s : Int} (hs : 0 ≤ s) : 0 ≤ 65535 - norm s ∧ 65535 - norm s ≤ 65535 := by
  unfold norm; split <;> omega
/-- A change that is no multiple of 65535 spoils it. -/
theorem spoilt {s d : Int} (h0 : norm s = 65535) (hd : ¬ d = 0) (h1 : -65535 < d) (h2 : d < 65535) (hs : 0 ≤ s + d) : norm (s + d) ≠ 65535 := by
  unfold norm at *
  split at h0 <;> split <;> omega
/-- Brought up to date it is valid again, or all is 0. -/
theorem mended {s n old now d : Int} (hs : 0 ≤ s) (hn : n = 65535 - norm s) (hd : d = now - old) (ho : 0 ≤ old) (ho' : old ≤ 65535) (hw : 0 ≤ now) (hw' : now ≤ 65535) (hsd : 0 ≤ s + d) :
    norm (s + d + (65535 - addS (addS (65535 - n) (65535 - old)) now)) = 65535 ∨
    (65535 - addS (addS (65535 - n) (65535 - old)) now = 0 ∧ norm (s + d + (65535 - addS (addS (65535 - n) (65535 - old)) now)) = 0) := by
  subst hn hd
  unfold norm addS
  repeat' split
  all_goals omega
/-- Two words that change their places. -/
theorem wsum_swap (l : List Int) (i k : Nat) (hi : 2 * i + 1 < l.length) (hk : 2 * k + 1 < l.length) :
    wsum ((((l.set (2 * i) (l.getD (2 * k) 0)).set (2 * i + 1) (l.getD (2 * k + 1) 0)).set (2 * k) (l.getD (2 * i) 0)).set (2 * k + 1) (l.getD (2 * i + 1) 0)) = wsum l := by
  have p0 : place (2 * i) = 256 := by unfold place; rw [if_pos (by omega)]
  have p1 : place (2 * i + 1) = 1 := by unfold place; rw [if_neg (by omega)]
  have p2 : place (2 * k) = 256 := by unfold place; rw [if_pos (by omega)]
  have p3 : place (2 * k + 1) = 1 := by unfold place; rw [if_neg (by omega)]
  rw [wsum_set _ _ _ (by simp; omega), wsum_set _ _ _ (by simp; omega), wsum_set _ _ _ (by simp; omega), wsum_set _ _ _ (by omega), p0, p1, p2, p3]
  rw [getD_set_ne (by omega : 2 * k ≠ 2 * k + 1), getD_set_ne (by omega : 2 * i ≠ 2 * i + 1), getD_set_ne (by omega : 2 * i + 1 ≠ 2 * k)]
  by_cases h : i = k
  · subst h
    rw [getD_set_self (by omega), getD_set_self (by simp; omega)]
    omega
  · rw [getD_set_ne (by omega : 2 * i + 1 ≠ 2 * k + 1), getD_set_ne (by omega : 2 * i ≠ 2 * k + 1), getD_set_ne (by omega : 2 * i ≠ 2 * k)]
    omega
theorem wsum_head (n : Int) (bs : List Int) : wsum (n / 256 :: n % 256 :: bs) = wsum bs + n := by
  simp only [wsum]; omega
theorem wsum_changed (bs : List Int) (p : Nat) (n tb : Int) (hp : p < bs.length) :
    wsum ((n / 256 :: n % 256 :: bs).set (p + 2) tb) = wsum bs + n + (tb - bs.getD p 0) * place p := by
  have hpl : place (p + 2) = place p := by unfold place; rw [Nat.add_mod_right]
  have hg : (n / 256 :: n % 256 :: bs).getD (p + 2) 0 = bs.getD p 0 := by simp [List.getD]
  rw [wsum_set _ _ _ (by simp; omega), wsum_head, hg, hpl]
theorem place_cases (p : Nat) : place p = 256 ∨ place p = 1 := by unfold place; split <;> simp
/-- One byte that changes makes it not so. -/
theorem spoilt_byte (bs : List Int) (p : Nat) (n tb : Int) (hby : ∀ x ∈ bs, 0 ≤ x ∧ x ≤ 255) (hp : p < bs.length) (hn : n = 65535 - norm (wsum bs)) (ht : 0 ≤ tb ∧ tb ≤ 255) (hne : ¬ bs.getD p 0 = tb)
    (hx : ∀ x ∈ (n / 256 :: n % 256 :: bs).set (p + 2) tb, 0 ≤ x ∧ x ≤ 255) : (tot 0 ((n / 256 :: n % 256 :: bs).set (p + 2) tb) == 65535) = false := by
  have h0 := wsum_nonneg bs hby
  have hb := getD_byte hp hby
  have e := valid_sum h0 hn
  have hnn := wsum_nonneg _ hx
  rw [wsum_changed bs p n tb hp] at hnn
  rw [tot_norm _ 0 hx (by omega) (by omega), wsum_changed bs p n tb hp, Int.zero_add]
  have := spoilt (d := (tb - bs.getD p 0) * place p) e (by rcases place_cases p with h | h <;> rw [h] <;> omega) (by rcases place_cases p with h | h <;> rw [h] <;> omega) (by rcases place_cases p with h | h <;> rw [h] <;> omega) hnn
  simpa using this
/-- Changed, with the sum brought up to date, it is valid again, or all of it is 0. -/
theorem mended_byte (bs : List Int) (p : Nat) (n tb old now m : Int) (hby : ∀ x ∈ bs, 0 ≤ x ∧ x ≤ 255) (hp : p < bs.length) (hn : n = 65535 - norm (wsum bs)) (ht : 0 ≤ tb ∧ tb ≤ 255)
    (ho : 0 ≤ old ∧ old ≤ 65535) (hw : 0 ≤ now ∧ now ≤ 65535) (hd : now - old = (tb - bs.getD p 0) * place p) (hm : m = 65535 - addS (addS (65535 - n) (65535 - old)) now)
    (hx : ∀ x ∈ (((n / 256 :: n % 256 :: bs).set (p + 2) tb).set 0 (m / 256)).set 1 (m % 256), 0 ≤ x ∧ x ≤ 255) :
    tot 0 ((((n / 256 :: n % 256 :: bs).set (p + 2) tb).set 0 (m / 256)).set 1 (m % 256)) = 65535 ∨ (m = 0 ∧ tot 0 ((((n / 256 :: n % 256 :: bs).set (p + 2) tb).set 0 (m / 256)).set 1 (m % 256)) = 0) := by
  have h0 := wsum_nonneg bs hby
  have hnn : 0 ≤ wsum bs + (now - old) := by
    have := wsum_nonneg _ (byte_set (j := p) hby ht.1 ht.2)
    rw [wsum_set _ _ _ hp] at this; rw [hd]; exact this
  have e : wsum ((((n / 256 :: n % 256 :: bs).set (p + 2) tb).set 0 (m / 256)).set 1 (m % 256)) = wsum bs + (now - old) + m := by
    rw [wsum_set _ _ _ (by simp), wsum_set _ _ _ (by simp), wsum_changed bs p n tb hp, hd]
    have g0 : ((n / 256 :: n % 256 :: bs).set (p + 2) tb).getD 0 0 = n / 256 := by simp [List.getD]
    have g1 : (((n / 256 :: n % 256 :: bs).set (p + 2) tb).set 0 (m / 256)).getD 1 0 = n % 256 := by simp [List.getD]
    rw [g0, g1]
    have q0 : place 0 = 256 := rfl
    have q1 : place 1 = 1 := rfl
    rw [q0, q1]
    omega
  rw [tot_norm _ 0 hx (by omega) (by omega), e, Int.zero_add, hm]
  exact mended h0 hn rfl ho.1 ho.2 hw.1 hw.2 hnn
end Go.Proofs.YtobfkabhnanpfaaGreatDoor

namespace Go.Proofs.YtobfkabhnanpfaaGreatDoor
open Go.RowKit
set_option linter.unusedVariables false

/-- A key. -/
structure Ky where
  kind : Int
  src : Int
  frm : Int
  dst : Int
  too : Int
def keyV (p : Ky) : Value := .agg #[.int .i64 p.kind, .int .i64 p.src, .int .i64 p.frm, .int .i64 p.dst, .int .i64 p.too]
def KyAt (w : World) (b : Nat) (p : Ky) : Prop := w.heap[b]? = some (.cells #[.int .i64 p.kind, .int .i64 p.src, .int .i64 p.frm, .int .i64 p.dst, .int .i64 p.too] 37 (0, 0))
theorem KyAt.lt {w : World} {b : Nat} {p : Ky} (h : KyAt w b p) : b < w.heap.size := by
  rcases Nat.lt_or_ge b w.heap.size with h1 | h1
  · exact h1
  · unfold KyAt at h; simp [Array.getElem?_eq_none h1] at h
theorem KyAt.new (w : World) (p : Ky) : KyAt (w.alloc (.cells #[.int .i64 p.kind, .int .i64 p.src, .int .i64 p.frm, .int .i64 p.dst, .int .i64 p.too] 37)) w.heap.size p := heap_alloc_new w _
theorem KyAt.drewN {w : World} {b : Nat} {p : Ky} (h : KyAt w b p) (n : Nat) : KyAt (w.drewN n) b p := h
theorem KyAt.below {w w' : World} {b B : Nat} {p : Ky} (h : KyAt w b p) (hB : b < B) (hb : Below B w w') : KyAt w' b p := by
  unfold KyAt; rw [hb.block b hB]; exact h
theorem KyAt.alloc {w : World} {b : Nat} {p : Ky} (h : KyAt w b p) (o : Obj) : KyAt (w.alloc o) b p := h.below h.lt ((Below.refl _ _).alloc (Nat.le_refl _) _)
theorem KyAt.free {w : World} {b : Nat} {p : Ky} (h : KyAt w b p) (j : Nat) : w.frozen? ⟨b, j, none⟩ = false := frozen_of_row w b j _ _ h
theorem KyAt.cells {w : World} {b : Nat} {p : Ky} (h : KyAt w b p) :
    w.cell? ⟨b, 0, none⟩ = some (.int .i64 p.kind) ∧ w.cell? ⟨b, 1, none⟩ = some (.int .i64 p.src) ∧ w.cell? ⟨b, 2, none⟩ = some (.int .i64 p.frm) ∧ w.cell? ⟨b, 3, none⟩ = some (.int .i64 p.dst) ∧ w.cell? ⟨b, 4, none⟩ = some (.int .i64 p.too) := by
  refine ⟨?_, ?_, ?_, ?_, ?_⟩ <;> (rw [cell_of_row w b _ _ _ _ h]; rfl)
end Go.Proofs.YtobfkabhnanpfaaGreatDoor

namespace Go.Proofs.YtobfkabhnanpfaaGreatDoor
set_option linter.unusedVariables false

/-- A packet: its numbers, and its body's bytes. -/
structure Pk where
  kind : Int
  ttl : Int
  ident : Int
  src : Int
  dst : Int
  pos : Int
  more : Bool
  body : List Int

def upB (n most : Int) : Bool := decide (0 ≤ n ∧ n ≤ most)
def pkIn (p : Pk) : Bool := upB p.kind 15 && upB p.ttl 255 && upB p.ident 65535 && upB p.src 4294967295 && upB p.dst 4294967295 && upB p.pos 32767
/-- What is wrong with a packet. -/
def pkErr (p : Pk) : Int := if pkIn p = false then 1 else if 4000 < p.body.length then 4 else 0
def plc (p : Pk) : Int := if p.more then p.pos + 32768 else p.pos
def headZ (p : Pk) (s : Int) : List Int :=
  [(80 + p.kind) % 256, p.ttl % 256, (18 + (p.body.length : Int)) / 256 % 256, (18 + (p.body.length : Int)) % 256, p.ident / 256 % 256, p.ident % 256, plc p / 256 % 256, plc p % 256, s / 256 % 256, s % 256,
   p.src / 256 / 256 / 256 % 256, p.src / 256 / 256 % 256, p.src / 256 % 256, p.src % 256, p.dst / 256 / 256 / 256 % 256, p.dst / 256 / 256 % 256, p.dst / 256 % 256, p.dst % 256]
def sumH (p : Pk) : Int := 65535 - tot 0 (headZ p 0)
def encL (p : Pk) : List Int := headZ p (sumH p) ++ p.body

/-- What bytes say of how many they are, and what is wrong with them. -/
def meas (zs : List Int) : Int × Int :=
  if zs.length < 18 then (0, 8) else if zs.getD 0 0 < 80 ∨ 95 < zs.getD 0 0 then (0, 2) else if ¬ tot 0 (zs.take 18) = 65535 then (0, 9) else
  if zs.getD 2 0 * 256 + zs.getD 3 0 < 18 then (0, 3) else if 4018 < zs.getD 2 0 * 256 + zs.getD 3 0 then (0, 4) else if (zs.length : Int) < zs.getD 2 0 * 256 + zs.getD 3 0 then (0, 8) else
  (zs.getD 2 0 * 256 + zs.getD 3 0, 0)
def rdPlc (zs : List Int) : Int := zs.getD 6 0 * 256 + zs.getD 7 0
/-- The packet that bytes begin with, if they do. -/
def readK (zs : List Int) (n : Nat) : Pk :=
  { kind := zs.getD 0 0 - 80, ttl := zs.getD 1 0, ident := zs.getD 4 0 * 256 + zs.getD 5 0,
    src := ((zs.getD 10 0 * 256 + zs.getD 11 0) * 256 + zs.getD 12 0) * 256 + zs.getD 13 0,
    dst := ((zs.getD 14 0 * 256 + zs.getD 15 0) * 256 + zs.getD 16 0) * 256 + zs.getD 17 0,
    pos := rdPlc zs % 32768, more := decide (32768 ≤ rdPlc zs), body := (zs.drop 18).take (n - 18) }
def zeroK : Pk := { kind := 0, ttl := 0, ident := 0, src := 0, dst := 0, pos := 0, more := false, body := [] }
def readF (zs : List Int) : Pk := if (meas zs).2 = 0 then readK zs (meas zs).1.toNat else zeroK
def stepE (zs : List Int) : Int := if ¬ (meas zs).2 = 0 then (meas zs).2 else if (meas zs).1 < (zs.length : Int) then 3 else if zs.getD 1 0 = 0 then 6 else 0
def stepS (zs : List Int) : Int := 65535 - addS (addS (65535 - (zs.getD 8 0 * 256 + zs.getD 9 0)) (65535 - (zs.getD 0 0 * 256 + zs.getD 1 0))) (zs.getD 0 0 * 256 + zs.getD 1 0 - 1)
def stepL (zs : List Int) : List Int := ((zs.set 1 (zs.getD 1 0 - 1)).set 8 (stepS zs / 256 % 256)).set 9 (stepS zs % 256)

theorem upB_yes {n m : Int} (h0 : 0 ≤ n) (h1 : n ≤ m) : upB n m = true := by simp [upB, h0, h1]
theorem of_upB {n m : Int} (h : upB n m = true) : 0 ≤ n ∧ n ≤ m := by simpa [upB] using h
theorem of_pkIn {p : Pk} (h : pkIn p = true) : (0 ≤ p.kind ∧ p.kind ≤ 15) ∧ (0 ≤ p.ttl ∧ p.ttl ≤ 255) ∧ (0 ≤ p.ident ∧ p.ident ≤ 65535) ∧ (0 ≤ p.src ∧ p.src ≤ 4294967295) ∧ (0 ≤ p.dst ∧ p.dst ≤ 4294967295) ∧ (0 ≤ p.pos ∧ p.pos ≤ 32767) := by
  simp only [pkIn, Bool.and_eq_true] at h
  obtain ⟨⟨⟨⟨⟨a, b⟩, c⟩, d⟩, e⟩, f⟩ := h
  exact ⟨of_upB a, of_upB b, of_upB c, of_upB d, of_upB e, of_upB f⟩
theorem pkErr_ok {p : Pk} (h : pkErr p = 0) : pkIn p = true ∧ p.body.length ≤ 4000 := by
  unfold pkErr at h
  split at h
  · simp at h
  · split at h
    · simp at h
    · refine ⟨by simpa using ‹¬ pkIn p = false›, by omega⟩
theorem plc_range {p : Pk} (h : pkIn p = true) : 0 ≤ plc p ∧ plc p ≤ 65535 := by
  have := (of_pkIn h).2.2.2.2.2
  unfold plc; split <;> omega
theorem byte_mod (x : Int) : 0 ≤ x % 256 ∧ x % 256 ≤ 255 := by omega
theorem headZ_byte (p : Pk) (s : Int) : ∀ x ∈ headZ p s, 0 ≤ x ∧ x ≤ 255 := by
  intro x hx
  simp only [headZ, List.mem_cons, List.not_mem_nil, or_false] at hx
  rcases hx with rfl | rfl | rfl | rfl | rfl | rfl | rfl | rfl | rfl | rfl | rfl | rfl | rfl | rfl | rfl | rfl | rfl | rfl <;> exact byte_mod _
theorem wsum_headZ (p : Pk) (s : Int) (h0 : 0 ≤ s) (h1 : s ≤ 65535) : wsum (headZ p s) = wsum (headZ p 0) + s := by
  simp only [headZ, wsum]; omega
theorem tot_headZ (p : Pk) (s : Int) : tot 0 (headZ p s) = norm (wsum (headZ p s)) := by
  rw [tot_norm _ 0 (headZ_byte p s) (by omega) (by omega), Int.zero_add]
theorem sumH_range (p : Pk) : 0 ≤ sumH p ∧ sumH p ≤ 65535 := by
  unfold sumH; rw [tot_headZ]; exact sum_range (wsum_nonneg _ (headZ_byte p 0))
theorem tot_sumH (p : Pk) : tot 0 (headZ p (sumH p)) = 65535 := by
  have hr := sumH_range p
  rw [tot_headZ, wsum_headZ p _ hr.1 hr.2]
  refine valid_sum (wsum_nonneg _ (headZ_byte p 0)) ?_
  unfold sumH; rw [tot_headZ]
theorem headZ_length (p : Pk) (s : Int) : (headZ p s).length = 18 := rfl
theorem encL_length (p : Pk) : (encL p).length = 18 + p.body.length := by unfold encL; rw [List.length_append, headZ_length]
theorem encL_byte (p : Pk) (h : ∀ x ∈ p.body, 0 ≤ x ∧ x ≤ 255) : ∀ x ∈ encL p, 0 ≤ x ∧ x ≤ 255 := by
  intro x hx
  rcases List.mem_append.1 hx with h' | h'
  · exact headZ_byte _ _ x h'
  · exact h x h'
theorem src_back (x : Int) (h0 : 0 ≤ x) (h1 : x ≤ 4294967295) : ((x / 256 / 256 / 256 % 256 * 256 + x / 256 / 256 % 256) * 256 + x / 256 % 256) * 256 + x % 256 = x := by omega
theorem take18 (p : Pk) (s : Int) (t : List Int) : (headZ p s ++ p.body ++ t).take 18 = headZ p s := by
  rw [List.append_assoc, List.take_append_of_le_length (by rw [headZ_length]; omega)]; exact List.take_of_length_le (by rw [headZ_length]; omega)
theorem drop18 (p : Pk) (s : Int) (t : List Int) : (headZ p s ++ p.body ++ t).drop 18 = p.body ++ t := rfl
/-- A head that is valid, with its body, and whatever stands behind, says how many bytes it is. -/
theorem meas_ok (p : Pk) (s : Int) (t : List Int) (h : pkErr p = 0) (hs : tot 0 (headZ p s) = 65535) : meas (headZ p s ++ p.body ++ t) = (18 + (p.body.length : Int), 0) := by
  obtain ⟨hp, hb⟩ := pkErr_ok h
  have hk := (of_pkIn hp).1
  have g0 : (headZ p s ++ p.body ++ t).getD 0 0 = (80 + p.kind) % 256 := rfl
  have g2 : (headZ p s ++ p.body ++ t).getD 2 0 = (18 + (p.body.length : Int)) / 256 % 256 := rfl
  have g3 : (headZ p s ++ p.body ++ t).getD 3 0 = (18 + (p.body.length : Int)) % 256 := rfl
  have hl : (headZ p s ++ p.body ++ t).length = 18 + p.body.length + t.length := by rw [List.length_append, List.length_append, headZ_length]
  have e : (18 + (p.body.length : Int)) / 256 % 256 * 256 + (18 + (p.body.length : Int)) % 256 = 18 + (p.body.length : Int) := by omega
  unfold meas
  rw [g0, g2, g3, hl, take18, hs, e, if_neg (by omega), if_neg (by omega), if_neg (by simp), if_neg (by omega), if_neg (by omega), if_neg (by omega)]
/-- and reads as the packet that it is of. -/
theorem readK_ok (p : Pk) (s : Int) (t : List Int) (h : pkErr p = 0) : readK (headZ p s ++ p.body ++ t) (18 + p.body.length) = p := by
  obtain ⟨hp, hb⟩ := pkErr_ok h
  obtain ⟨hk, ht, hi, hs, hd, ha⟩ := of_pkIn hp
  have hpl := plc_range hp
  have e0 : (headZ p s ++ p.body ++ t).getD 0 0 = (80 + p.kind) % 256 := rfl
  have e1 : (headZ p s ++ p.body ++ t).getD 1 0 = p.ttl % 256 := rfl
  have e4 : (headZ p s ++ p.body ++ t).getD 4 0 = p.ident / 256 % 256 := rfl
  have e5 : (headZ p s ++ p.body ++ t).getD 5 0 = p.ident % 256 := rfl
  have e6 : rdPlc (headZ p s ++ p.body ++ t) = plc p / 256 % 256 * 256 + plc p % 256 := rfl
  have e10 : (headZ p s ++ p.body ++ t).getD 10 0 = p.src / 256 / 256 / 256 % 256 := rfl
  have e11 : (headZ p s ++ p.body ++ t).getD 11 0 = p.src / 256 / 256 % 256 := rfl
  have e12 : (headZ p s ++ p.body ++ t).getD 12 0 = p.src / 256 % 256 := rfl
  have e13 : (headZ p s ++ p.body ++ t).getD 13 0 = p.src % 256 := rfl
  have e14 : (headZ p s ++ p.body ++ t).getD 14 0 = p.dst / 256 / 256 / 256 % 256 := rfl
  have e15 : (headZ p s ++ p.body ++ t).getD 15 0 = p.dst / 256 / 256 % 256 := rfl
  have e16 : (headZ p s ++ p.body ++ t).getD 16 0 = p.dst / 256 % 256 := rfl
  have e17 : (headZ p s ++ p.body ++ t).getD 17 0 = p.dst % 256 := rfl
  have ep : plc p / 256 % 256 * 256 + plc p % 256 = plc p := by omega
  have eb : ((headZ p s ++ p.body ++ t).drop 18).take (18 + p.body.length - 18) = p.body := by
    rw [drop18, show 18 + p.body.length - 18 = p.body.length by omega, List.take_left']; rfl
  have f1 : (80 + p.kind) % 256 - 80 = p.kind := by omega
  have f2 : p.ttl % 256 = p.ttl := by omega
  have f3 : p.ident / 256 % 256 * 256 + p.ident % 256 = p.ident := by omega
  have f4 : plc p % 32768 = p.pos := by unfold plc; split <;> omega
  have f5 : decide (32768 ≤ plc p) = p.more := by
    unfold plc
    rcases hm : p.more with _ | _
    · simp; omega
    · simp; omega
  unfold readK
  rw [e0, e1, e4, e5, e6, e10, e11, e12, e13, e14, e15, e16, e17, ep, eb, f1, f2, f3, f4, f5, src_back _ hs.1 hs.2, src_back _ hd.1 hd.2]
theorem readF_ok (p : Pk) (s : Int) (t : List Int) (h : pkErr p = 0) (hs : tot 0 (headZ p s) = 65535) : readF (headZ p s ++ p.body ++ t) = p := by
  unfold readF
  rw [meas_ok p s t h hs, if_pos rfl, show (18 + (p.body.length : Int), (0 : Int)).1.toNat = 18 + p.body.length by simp; omega, readK_ok p s t h]
/-- Cut off anywhere it is not whole. -/
theorem meas_cut (p : Pk) (k : Nat) (h : pkErr p = 0) (hk : k < 18 + p.body.length) : meas ((encL p).take k) = (0, 8) := by
  have hl : ((encL p).take k).length = k := by rw [List.length_take, encL_length]; omega
  by_cases h18 : k < 18
  · unfold meas; rw [hl, if_pos h18]
  · have e : (encL p).take k = headZ p (sumH p) ++ p.body.take (k - 18) := by
      unfold encL
      rw [List.take_append, headZ_length, List.take_of_length_le (by rw [headZ_length]; omega)]
    obtain ⟨hp, hb⟩ := pkErr_ok h
    have hk' := (of_pkIn hp).1
    rw [e]
    have g0 : (headZ p (sumH p) ++ p.body.take (k - 18)).getD 0 0 = (80 + p.kind) % 256 := rfl
    have g2 : (headZ p (sumH p) ++ p.body.take (k - 18)).getD 2 0 = (18 + (p.body.length : Int)) / 256 % 256 := rfl
    have g3 : (headZ p (sumH p) ++ p.body.take (k - 18)).getD 3 0 = (18 + (p.body.length : Int)) % 256 := rfl
    have gt : (headZ p (sumH p) ++ p.body.take (k - 18)).take 18 = headZ p (sumH p) := by
      rw [List.take_append_of_le_length (by rw [headZ_length]; omega)]; exact List.take_of_length_le (by rw [headZ_length]; omega)
    have gl : (headZ p (sumH p) ++ p.body.take (k - 18)).length = k := by rw [← e, hl]
    have e2 : (18 + (p.body.length : Int)) / 256 % 256 * 256 + (18 + (p.body.length : Int)) % 256 = 18 + (p.body.length : Int) := by omega
    unfold meas
    rw [g0, g2, g3, gt, gl, tot_sumH, e2, if_neg (by omega), if_neg (by omega), if_neg (by simp), if_neg (by omega), if_neg (by omega), if_pos (by omega)]
/-- With one byte of its head changed it is none. -/
theorem meas_spoilt (p : Pk) (k : Nat) (v : Int) (h : pkErr p = 0) (hk : k < 18) (h0 : 0 ≤ v) (h1 : v ≤ 255) (hne : ¬ (encL p).getD k 0 = v) : ¬ (meas ((encL p).set k v)).2 = 0 := by
  have hl : ((encL p).set k v).length = 18 + p.body.length := by rw [List.length_set, encL_length]
  have ht : ((encL p).set k v).take 18 = (headZ p (sumH p)).set k v := by
    rw [List.take_set]
    rfl
  have hg : (encL p).getD k 0 = (headZ p (sumH p)).getD k 0 := by
    unfold encL; simp [List.getD, List.getElem?_append, headZ_length, hk]
  rw [hg] at hne
  have hb := headZ_byte p (sumH p)
  have hkl : k < (headZ p (sumH p)).length := by rw [headZ_length]; exact hk
  have hbk := getD_byte hkl hb
  have hbs := byte_set (j := k) hb h0 h1
  have hT : ¬ tot 0 ((headZ p (sumH p)).set k v) = 65535 := by
    have hnn := wsum_nonneg _ hbs
    rw [wsum_set _ _ _ hkl] at hnn
    rw [tot_norm _ 0 hbs (by omega) (by omega), wsum_set _ _ _ hkl, Int.zero_add]
    have hv : norm (wsum (headZ p (sumH p))) = 65535 := by rw [← tot_headZ, tot_sumH]
    exact spoilt hv (by rcases place_cases k with h | h <;> rw [h] <;> omega) (by rcases place_cases k with h | h <;> rw [h] <;> omega) (by rcases place_cases k with h | h <;> rw [h] <;> omega) hnn
  unfold meas
  rw [hl, ht, if_neg (by omega)]
  split
  · simp
  · simp
/-- A step further. -/
theorem stepS_range (zs : List Int) (hb : ∀ x ∈ zs, 0 ≤ x ∧ x ≤ 255) (hl : 18 ≤ zs.length) (h1 : 0 < zs.getD 1 0) : 0 ≤ stepS zs ∧ stepS zs ≤ 65535 := by
  have b0 := getD_byte (by omega : 0 < zs.length) hb
  have b1 := getD_byte (by omega : 1 < zs.length) hb
  have b8 := getD_byte (by omega : 8 < zs.length) hb
  have b9 := getD_byte (by omega : 9 < zs.length) hb
  have r4 := addS_range (a := 65535 - (zs.getD 8 0 * 256 + zs.getD 9 0)) (b := 65535 - (zs.getD 0 0 * 256 + zs.getD 1 0)) (by omega) (by omega) (by omega) (by omega)
  have r5 := addS_range (a := addS (65535 - (zs.getD 8 0 * 256 + zs.getD 9 0)) (65535 - (zs.getD 0 0 * 256 + zs.getD 1 0))) (b := zs.getD 0 0 * 256 + zs.getD 1 0 - 1) r4.1 r4.2 (by omega) (by omega)
  unfold stepS; omega
theorem stepL_byte (zs : List Int) (hb : ∀ x ∈ zs, 0 ≤ x ∧ x ≤ 255) (hl : 18 ≤ zs.length) (h1 : 0 < zs.getD 1 0) : ∀ x ∈ stepL zs, 0 ≤ x ∧ x ≤ 255 := by
  have b1 := getD_byte (by omega : 1 < zs.length) hb
  unfold stepL
  exact byte_set (byte_set (byte_set hb (by omega) (by omega)) (byte_mod _).1 (byte_mod _).2) (byte_mod _).1 (byte_mod _).2
def lessT (p : Pk) : Pk := { p with ttl := p.ttl - 1 }
theorem lessT_ok {p : Pk} (h : pkErr p = 0) (ht : 0 < p.ttl) : pkErr (lessT p) = 0 := by
  obtain ⟨hp, hb⟩ := pkErr_ok h
  obtain ⟨hk, hT, hi, hs, hd, ha⟩ := of_pkIn hp
  have e : pkIn (lessT p) = true := by
    simp only [pkIn, lessT, Bool.and_eq_true]
    exact ⟨⟨⟨⟨⟨upB_yes hk.1 hk.2, upB_yes (by omega) (by omega)⟩, upB_yes hi.1 hi.2⟩, upB_yes hs.1 hs.2⟩, upB_yes hd.1 hd.2⟩, upB_yes ha.1 ha.2⟩
  unfold pkErr
  rw [e, if_neg (by simp), if_neg (by simp only [lessT]; omega)]
theorem stepL_enc (p : Pk) (h : pkErr p = 0) (ht : 0 < p.ttl) : stepL (encL p) = headZ (lessT p) (stepS (encL p)) ++ (lessT p).body ∧ tot 0 (headZ (lessT p) (stepS (encL p))) = 65535 := by
  obtain ⟨hp, hb⟩ := pkErr_ok h
  obtain ⟨hk, hT, hi, hs, hd, ha⟩ := of_pkIn hp
  have hr := sumH_range p
  have g0 : (encL p).getD 0 0 = (80 + p.kind) % 256 := rfl
  have g1 : (encL p).getD 1 0 = p.ttl % 256 := rfl
  have g8 : (encL p).getD 8 0 = sumH p / 256 % 256 := rfl
  have g9 : (encL p).getD 9 0 = sumH p % 256 := rfl
  have es : sumH p / 256 % 256 * 256 + sumH p % 256 = sumH p := by omega
  have ek : (80 + p.kind) % 256 = 80 + p.kind := by omega
  have et : p.ttl % 256 = p.ttl := by omega
  have eS : stepS (encL p) = 65535 - addS (addS (65535 - sumH p) (65535 - ((80 + p.kind) * 256 + p.ttl))) ((80 + p.kind) * 256 + p.ttl - 1) := by
    unfold stepS; rw [g0, g1, g8, g9, es, ek, et]
  have r4 := addS_range (a := 65535 - sumH p) (b := 65535 - ((80 + p.kind) * 256 + p.ttl)) (by omega) (by omega) (by omega) (by omega)
  have r5 := addS_range (a := addS (65535 - sumH p) (65535 - ((80 + p.kind) * 256 + p.ttl))) (b := (80 + p.kind) * 256 + p.ttl - 1) r4.1 r4.2 (by omega) (by omega)
  have hS : 0 ≤ stepS (encL p) ∧ stepS (encL p) ≤ 65535 := by rw [eS]; omega
  constructor
  · have e1 : stepL (encL p) = ((encL p).set 1 (p.ttl - 1) |>.set 8 (stepS (encL p) / 256 % 256)).set 9 (stepS (encL p) % 256) := by
      unfold stepL; rw [g1, et]
    rw [e1]
    generalize stepS (encL p) = m
    have et' : p.ttl - 1 = (p.ttl - 1) % 256 := by omega
    rw [et']
    rfl
  · rw [tot_headZ, wsum_headZ _ _ hS.1 hS.2]
    have hz : wsum (headZ (lessT p) 0) = wsum (headZ p 0) + (((80 + p.kind) * 256 + p.ttl - 1) - ((80 + p.kind) * 256 + p.ttl)) := by
      simp only [headZ, wsum, lessT]
      have : plc { kind := p.kind, ttl := p.ttl - 1, ident := p.ident, src := p.src, dst := p.dst, pos := p.pos, more := p.more, body := p.body } = plc p := rfl
      rw [this]
      omega
    have hn := wsum_nonneg _ (headZ_byte p 0)
    have hn' := wsum_nonneg _ (headZ_byte (lessT p) 0)
    have hbig : 0 < wsum (headZ (lessT p) 0) := by
      have hn2 := wsum_nonneg ((headZ (lessT p) 0).drop 2) (fun x hx => headZ_byte _ _ x (List.mem_of_mem_drop hx))
      have e2 : wsum (headZ (lessT p) 0) = (80 + p.kind) % 256 * 256 + (p.ttl - 1) % 256 + wsum ((headZ (lessT p) 0).drop 2) := rfl
      rw [e2]; omega
    rw [hz] at hn' hbig ⊢
    have hm := mended (s := wsum (headZ p 0)) (n := sumH p) (old := (80 + p.kind) * 256 + p.ttl) (now := (80 + p.kind) * 256 + p.ttl - 1) (d := ((80 + p.kind) * 256 + p.ttl - 1) - ((80 + p.kind) * 256 + p.ttl)) hn (by unfold sumH; rw [tot_headZ]) rfl (by omega) (by omega) (by omega) (by omega) hn'
    rw [← eS] at hm
    rcases hm with hm | ⟨hm1, hm2⟩
    · exact hm
    · exfalso
      rw [hm1, Int.add_zero] at hm2
      unfold norm at hm2
      split at hm2 <;> omega
theorem encL_app (p : Pk) : encL p = headZ p (sumH p) ++ p.body ++ [] := by unfold encL; simp
theorem meas_enc (p : Pk) (t : List Int) (h : pkErr p = 0) : meas (encL p ++ t) = (18 + (p.body.length : Int), 0) := meas_ok p _ t h (tot_sumH p)
theorem readF_enc (p : Pk) (t : List Int) (h : pkErr p = 0) : readF (encL p ++ t) = p := readF_ok p _ t h (tot_sumH p)
theorem stepE_enc (p : Pk) (h : pkErr p = 0) (ht : 0 < p.ttl) : stepE (encL p) = 0 := by
  have hp := (of_pkIn (pkErr_ok h).1).2.1
  have e := meas_enc p [] h
  rw [List.append_nil] at e
  unfold stepE
  rw [e, if_neg (by simp), if_neg (by rw [encL_length]; simp), if_neg]
  show ¬ p.ttl % 256 = 0
  omega
theorem meas_step (p : Pk) (h : pkErr p = 0) (ht : 0 < p.ttl) : meas (stepL (encL p)) = (18 + (p.body.length : Int), 0) ∧ readF (stepL (encL p)) = lessT p := by
  obtain ⟨e, hs⟩ := stepL_enc p h ht
  rw [e, ← List.append_nil (headZ (lessT p) (stepS (encL p)) ++ (lessT p).body)]
  exact ⟨meas_ok (lessT p) _ [] (lessT_ok h ht) hs, readF_ok (lessT p) _ [] (lessT_ok h ht) hs⟩
end Go.Proofs.YtobfkabhnanpfaaGreatDoor

namespace Go.Proofs.YtobfkabhnanpfaaGreatDoor
set_option linter.unusedVariables false

/-- A segment: its numbers, and its body's bytes. -/
structure Sg where
  frm : Int
  too : Int
  seq : Int
  ack : Int
  win : Int
  flg : Int
  body : List Int

def b1L (n : Int) : List Int := [n % 256]
def b2L (n : Int) : List Int := [n / 256 % 256, n % 256]
def b4L (n : Int) : List Int := [n / 16777216 % 256, n / 65536 % 256, n / 256 % 256, n % 256]
def isK (k : Int) : Bool := decide (1 ≤ k ∧ k ≤ 3)
def hdN (k : Int) : Nat := if k = 1 then 17 else if k = 2 then 6 else if k = 3 then 8 else 0
def frmB (k n : Int) : Bool := if k = 3 then upB n 1 else upB n 65535
def seqM (k : Int) : Int := if k = 3 then 65535 else 4294967295
def fitB (k : Int) (s : Sg) : Bool := frmB k s.frm && upB s.too 65535 && upB s.win 65535 && upB s.seq (seqM k) && upB s.ack 4294967295 && upB s.flg 15
def lackB (k : Int) (s : Sg) : Bool := decide ((k = 2 ∧ ¬ s.seq = 0) ∨ (¬ k = 1 ∧ (¬ s.ack = 0 ∨ ¬ s.win = 0 ∨ ¬ s.flg = 0)))
/-- What is wrong with a segment. -/
def sgErr (k : Int) (s : Sg) (src dst : Int) : Int :=
  if (isK k && upB src 4294967295 && upB dst 4294967295 && fitB k s) = false then 1 else if lackB k s = true then 3 else if 4000 < s.body.length + hdN k then 4 else 0
def front1 (s : Sg) : List Int := b2L s.frm ++ b2L s.too ++ b4L s.seq ++ b4L s.ack ++ b1L s.flg ++ b2L s.win
def front2 (s : Sg) : List Int := b2L s.frm ++ b2L s.too
def front3 (s : Sg) : List Int := b1L s.frm ++ b2L s.too ++ b2L s.seq ++ b1L 0
/-- The bytes ahead of the sum. -/
def frontL (k : Int) (s : Sg) : List Int := if k = 1 then front1 s else if k = 2 then front2 s else front3 s
/-- What is summed. -/
def psL (k : Int) (F B : List Int) (src dst : Int) : List Int := b4L src ++ b4L dst ++ b2L k ++ F ++ b2L 0 ++ B
def psum (k : Int) (F B : List Int) (src dst : Int) : Int := 65535 - tot 0 (psL k F B src dst)
def segL (k : Int) (s : Sg) (src dst : Int) : List Int := frontL k s ++ b2L (psum k (frontL k s) s.body src dst) ++ s.body
def g2 (zs : List Int) (o : Nat) : Int := zs.getD o 0 * 256 + zs.getD (o + 1) 0
def g4 (zs : List Int) (o : Nat) : Int := ((zs.getD o 0 * 256 + zs.getD (o + 1) 0) * 256 + zs.getD (o + 2) 0) * 256 + zs.getD (o + 3) 0
/-- What is wrong with bytes that are to be a segment. -/
def rdErr (k : Int) (zs : List Int) (src dst : Int) : Int :=
  if (isK k && upB src 4294967295 && upB dst 4294967295) = false then 1 else
  if zs.length < hdN k then 8 else if 4000 < zs.length then 4 else
  if ¬ g2 zs (hdN k - 2) = psum k (zs.take (hdN k - 2)) (zs.drop (hdN k)) src dst then 9 else
  if (k = 3 ∧ 1 < zs.getD 0 0) ∨ (k = 1 ∧ 15 < zs.getD 12 0) then 1 else if k = 3 ∧ ¬ zs.getD 5 0 = 0 then 3 else 0
def zeroS : Sg := { frm := 0, too := 0, seq := 0, ack := 0, win := 0, flg := 0, body := [] }
/-- The fields of bytes that are a segment. -/
def fldS (k : Int) (zs : List Int) : Sg :=
  if k = 1 then { frm := g2 zs 0, too := g2 zs 2, seq := g4 zs 4, ack := g4 zs 8, win := g2 zs 13, flg := zs.getD 12 0, body := zs.drop 17 } else
  if k = 2 then { frm := g2 zs 0, too := g2 zs 2, seq := 0, ack := 0, win := 0, flg := 0, body := zs.drop 6 } else
  { frm := zs.getD 0 0, too := g2 zs 1, seq := g2 zs 3, ack := 0, win := 0, flg := 0, body := zs.drop 8 }
def rdS (k : Int) (zs : List Int) (src dst : Int) : Sg := if rdErr k zs src dst = 0 then fldS k zs else zeroS
/-- The key of a packet, and what is wrong with it. -/
def kyE (p : Pk) : Int := if ¬ pkErr p = 0 then pkErr p else if ¬ p.pos = 0 ∨ p.more = true then 3 else rdErr p.kind p.body p.src p.dst
def zeroY : Ky := { kind := 0, src := 0, frm := 0, dst := 0, too := 0 }
def mkY (p : Pk) (s : Sg) : Ky := { kind := p.kind, src := p.src, frm := if p.kind = 3 then s.too else s.frm, dst := p.dst, too := s.too }
def kyS (p : Pk) : Sg := if kyE p = 0 then fldS p.kind p.body else zeroS
def kyK (p : Pk) : Ky := if kyE p = 0 then mkY p (fldS p.kind p.body) else zeroY
def turnK (k : Ky) : Ky := { kind := k.kind, src := k.dst, frm := k.too, dst := k.src, too := k.frm }
def firstK (k : Ky) : Ky := if k.dst < k.src ∨ (k.dst = k.src ∧ k.too < k.frm) then turnK k else k
def nearB (a b most : Int) : Bool := upB most 1073741824 && decide ((a - b + most) % 4294967296 ≤ 2 * most)

theorem isK_of {k : Int} (h : isK k = true) : k = 1 ∨ k = 2 ∨ k = 3 := by
  have : 1 ≤ k ∧ k ≤ 3 := by simpa [isK] using h
  omega
theorem isK_no {k : Int} (h : isK k = false) : ¬ (1 ≤ k ∧ k ≤ 3) := by simpa [isK] using h
theorem b1L_byte (n : Int) : ∀ x ∈ b1L n, 0 ≤ x ∧ x ≤ 255 := by
  intro x hx; simp only [b1L, List.mem_cons, List.not_mem_nil, or_false] at hx; omega
theorem b2L_byte (n : Int) : ∀ x ∈ b2L n, 0 ≤ x ∧ x ≤ 255 := by
  intro x hx; simp only [b2L, List.mem_cons, List.not_mem_nil, or_false] at hx; omega
theorem b4L_byte (n : Int) : ∀ x ∈ b4L n, 0 ≤ x ∧ x ≤ 255 := by
  intro x hx; simp only [b4L, List.mem_cons, List.not_mem_nil, or_false] at hx; omega
theorem byte_app {a b : List Int} (ha : ∀ x ∈ a, 0 ≤ x ∧ x ≤ 255) (hb : ∀ x ∈ b, 0 ≤ x ∧ x ≤ 255) : ∀ x ∈ a ++ b, 0 ≤ x ∧ x ≤ 255 := by
  intro x hx
  rcases List.mem_append.1 hx with h | h
  · exact ha x h
  · exact hb x h
theorem frontL_byte (k : Int) (s : Sg) : ∀ x ∈ frontL k s, 0 ≤ x ∧ x ≤ 255 := by
  unfold frontL
  split
  · exact byte_app (byte_app (byte_app (byte_app (byte_app (b2L_byte _) (b2L_byte _)) (b4L_byte _)) (b4L_byte _)) (b1L_byte _)) (b2L_byte _)
  · split
    · exact byte_app (b2L_byte _) (b2L_byte _)
    · exact byte_app (byte_app (byte_app (b1L_byte _) (b2L_byte _)) (b2L_byte _)) (b1L_byte _)
theorem psL_byte {k : Int} {F B : List Int} {src dst : Int} (hF : ∀ x ∈ F, 0 ≤ x ∧ x ≤ 255) (hB : ∀ x ∈ B, 0 ≤ x ∧ x ≤ 255) : ∀ x ∈ psL k F B src dst, 0 ≤ x ∧ x ≤ 255 :=
  byte_app (byte_app (byte_app (byte_app (byte_app (b4L_byte _) (b4L_byte _)) (b2L_byte _)) hF) (b2L_byte _)) hB
theorem psum_range {k : Int} {F B : List Int} {src dst : Int} (hF : ∀ x ∈ F, 0 ≤ x ∧ x ≤ 255) (hB : ∀ x ∈ B, 0 ≤ x ∧ x ≤ 255) : 0 ≤ psum k F B src dst ∧ psum k F B src dst ≤ 65535 := by
  have := tot_range (psL k F B src dst) 0 (psL_byte hF hB) (by omega) (by omega)
  unfold psum; omega
theorem frontL_length {k : Int} (s : Sg) (h : isK k = true) : (frontL k s).length + 2 = hdN k := by
  rcases isK_of h with rfl | rfl | rfl <;> rfl
theorem segL_length {k : Int} (s : Sg) (src dst : Int) (h : isK k = true) : (segL k s src dst).length = hdN k + s.body.length := by
  unfold segL
  have e := frontL_length s h
  simp only [List.length_append, b2L, List.length_cons, List.length_nil]
  omega
theorem segL_byte (k : Int) (s : Sg) (src dst : Int) (hB : ∀ x ∈ s.body, 0 ≤ x ∧ x ≤ 255) : ∀ x ∈ segL k s src dst, 0 ≤ x ∧ x ≤ 255 :=
  byte_app (byte_app (frontL_byte k s) (b2L_byte _)) hB
theorem sgErr_ok {k : Int} {s : Sg} {src dst : Int} (h : sgErr k s src dst = 0) :
    isK k = true ∧ upB src 4294967295 = true ∧ upB dst 4294967295 = true ∧ fitB k s = true ∧ lackB k s = false ∧ s.body.length + hdN k ≤ 4000 := by
  unfold sgErr at h
  split at h
  · simp at h
  split at h
  · simp at h
  split at h
  · simp at h
  · rename_i h1 h2 h3
    have e : (isK k && upB src 4294967295 && upB dst 4294967295 && fitB k s) = true := by
      revert h1
      cases (isK k && upB src 4294967295 && upB dst 4294967295 && fitB k s) <;> simp
    simp only [Bool.and_eq_true] at e
    exact ⟨e.1.1.1, e.1.1.2, e.1.2, e.2, by simpa using h2, by omega⟩
theorem fitB_of {k : Int} {s : Sg} (h : fitB k s = true) : frmB k s.frm = true ∧ (0 ≤ s.too ∧ s.too ≤ 65535) ∧ (0 ≤ s.win ∧ s.win ≤ 65535) ∧ (0 ≤ s.seq ∧ s.seq ≤ seqM k) ∧ (0 ≤ s.ack ∧ s.ack ≤ 4294967295) ∧ (0 ≤ s.flg ∧ s.flg ≤ 15) := by
  simp only [fitB, Bool.and_eq_true] at h
  obtain ⟨⟨⟨⟨⟨a, b⟩, c⟩, d⟩, e⟩, f⟩ := h
  exact ⟨a, of_upB b, of_upB c, of_upB d, of_upB e, of_upB f⟩
theorem frmB_of {k n : Int} (h : frmB k n = true) : 0 ≤ n ∧ n ≤ 65535 ∧ (k = 3 → n ≤ 1) := by
  unfold frmB at h
  split at h
  · have := of_upB h; omega
  · have := of_upB h; omega
theorem seqM_le (k : Int) : seqM k ≤ 4294967295 ∧ (k = 3 → seqM k ≤ 65535) := by
  unfold seqM; split <;> simp_all
theorem take_front (F B : List Int) (S : Int) : (F ++ b2L S ++ B).take F.length = F := by
  rw [List.append_assoc, List.take_left']; rfl
theorem drop_front (F B : List Int) (S : Int) : (F ++ b2L S ++ B).drop (F.length + 2) = B := by
  rw [List.drop_left']; simp [b2L]
theorem g2_front (F B : List Int) (S : Int) (h0 : 0 ≤ S) (h1 : S ≤ 65535) : g2 (F ++ b2L S ++ B) F.length = S := by
  unfold g2
  have e1 : (F ++ b2L S ++ B).getD F.length 0 = S / 256 % 256 := by simp [List.getD, b2L]
  have e2 : (F ++ b2L S ++ B).getD (F.length + 1) 0 = S % 256 := by
    rw [List.append_assoc]; simp [List.getD, b2L]
  rw [e1, e2]; omega
theorem hdN_ge {k : Int} (h : isK k = true) : 6 ≤ hdN k ∧ hdN k ≤ 17 := by
  rcases isK_of h with rfl | rfl | rfl <;> decide
/-- Of bytes of that form the sum is looked at. -/
theorem sum_seen {k : Int} (F B : List Int) (S src dst : Int) (hk : isK k = true) (hl : F.length + 2 = hdN k) (h0 : 0 ≤ S) (h1 : S ≤ 65535) :
    (g2 (F ++ b2L S ++ B) (hdN k - 2) = psum k ((F ++ b2L S ++ B).take (hdN k - 2)) ((F ++ b2L S ++ B).drop (hdN k)) src dst) ↔ S = psum k F B src dst := by
  rw [← hl, show F.length + 2 - 2 = F.length by omega, take_front, drop_front, g2_front F B S h0 h1]
theorem rd_range {k src dst : Int} (hk : isK k = true) (hs : upB src 4294967295 = true) (hd : upB dst 4294967295 = true) : ¬ (isK k && upB src 4294967295 && upB dst 4294967295) = false := by
  rw [hk, hs, hd]; simp
/-- With another sum it is told. -/
theorem rdErr_sum {k : Int} (F B : List Int) (S src dst : Int) (hk : isK k = true) (hs : upB src 4294967295 = true) (hd : upB dst 4294967295 = true) (hl : F.length + 2 = hdN k) (h0 : 0 ≤ S) (h1 : S ≤ 65535) (h4 : B.length + hdN k ≤ 4000)
    (hne : ¬ S = psum k F B src dst) : rdErr k (F ++ b2L S ++ B) src dst = 9 := by
  have e : (F ++ b2L S ++ B).length = hdN k + B.length := by simp [b2L]; omega
  unfold rdErr
  rw [if_neg (rd_range hk hs hd), e, if_neg (by omega), if_neg (by omega), if_pos (by rw [sum_seen F B S src dst hk hl h0 h1]; exact hne)]
theorem num4 (x : Int) (h0 : 0 ≤ x) (h1 : x ≤ 4294967295) : ((x / 16777216 % 256 * 256 + x / 65536 % 256) * 256 + x / 256 % 256) * 256 + x % 256 = x := by omega
theorem num2 (x : Int) (h0 : 0 ≤ x) (h1 : x ≤ 65535) : x / 256 % 256 * 256 + x % 256 = x := by omega
theorem num1 (x : Int) (h0 : 0 ≤ x) (h1 : x ≤ 255) : x % 256 = x := by omega
/-- The bytes of a segment read back as it. -/
theorem rdErr_ok {k : Int} {s : Sg} {src dst : Int} (h : sgErr k s src dst = 0) (hB : ∀ x ∈ s.body, 0 ≤ x ∧ x ≤ 255) : rdErr k (segL k s src dst) src dst = 0 ∧ fldS k (segL k s src dst) = s := by
  obtain ⟨hk, hs, hd, hf, hla, h4⟩ := sgErr_ok h
  obtain ⟨f1, f2, f3, f4, f5, f6⟩ := fitB_of hf
  have f1' := frmB_of f1
  have hm := seqM_le k
  have hla' : ¬ ((k = 2 ∧ ¬ s.seq = 0) ∨ (¬ k = 1 ∧ (¬ s.ack = 0 ∨ ¬ s.win = 0 ∨ ¬ s.flg = 0))) := by simpa [lackB] using hla
  have hr := psum_range (k := k) (src := src) (dst := dst) (frontL_byte k s) hB
  have e := segL_length s src dst hk
  have es := (sum_seen (frontL k s) s.body (psum k (frontL k s) s.body src dst) src dst hk (frontL_length s hk) hr.1 hr.2).2 rfl
  unfold rdErr
  rw [if_neg (rd_range hk hs hd), e, if_neg (by omega), if_neg (by omega), if_neg (by rw [Decidable.not_not]; exact es)]
  clear es e h hf hla h4 hs hd
  generalize psum k (frontL k s) s.body src dst = S at *
  obtain ⟨frm, too, seq, ack, win, flg, body⟩ := s
  simp only at f1' f2 f3 f4 f5 f6 hla' hB
  rcases isK_of hk with rfl | rfl | rfl
  · have hz : segL 1 ⟨frm, too, seq, ack, win, flg, body⟩ src dst = segL 1 ⟨frm, too, seq, ack, win, flg, body⟩ src dst := rfl
    unfold segL at hz ⊢
    have a0 : ∀ S : Int, (frontL 1 ⟨frm, too, seq, ack, win, flg, body⟩ ++ b2L S ++ body) = [frm / 256 % 256, frm % 256, too / 256 % 256, too % 256, seq / 16777216 % 256, seq / 65536 % 256, seq / 256 % 256, seq % 256, ack / 16777216 % 256, ack / 65536 % 256, ack / 256 % 256, ack % 256, flg % 256, win / 256 % 256, win % 256, S / 256 % 256, S % 256] ++ body := fun S => rfl
    simp only [a0]
    refine ⟨?_, ?_⟩
    · rw [if_neg, if_neg (by omega)]
      rintro (⟨h, _⟩ | ⟨_, h⟩)
      · omega
      · have : flg % 256 = flg := by omega
        simp only [List.cons_append, List.getD, List.getElem?_cons_succ, List.getElem?_cons_zero, Option.getD_some] at h
        omega
    · unfold fldS g2 g4
      rw [if_pos rfl]
      simp only [List.cons_append, List.nil_append, List.getD, List.getElem?_cons_succ, List.getElem?_cons_zero, Option.getD_some, List.drop_succ_cons, List.drop_zero]
      rw [num2 frm (by omega) (by omega), num2 too (by omega) (by omega), num4 seq (by omega) (by omega), num4 ack (by omega) (by omega), num2 win (by omega) (by omega), num1 flg (by omega) (by omega)]
  · unfold segL
    have a0 : ∀ S : Int, (frontL 2 ⟨frm, too, seq, ack, win, flg, body⟩ ++ b2L S ++ body) = [frm / 256 % 256, frm % 256, too / 256 % 256, too % 256, S / 256 % 256, S % 256] ++ body := fun S => rfl
    simp only [a0]
    refine ⟨?_, ?_⟩
    · rw [if_neg (by omega), if_neg (by omega)]
    · unfold fldS g2 g4
      rw [if_neg (by decide), if_pos rfl]
      simp only [List.cons_append, List.nil_append, List.getD, List.getElem?_cons_succ, List.getElem?_cons_zero, Option.getD_some, List.drop_succ_cons, List.drop_zero]
      rw [num2 frm (by omega) (by omega), num2 too (by omega) (by omega), show seq = 0 by omega, show ack = 0 by omega, show win = 0 by omega, show flg = 0 by omega]
  · unfold segL
    have a0 : ∀ S : Int, (frontL 3 ⟨frm, too, seq, ack, win, flg, body⟩ ++ b2L S ++ body) = [frm % 256, too / 256 % 256, too % 256, seq / 256 % 256, seq % 256, 0 % 256, S / 256 % 256, S % 256] ++ body := fun S => rfl
    simp only [a0]
    refine ⟨?_, ?_⟩
    · rw [if_neg, if_neg]
      · rintro ⟨_, h⟩
        exact h rfl
      · rintro (⟨_, h⟩ | ⟨h, _⟩)
        · have : frm % 256 = frm := by omega
          simp only [List.cons_append, List.getD, List.getElem?_cons_zero, Option.getD_some] at h
          omega
        · omega
    · unfold fldS g2 g4
      rw [if_neg (by decide), if_neg (by decide)]
      simp only [List.cons_append, List.nil_append, List.getD, List.getElem?_cons_succ, List.getElem?_cons_zero, Option.getD_some, List.drop_succ_cons, List.drop_zero]
      rw [num1 frm (by omega) (by omega), num2 too (by omega) (by omega), num2 seq (by omega) (by omega), show ack = 0 by omega, show win = 0 by omega, show flg = 0 by omega]
theorem norm_ne {s d : Int} (hs : 0 ≤ s) (hd : ¬ d = 0) (h1 : -65535 < d) (h2 : d < 65535) (h : 0 ≤ s + d) : ¬ norm (s + d) = norm s := by
  unfold norm
  split <;> split <;> omega
/-- One byte that changes changes the sum. -/
theorem tot_set_ne {l : List Int} {j : Nat} {v : Int} (hb : ∀ x ∈ l, 0 ≤ x ∧ x ≤ 255) (hj : j < l.length) (h0 : 0 ≤ v) (h1 : v ≤ 255) (hne : ¬ l.getD j 0 = v) : ¬ tot 0 (l.set j v) = tot 0 l := by
  have hbs := byte_set (j := j) hb h0 h1
  have hx := getD_byte hj hb
  have hnn := wsum_nonneg _ hbs
  have h0' := wsum_nonneg _ hb
  rw [tot_norm _ 0 hbs (by omega) (by omega), tot_norm _ 0 hb (by omega) (by omega), Int.zero_add, Int.zero_add]
  rw [wsum_set _ _ _ hj] at hnn ⊢
  exact norm_ne h0' (by rcases place_cases j with h | h <;> rw [h] <;> omega) (by rcases place_cases j with h | h <;> rw [h] <;> omega) (by rcases place_cases j with h | h <;> rw [h] <;> omega) hnn
theorem psL_length (k : Int) (F B : List Int) (src dst : Int) : (psL k F B src dst).length = 12 + F.length + B.length := by
  simp only [psL, List.length_append, b4L, b2L, List.length_cons, List.length_nil]; omega
theorem psL_setF (k : Int) (F B : List Int) (src dst : Int) (j : Nat) (v : Int) (h : j < F.length) : psL k (F.set j v) B src dst = (psL k F B src dst).set (10 + j) v ∧ (psL k F B src dst).getD (10 + j) 0 = F.getD j 0 := by
  have e : ∀ G : List Int, psL k G B src dst = (b4L src ++ b4L dst ++ b2L k) ++ (G ++ (b2L 0 ++ B)) := fun G => by simp [psL]
  have hp : (b4L src ++ b4L dst ++ b2L k).length = 10 := rfl
  rw [e, e]
  generalize b4L src ++ b4L dst ++ b2L k = P at *
  refine ⟨?_, ?_⟩
  · rw [List.set_append, if_neg (by omega), hp, show 10 + j - 10 = j by omega, List.set_append, if_pos h]
  · simp only [List.getD]
    rw [List.getElem?_append_right (by omega), hp, show 10 + j - 10 = j by omega, List.getElem?_append_left h]
theorem psL_setB (k : Int) (F B : List Int) (src dst : Int) (j : Nat) (v : Int) (h : j < B.length) : psL k F (B.set j v) src dst = (psL k F B src dst).set (12 + F.length + j) v ∧ (psL k F B src dst).getD (12 + F.length + j) 0 = B.getD j 0 := by
  have hp : (b4L src ++ b4L dst ++ b2L k ++ F ++ b2L 0).length = 12 + F.length := by simp [b4L, b2L]; omega
  unfold psL
  generalize b4L src ++ b4L dst ++ b2L k ++ F ++ b2L 0 = P at *
  refine ⟨?_, ?_⟩
  · rw [List.set_append, if_neg (by omega), hp, show 12 + F.length + j - (12 + F.length) = j by omega]
  · simp only [List.getD]
    rw [List.getElem?_append_right (by omega), hp, show 12 + F.length + j - (12 + F.length) = j by omega]
theorem b2L_set (S : Int) (v : Int) (h0 : 0 ≤ S) (h1 : S ≤ 65535) (hv0 : 0 ≤ v) (hv1 : v ≤ 255) (j : Nat) (hj : j < 2) (hne : ¬ (b2L S).getD j 0 = v) : ∃ S', (b2L S).set j v = b2L S' ∧ 0 ≤ S' ∧ S' ≤ 65535 ∧ ¬ S' = S := by
  have : j = 0 ∨ j = 1 := by omega
  rcases this with rfl | rfl
  · refine ⟨v * 256 + S % 256, ?_, by omega, by omega, ?_⟩
    · have e1 : (v * 256 + S % 256) / 256 % 256 = v := by omega
      have e2 : (v * 256 + S % 256) % 256 = S % 256 := by omega
      unfold b2L; rw [e1, e2]; rfl
    · intro h
      apply hne
      show S / 256 % 256 = v
      omega
  · refine ⟨S / 256 % 256 * 256 + v, ?_, by omega, by omega, ?_⟩
    · have e1 : (S / 256 % 256 * 256 + v) / 256 % 256 = S / 256 % 256 := by omega
      have e2 : (S / 256 % 256 * 256 + v) % 256 = v := by omega
      unfold b2L; rw [e1, e2]; rfl
    · intro h
      apply hne
      show S % 256 = v
      omega
/-- With one byte changed it is told. -/
theorem rdErr_flip {k : Int} {s : Sg} {src dst : Int} (h : sgErr k s src dst = 0) (hB : ∀ x ∈ s.body, 0 ≤ x ∧ x ≤ 255) (j : Nat) (v : Int) (hj : j < (segL k s src dst).length) (h0 : 0 ≤ v) (h1 : v ≤ 255) (hne : ¬ (segL k s src dst).getD j 0 = v) :
    rdErr k ((segL k s src dst).set j v) src dst = 9 := by
  obtain ⟨hk, hs, hd, hf, hla, h4⟩ := sgErr_ok h
  have hr := psum_range (k := k) (src := src) (dst := dst) (frontL_byte k s) hB
  have hl := frontL_length s hk
  have hF := frontL_byte k s
  rw [segL_length s src dst hk] at hj
  unfold segL at hne ⊢
  generalize frontL k s = F at *
  obtain ⟨S, hS⟩ : ∃ S, psum k F s.body src dst = S := ⟨_, rfl⟩
  rw [hS] at hne hr ⊢
  have l2 : (b2L S).length = 2 := rfl
  by_cases c1 : j < F.length
  · have e : (F ++ b2L S ++ s.body).set j v = F.set j v ++ b2L S ++ s.body := by
      rw [List.append_assoc, List.set_append, if_pos c1, ← List.append_assoc]
    have g : (F ++ b2L S ++ s.body).getD j 0 = F.getD j 0 := by
      simp only [List.getD]; rw [List.append_assoc, List.getElem?_append_left c1]
    rw [g] at hne
    rw [e]
    refine rdErr_sum _ _ S src dst hk hs hd (by rw [List.length_set]; exact hl) hr.1 hr.2 h4 ?_
    obtain ⟨p1, p2⟩ := psL_setF k F s.body src dst j v c1
    rw [← hS]
    unfold psum
    rw [p1]
    have := tot_set_ne (j := 10 + j) (v := v) (psL_byte (k := k) (src := src) (dst := dst) hF hB) (by rw [psL_length]; omega) h0 h1 (by rw [p2]; exact hne)
    omega
  · by_cases c2 : j < F.length + 2
    · have e : (F ++ b2L S ++ s.body).set j v = F ++ (b2L S).set (j - F.length) v ++ s.body := by
        rw [List.append_assoc, List.set_append, if_neg c1, List.set_append, if_pos (by rw [l2]; omega), ← List.append_assoc]
      have g : (F ++ b2L S ++ s.body).getD j 0 = (b2L S).getD (j - F.length) 0 := by
        simp only [List.getD]; rw [List.append_assoc, List.getElem?_append_right (by omega), List.getElem?_append_left (by rw [l2]; omega)]
      rw [g] at hne
      obtain ⟨S', q1, q2, q3, q4⟩ := b2L_set S v hr.1 hr.2 h0 h1 (j - F.length) (by omega) hne
      rw [e, q1]
      exact rdErr_sum F _ S' src dst hk hs hd hl q2 q3 h4 (by rw [hS]; exact q4)
    · have lp : (F ++ b2L S).length = F.length + 2 := by rw [List.length_append, l2]
      have e : (F ++ b2L S ++ s.body).set j v = F ++ b2L S ++ s.body.set (j - (F.length + 2)) v := by
        rw [List.set_append, if_neg (by rw [lp]; omega), lp]
      have g : (F ++ b2L S ++ s.body).getD j 0 = s.body.getD (j - (F.length + 2)) 0 := by
        simp only [List.getD]; rw [List.getElem?_append_right (by rw [lp]; omega), lp]
      rw [g] at hne
      rw [e]
      refine rdErr_sum F _ S src dst hk hs hd hl hr.1 hr.2 (by rw [List.length_set]; exact h4) ?_
      obtain ⟨p1, p2⟩ := psL_setB k F s.body src dst (j - (F.length + 2)) v (by omega)
      rw [← hS]
      unfold psum
      rw [p1]
      have := tot_set_ne (j := 12 + F.length + (j - (F.length + 2))) (v := v) (psL_byte (k := k) (src := src) (dst := dst) hF hB) (by rw [psL_length]; omega) h0 h1 (by rw [p2]; exact hne)
      omega
/-- With its source the next one it is told. -/
theorem rdErr_src {k : Int} {s : Sg} {src dst : Int} (h : sgErr k s src dst = 0) (hB : ∀ x ∈ s.body, 0 ≤ x ∧ x ≤ 255) (h1 : src < 4294967295) (h2 : ¬ src % 65536 = 65535) : rdErr k (segL k s src dst) (src + 1) dst = 9 := by
  obtain ⟨hk, hs, hd, hf, hla, h4⟩ := sgErr_ok h
  have hr := psum_range (k := k) (src := src) (dst := dst) (frontL_byte k s) hB
  have hs' := of_upB hs
  refine rdErr_sum (frontL k s) s.body _ (src + 1) dst hk (upB_yes (by omega) (by omega)) hd (frontL_length s hk) hr.1 hr.2 h4 ?_
  have hb1 := psL_byte (k := k) (src := src) (dst := dst) (frontL_byte k s) hB
  have hb2 := psL_byte (k := k) (src := src + 1) (dst := dst) (frontL_byte k s) hB
  unfold psum
  rw [tot_norm _ 0 hb1 (by omega) (by omega), tot_norm _ 0 hb2 (by omega) (by omega), Int.zero_add, Int.zero_add]
  have n1 := wsum_nonneg _ hb1
  have n2 := wsum_nonneg _ hb2
  have e : wsum (psL k (frontL k s) s.body (src + 1) dst) = wsum (psL k (frontL k s) s.body src dst) + 1 := by
    have q : ∀ x : Int, psL k (frontL k s) s.body x dst = x / 16777216 % 256 :: x / 65536 % 256 :: x / 256 % 256 :: x % 256 :: (b4L dst ++ b2L k ++ frontL k s ++ b2L 0 ++ s.body) := fun x => by simp [psL, b4L]
    rw [q, q]
    simp only [wsum]
    omega
  rw [e] at n2 ⊢
  have := norm_ne (d := 1) n1 (by omega) (by omega) (by omega) n2
  omega
/-- A segment's packet has its key. -/
def carry (k : Int) (zs : List Int) (src dst : Int) : Pk := { kind := k, ttl := 1, ident := 0, src := src, dst := dst, pos := 0, more := false, body := zs }
theorem kyE_ok {k : Int} {s : Sg} {src dst : Int} (h : sgErr k s src dst = 0) (hB : ∀ x ∈ s.body, 0 ≤ x ∧ x ≤ 255) : kyE (carry k (segL k s src dst) src dst) = 0 := by
  obtain ⟨hk, hs, hd, hf, hla, h4⟩ := sgErr_ok h
  have e : pkErr (carry k (segL k s src dst) src dst) = 0 := by
    unfold pkErr
    rw [if_neg, if_neg]
    · show ¬ 4000 < (segL k s src dst).length
      rw [segL_length s src dst hk]; omega
    · have hk' : 1 ≤ k ∧ k ≤ 3 := by simpa [isK] using hk
      simp only [pkIn, carry, Bool.and_eq_false_iff]
      rw [upB_yes (n := k) (m := 15) (by omega) (by omega), upB_yes (n := 1) (m := 255) (by omega) (by omega), upB_yes (n := 0) (m := 65535) (by omega) (by omega), hs, hd, upB_yes (n := 0) (m := 32767) (by omega) (by omega)]
      simp
  unfold kyE
  rw [if_neg (by rw [Decidable.not_not]; exact e), if_neg (by simp [carry])]
  exact (rdErr_ok h hB).1
theorem kyS_ok {k : Int} {s : Sg} {src dst : Int} (h : sgErr k s src dst = 0) (hB : ∀ x ∈ s.body, 0 ≤ x ∧ x ≤ 255) : kyS (carry k (segL k s src dst) src dst) = s ∧ kyK (carry k (segL k s src dst) src dst) = { kind := k, src := src, frm := if k = 3 then s.too else s.frm, dst := dst, too := s.too } := by
  unfold kyS kyK
  rw [if_pos (kyE_ok h hB), if_pos (kyE_ok h hB)]
  have e : fldS (carry k (segL k s src dst) src dst).kind (carry k (segL k s src dst) src dst).body = s := (rdErr_ok h hB).2
  rw [e]
  exact ⟨rfl, rfl⟩
theorem turn_turn (k : Ky) : turnK (turnK k) = k := rfl
theorem first_turn (k : Ky) : firstK (turnK k) = firstK k := by
  obtain ⟨kind, src, frm, dst, too⟩ := k
  unfold firstK turnK
  simp only
  by_cases h1 : dst < src ∨ (dst = src ∧ too < frm)
  · rw [if_pos h1, if_neg (by omega)]
  · rw [if_neg h1]
    by_cases h2 : src < dst ∨ (src = dst ∧ frm < too)
    · rw [if_pos h2]
    · rw [if_neg h2]
      obtain ⟨rfl, rfl⟩ : src = dst ∧ frm = too := by omega
      rfl
end Go.Proofs.YtobfkabhnanpfaaGreatDoor

namespace Go.Proofs.YtobfkabhnanpfaaGreatDoor
set_option linter.unusedVariables false

/-- A flow: its key and its numbers. -/
structure Fl where
  key : Ky
  st : Int
  unt : Int
  stp : Int
  h0 : Int
  h1 : Int
  w0 : Int
  w1 : Int
  d0 : Bool
  d1 : Bool
  num : Int
def zeroF : Fl := { key := zeroY, st := 0, unt := 0, stp := 0, h0 := 0, h1 := 0, w0 := 0, w1 := 0, d0 := false, d1 := false, num := 0 }
/-- How long a flow is kept. -/
def lifeI (k s : Int) : Int :=
  if k = 1 then (if s = 1 then 30 else if s = 2 then 300 else if s = 3 then 60 else if s = 4 then 10 else 0)
  else if k = 2 then (if s = 1 then 30 else if s = 2 then 60 else 0)
  else if k = 3 then (if s = 1 then 10 else if s = 2 then 20 else 0) else 0
def inR (n lo hi : Int) : Bool := decide (lo ≤ n ∧ n ≤ hi)
def flgB (s : Sg) (f : Int) : Bool := decide (s.flg / f % 2 = 1)
def bI (b : Bool) : Int := if b = true then 1 else 0
/-- The end of a segment. -/
def endI (s : Sg) : Int := (s.seq + (s.body.length : Int) + bI (flgB s 2) + bI (flgB s 1)) % 4294967296
def ahB (a b : Int) : Bool := decide (0 < (a - b) % 4294967296 ∧ (a - b) % 4294967296 < 2147483648)
def hiF (f : Fl) (side : Int) : Int := if side = 0 then f.h0 else f.h1
def wnF (f : Fl) (side : Int) : Int := if side = 0 then f.w0 else f.w1
def dnF (f : Fl) (side : Int) : Bool := if side = 0 then f.d0 else f.d1
/-- Has a segment the ports of a key, as the side has it that says it? -/
def ofB (k : Ky) (s : Sg) (side : Int) : Bool :=
  if k.kind = 3 then decide (s.frm = side ∧ s.too = k.frm ∧ s.too = k.too) else decide (s.frm = k.frm ∧ s.too = k.too)
/-- What is wrong with what a side says now. -/
def sdE (k : Ky) (s : Sg) (side now : Int) : Int :=
  if inR now 0 1000000 = false then 1 else if ¬ sgErr k.kind s k.src k.dst = 0 then sgErr k.kind s k.src k.dst else if ofB k s side = false then 3 else 0
def begE (k : Ky) (s : Sg) (rule now : Int) : Int :=
  if inR rule (-1) 200 = false then 1 else if ¬ sdE k s 0 now = 0 then sdE k s 0 now else if k.kind = 1 ∧ ¬ s.flg = 2 then 6 else 0
def begG (k : Ky) (s : Sg) (rule now : Int) : Fl :=
  { key := k, st := 1, unt := now + lifeI k.kind 1, stp := 1, h0 := if k.kind = 1 then endI s else 0, h1 := 0, w0 := if k.kind = 1 then s.win else 0, w1 := 0, d0 := false, d1 := false, num := rule }
/-- What begins. -/
def begF (k : Ky) (s : Sg) (rule now : Int) : Fl := if begE k s rule now = 0 then begG k s rule now else zeroF
def kyB (k : Ky) : Bool := inR k.kind 1 3 && inR k.src 0 4294967295 && inR k.dst 0 4294967295 && inR k.frm 0 65535 && inR k.too 0 65535
def fiB (f : Fl) : Bool :=
  decide (¬ lifeI f.key.kind f.st = 0) && (inR f.h0 0 4294967295 && inR f.w0 0 65535) && (inR f.h1 0 4294967295 && inR f.w1 0 65535) && inR f.unt 0 2000000 && inR f.stp 1 1000000 && inR f.num (-1) 200
def bareB (f : Fl) : Bool := decide (f.h0 = 0 ∧ f.h1 = 0 ∧ f.w0 = 0 ∧ f.w1 = 0 ∧ f.d0 = false ∧ f.d1 = false)
/-- What is wrong with a flow. -/
def chkE (f : Fl) : Int :=
  if (kyB f.key && fiB f) = false then 1 else if ¬ f.key.kind = 1 ∧ bareB f = false then 3 else if f.key.kind = 3 ∧ ¬ f.key.frm = f.key.too then 3 else 0
def rstB (f : Fl) (s : Sg) (side : Int) : Bool := if f.st = 1 ∧ side = 1 then flgB s 8 && decide (s.ack = f.h0) else decide (s.seq = hiF f side)
def max1 (n : Int) : Int := if n < 1 then 1 else n
def goB (f : Fl) (s : Sg) (side : Int) : Bool :=
  !flgB s 2 && nearB s.seq (hiF f side) (max1 (wnF f (1 - side))) && (!flgB s 8 || nearB s.ack (hiF f (1 - side)) (max1 (wnF f side))) && (!dnF f side || !ahB (endI s) (hiF f side))
def stG (d0 d1 : Bool) (st : Int) : Int := if (d0 && d1) = true then 4 else if (d0 || d1) = true ∧ ¬ st = 4 then 3 else st
def topI (f : Fl) (s : Sg) (side : Int) : Int := if ahB (endI s) (hiF f side) = true then endI s else hiF f side
def goF (f : Fl) (s : Sg) (side : Int) : Fl :=
  if side = 0 then { f with h0 := topI f s 0, w0 := s.win, d0 := f.d0 || flgB s 1, st := stG (f.d0 || flgB s 1) f.d1 f.st }
  else { f with h1 := topI f s 1, w1 := s.win, d1 := f.d1 || flgB s 1, st := stG f.d0 (f.d1 || flgB s 1) f.st }
def strB (f : Fl) (s : Sg) (side : Int) : Bool :=
  if flgB s 4 = true then rstB f s side else if ¬ f.st = 1 then goB f s side else if side = 0 then decide (s.flg = 2 ∧ endI s = f.h0) else decide (s.flg = 10 ∧ s.ack = f.h0)
def strF (f : Fl) (s : Sg) (side : Int) : Fl :=
  if flgB s 4 = true then { f with st := 4 } else if ¬ f.st = 1 then goF f s side else if side = 0 then { f with w0 := s.win } else { f with st := 2, h1 := endI s, w1 := s.win }
def sayB (f : Fl) (s : Sg) (side : Int) : Bool := if f.key.kind = 1 then strB f s side else true
def sayF (f : Fl) (s : Sg) (side : Int) : Fl := if f.key.kind = 1 then strF f s side else if side = 1 then { f with st := 2 } else f
def chgF (f : Fl) (now : Int) : Fl := { f with stp := f.stp + 1, unt := now + lifeI f.key.kind f.st }
def sideK (f : Fl) (side : Int) : Ky := if side = 0 then f.key else turnK f.key
/-- Why a step is refused. -/
def stpE (f : Fl) (s : Sg) (side now : Int) : Int :=
  if ¬ (side = 0 ∨ side = 1) then 1 else if ¬ chkE f = 0 then chkE f else if ¬ sdE (sideK f side) s side now = 0 then sdE (sideK f side) s side now else
  if f.unt ≤ now ∨ f.stp = 1000000 then 6 else if sayB f s side = false then 6 else 0
/-- What a flow becomes. -/
def stpF (f : Fl) (s : Sg) (side now : Int) : Fl := if stpE f s side now = 0 then chgF (sayF f s side) now else zeroF

theorem inR_yes {n lo hi : Int} (h0 : lo ≤ n) (h1 : n ≤ hi) : inR n lo hi = true := by simp [inR]; omega
theorem of_inR {n lo hi : Int} (h : inR n lo hi = true) : lo ≤ n ∧ n ≤ hi := by simpa [inR] using h
theorem inR_no {n lo hi : Int} (h : ¬ (lo ≤ n ∧ n ≤ hi)) : inR n lo hi = false := by simpa [inR] using h
theorem lifeI_range (k s : Int) : 0 ≤ lifeI k s ∧ lifeI k s ≤ 300 := by
  unfold lifeI; repeat' split
  all_goals omega
theorem endI_range (s : Sg) : 0 ≤ endI s ∧ endI s ≤ 4294967295 := by unfold endI; omega
theorem sdE_ok {k : Ky} {s : Sg} {side now : Int} (h : sdE k s side now = 0) : (0 ≤ now ∧ now ≤ 1000000) ∧ sgErr k.kind s k.src k.dst = 0 ∧ ofB k s side = true := by
  unfold sdE at h
  split at h
  · simp at h
  split at h
  · contradiction
  split at h
  · simp at h
  · rename_i h1 h2 h3
    exact ⟨of_inR (by simpa using h1), by omega, by simpa using h3⟩
theorem chkE_ok {f : Fl} (h : chkE f = 0) : kyB f.key = true ∧ fiB f = true ∧ (¬ f.key.kind = 1 → bareB f = true) ∧ (f.key.kind = 3 → f.key.frm = f.key.too) := by
  unfold chkE at h
  split at h
  · simp at h
  split at h
  · simp at h
  split at h
  · simp at h
  · rename_i h1 h2 h3
    have e : (kyB f.key && fiB f) = true := by revert h1; cases (kyB f.key && fiB f) <;> simp
    rw [Bool.and_eq_true] at e
    refine ⟨e.1, e.2, fun hk => ?_, fun hk => ?_⟩
    · cases hb : bareB f
      · exact absurd ⟨hk, hb⟩ h2
      · rfl
    · exact Decidable.byContradiction fun hn => h3 ⟨hk, hn⟩
theorem kyB_of {k : Ky} (h : kyB k = true) : (1 ≤ k.kind ∧ k.kind ≤ 3) ∧ (0 ≤ k.src ∧ k.src ≤ 4294967295) ∧ (0 ≤ k.dst ∧ k.dst ≤ 4294967295) ∧ (0 ≤ k.frm ∧ k.frm ≤ 65535) ∧ (0 ≤ k.too ∧ k.too ≤ 65535) := by
  simp only [kyB, Bool.and_eq_true] at h
  obtain ⟨⟨⟨⟨a, b⟩, c⟩, d⟩, e⟩ := h
  exact ⟨of_inR a, of_inR b, of_inR c, of_inR d, of_inR e⟩
theorem fiB_of {f : Fl} (h : fiB f = true) : ¬ lifeI f.key.kind f.st = 0 ∧ ((0 ≤ f.h0 ∧ f.h0 ≤ 4294967295) ∧ (0 ≤ f.w0 ∧ f.w0 ≤ 65535)) ∧ ((0 ≤ f.h1 ∧ f.h1 ≤ 4294967295) ∧ (0 ≤ f.w1 ∧ f.w1 ≤ 65535)) ∧ (0 ≤ f.unt ∧ f.unt ≤ 2000000) ∧ (1 ≤ f.stp ∧ f.stp ≤ 1000000) ∧ (-1 ≤ f.num ∧ f.num ≤ 200) := by
  simp only [fiB, Bool.and_eq_true, decide_eq_true_eq] at h
  obtain ⟨⟨⟨⟨⟨a, b, c⟩, d, e⟩, g⟩, i⟩, j⟩ := h
  exact ⟨a, ⟨of_inR b, of_inR c⟩, ⟨of_inR d, of_inR e⟩, of_inR g, of_inR i, of_inR j⟩
end Go.Proofs.YtobfkabhnanpfaaGreatDoor
