/- A trie in memory ('TrIn'): its block, with the root, and a block a node; it stays while other blocks turn; a node more, a value more or less, a node less. -/
import Derived.Test.YtdpnmhfhjcebbaaDoorTrieMath
import Derived.Test.YtdpnmhfhjcebbaaDoorTurnT
import Derived.Test.YtdpnmhfhjcebbaaDoorPairs
namespace Go.Proofs.YtdpnmhfhjcebbaaDoor
open Go.RowKit
set_option linter.unusedVariables false

def ptrO : Option Nat → Value
  | some b => .pointer (some ⟨b, 0, none⟩)
  | none => .pointer none
/-- A node lies at block b: its kids, its value. -/
structure NodeAt (w : World) (b : Nat) (k0 k1 : Option Nat) (o : Option Int) : Prop where
  c0 : w.cell? ⟨b, 0, none⟩ = some (ptrO k0)
  c1 : w.cell? ⟨b, 1, none⟩ = some (ptrO k1)
  c2 : w.cell? ⟨b, 2, none⟩ = some (.bool o.isSome)
  c3 : w.cell? ⟨b, 3, none⟩ = some (.int .i64 (o.getD 0))
  free : ∀ i, w.frozen? ⟨b, i, none⟩ = false
theorem cell_lt {w : World} {b i : Nat} {v : Value} (h : w.cell? ⟨b, i, none⟩ = some v) : b < w.heap.size := by
  rcases Nat.lt_or_ge b w.heap.size with h1 | h1
  · exact h1
  · simp [World.cell?, Array.getElem?_eq_none h1] at h
section
variable {w w' : World} {b : Nat} {k0 k1 : Option Nat} {o : Option Int}
theorem NodeAt.lt (h : NodeAt w b k0 k1 o) : b < w.heap.size := cell_lt h.c0
theorem NodeAt.keep (h : NodeAt w b k0 k1 o) (hb : w'.heap[b]? = w.heap[b]?) : NodeAt w' b k0 k1 o :=
  ⟨(World.cell?_of_block (w := w) hb).trans h.c0, (World.cell?_of_block (w := w) hb).trans h.c1, (World.cell?_of_block (w := w) hb).trans h.c2, (World.cell?_of_block (w := w) hb).trans h.c3, fun i => (World.frozen?_of_block (w := w) hb).trans (h.free i)⟩
theorem setCell_other_block {c off : Nat} {v : Value} (hc : c ≠ b) : (w.setCell ⟨c, off, none⟩ v).heap[b]? = w.heap[b]? := heap_setCell_other w ⟨c, off, none⟩ b v (fun e => hc e.symm)
theorem NodeAt.set0 (h : NodeAt w b k0 k1 o) (k : Option Nat) : NodeAt (w.setCell ⟨b, 0, none⟩ (ptrO k)) b k k1 o := by
  refine ⟨World.cell?_setCell_same w _ _ h.c0, ?_, ?_, ?_, fun i => by rw [frozen_setCell]; exact h.free i⟩
  · rw [World.cell?_setCell_other w _ _ _ (by simp)]; exact h.c1
  · rw [World.cell?_setCell_other w _ _ _ (by simp)]; exact h.c2
  · rw [World.cell?_setCell_other w _ _ _ (by simp)]; exact h.c3
theorem NodeAt.set1 (h : NodeAt w b k0 k1 o) (k : Option Nat) : NodeAt (w.setCell ⟨b, 1, none⟩ (ptrO k)) b k0 k o := by
  refine ⟨?_, World.cell?_setCell_same w _ _ h.c1, ?_, ?_, fun i => by rw [frozen_setCell]; exact h.free i⟩
  · rw [World.cell?_setCell_other w _ _ _ (by simp)]; exact h.c0
  · rw [World.cell?_setCell_other w _ _ _ (by simp)]; exact h.c2
  · rw [World.cell?_setCell_other w _ _ _ (by simp)]; exact h.c3
theorem NodeAt.setV (h : NodeAt w b k0 k1 o) (o' : Option Int) : NodeAt ((w.setCell ⟨b, 2, none⟩ (.bool o'.isSome)).setCell ⟨b, 3, none⟩ (.int .i64 (o'.getD 0))) b k0 k1 o' := by
  have c3 : (w.setCell ⟨b, 2, none⟩ (.bool o'.isSome)).cell? ⟨b, 3, none⟩ = some (.int .i64 (o.getD 0)) := by rw [World.cell?_setCell_other w _ _ _ (by simp)]; exact h.c3
  refine ⟨?_, ?_, ?_, World.cell?_setCell_same _ _ _ c3, fun i => by rw [frozen_setCell, frozen_setCell]; exact h.free i⟩
  · rw [World.cell?_setCell_other _ _ _ _ (by simp), World.cell?_setCell_other _ _ _ _ (by simp)]; exact h.c0
  · rw [World.cell?_setCell_other _ _ _ _ (by simp), World.cell?_setCell_other _ _ _ _ (by simp)]; exact h.c1
  · rw [World.cell?_setCell_other _ _ _ _ (by simp)]; exact World.cell?_setCell_same w _ _ h.c2
theorem NodeAt.setM (h : NodeAt w b k0 k1 o) (v : Value) : NodeAt (w.setCell ⟨b, 4, none⟩ v) b k0 k1 o := by
  refine ⟨?_, ?_, ?_, ?_, fun i => by rw [frozen_setCell]; exact h.free i⟩
  · rw [World.cell?_setCell_other w _ _ _ (by simp)]; exact h.c0
  · rw [World.cell?_setCell_other w _ _ _ (by simp)]; exact h.c1
  · rw [World.cell?_setCell_other w _ _ _ (by simp)]; exact h.c2
  · rw [World.cell?_setCell_other w _ _ _ (by simp)]; exact h.c3
theorem NodeAt.new (w : World) (t : TypeId) : NodeAt (w.alloc (.cells #[.pointer none, .pointer none, .bool false, .int .i64 0] t)) w.heap.size none none none := by
  refine ⟨?_, ?_, ?_, ?_, fun i => ?_⟩ <;> simp [ptrO]
theorem NodeAt.kid (h : NodeAt w b k0 k1 o) {i : Nat} (hi : i < 2) : w.cell? ⟨b, i, none⟩ = some (ptrO (if i = 0 then k0 else k1)) := by
  rcases (by omega : i = 0 ∨ i = 1) with rfl | rfl
  · exact h.c0
  · exact h.c1
theorem NodeAt.setK (h : NodeAt w b k0 k1 o) {i : Nat} (hi : i < 2) (k : Option Nat) : NodeAt (w.setCell ⟨b, i, none⟩ (ptrO k)) b (if i = 0 then k else k0) (if i = 0 then k1 else k) o := by
  rcases (by omega : i = 0 ∨ i = 1) with rfl | rfl
  · exact h.set0 k
  · exact h.set1 k
end
abbrev Bk := Nat → Nat → Option Nat
structure TrIn (w : World) (F : Nat → Prop) (tb : Nat) (blk : Bk) (s : Tv) : Prop where
  root : blk 0 0 = some tb
  node : ∀ d q b, blk d q = some b → NodeAt w b (blk (d + 1) (2 * q)) (blk (d + 1) (2 * q + 1)) (s.f d q)
  up : ∀ d q b, blk (d + 1) q = some b → ∃ b', blk d (q / 2) = some b'
  rng : ∀ d q b, blk d q = some b → d ≤ 32 ∧ q < 2 ^ d
  inj : ∀ d q d' q' b, blk d q = some b → blk d' q' = some b → d = d' ∧ q = q'
  has : ∀ d q, s.f d q ≠ none → ∃ b, blk d q = some b
  many : w.cell? ⟨tb, 4, none⟩ = some (.int .i64 s.many)
  own : ∀ d q b, blk d q = some b → F b
section
variable {w w' : World} {F G : Nat → Prop} {tb : Nat} {blk : Bk} {s : Tv}
theorem TrIn.keep (h : TrIn w F tb blk s) (hk : ∀ k, F k → w'.heap[k]? = w.heap[k]?) : TrIn w' F tb blk s :=
  ⟨h.root, fun d q b hb => (h.node d q b hb).keep (hk b (h.own d q b hb)), h.up, h.rng, h.inj, h.has, (World.cell?_of_block (w := w) (hk tb (h.own _ _ _ h.root))).trans h.many, h.own⟩
theorem TrIn.mono (h : TrIn w F tb blk s) (hFG : ∀ k, F k → G k) : TrIn w G tb blk s :=
  ⟨h.root, h.node, h.up, h.rng, h.inj, h.has, h.many, fun d q b hb => hFG _ (h.own d q b hb)⟩
theorem TrIn.below (h : TrIn w F tb blk s) (hF : ∀ k, F k → k < w.heap.size) (hb : Below w.heap.size w w') : TrIn w' F tb blk s := h.keep (fun k hk => hb.block k (hF k hk))
theorem TrIn.lt (h : TrIn w F tb blk s) : tb < w.heap.size := (h.node _ _ _ h.root).lt
theorem TrIn.ok_rng (h : TrIn w F tb blk s) : ∀ d q, s.f d q ≠ none → d ≤ 32 ∧ q < 2 ^ d := fun d q hd => by
  obtain ⟨b, hb⟩ := h.has d q hd
  exact h.rng d q b hb
/-- Where a node is missing, all below it are. -/
theorem TrIn.none_below (h : TrIn w F tb blk s) {d q : Nat} (hn : blk d q = none) : ∀ {e p : Nat}, d ≤ e → p / 2 ^ (e - d) = q → blk e p = none := by
  intro e
  induction e with
  | zero =>
    intro p hd hp
    obtain rfl : d = 0 := by omega
    simp at hp; subst hp; exact hn
  | succ e ih =>
    intro p hd hp
    by_cases he : d = e + 1
    · subst he; simp at hp; subst hp; exact hn
    · rcases hb : blk (e + 1) p with _ | b
      · rfl
      · obtain ⟨b', hb'⟩ := h.up e p b hb
        have e1 : e + 1 - d = (e - d) + 1 := by omega
        have e2 : p / 2 ^ (e + 1 - d) = p / 2 / 2 ^ (e - d) := by rw [e1, Nat.pow_succ, Nat.mul_comm, ← Nat.div_div_eq_div_mul]
        rw [e2] at hp
        rw [ih (by omega) hp] at hb'; cases hb'
theorem TrIn.lst_none (h : TrIn w F tb blk s) {d q : Nat} (hn : blk d q = none) (n : Nat) : lstL s.f n d q = [] := by
  refine lstL_nil (fun e p hd hp => ?_)
  rcases hf : s.f e p with _ | v
  · rfl
  · obtain ⟨b, hb⟩ := h.has e p (by rw [hf]; simp)
    rw [h.none_below hn hd hp] at hb; cases hb
def blkS (blk : Bk) (d q : Nat) (o : Option Nat) : Bk := fun e p => if e = d ∧ p = q then o else blk e p
theorem blkS_same (blk : Bk) (d q : Nat) (o : Option Nat) : blkS blk d q o d q = o := by simp [blkS]
theorem blkS_other {blk : Bk} {d q : Nat} {o : Option Nat} {e p : Nat} (h : ¬ (e = d ∧ p = q)) : blkS blk d q o e p = blk e p := by simp [blkS, h]
/-- A node more. -/
theorem TrIn.grow (h : TrIn w F tb blk s) {d q b i : Nat} (hi : i < 2) (hd : d < 32) (hb : blk d q = some b) (hn : blk (d + 1) (2 * q + i) = none) (t : TypeId) (hG : ∀ k, F k → G k) (hg : G w.heap.size) :
    TrIn ((w.alloc (.cells #[.pointer none, .pointer none, .bool false, .int .i64 0] t)).setCell ⟨b, i, none⟩ (ptrO (some w.heap.size))) G tb (blkS blk (d + 1) (2 * q + i) (some w.heap.size)) s := by
  have hbl := (h.node d q b hb).lt
  have hnew := NodeAt.new w t
  have hbw : Below w.heap.size w (w.alloc (.cells #[.pointer none, .pointer none, .bool false, .int .i64 0] t)) := (Below.refl _ _).alloc (Nat.le_refl _) _
  generalize w.alloc (.cells #[.pointer none, .pointer none, .bool false, .int .i64 0] t) = w1 at hnew hbw ⊢
  have hfn : s.f (d + 1) (2 * q + i) = none := by
    rcases hf : s.f (d + 1) (2 * q + i) with _ | v
    · rfl
    · obtain ⟨c, hc⟩ := h.has _ _ (by rw [hf]; simp)
      rw [hn] at hc; cases hc
  have hold : ∀ e p c, blk e p = some c → c < w.heap.size := fun e p c hc => (h.node e p c hc).lt
  have hsome : ∀ e p c, blkS blk (d + 1) (2 * q + i) (some w.heap.size) e p = some c → (e = d + 1 ∧ p = 2 * q + i ∧ c = w.heap.size) ∨ (¬ (e = d + 1 ∧ p = 2 * q + i) ∧ blk e p = some c) := fun e p c hc => by
    by_cases he : e = d + 1 ∧ p = 2 * q + i
    · obtain ⟨rfl, rfl⟩ := he
      rw [blkS_same] at hc
      exact .inl ⟨rfl, rfl, by cases hc; rfl⟩
    · rw [blkS_other he] at hc; exact .inr ⟨he, hc⟩
  refine ⟨?_, fun e p c hc => ?_, fun e p c hc => ?_, fun e p c hc => ?_, fun e p e' p' c hc hc' => ?_, fun e p hf => ?_, ?_, fun e p c hc => ?_⟩
  · rw [blkS_other (by omega)]; exact h.root
  · rcases hsome e p c hc with ⟨rfl, rfl, rfl⟩ | ⟨hne, hc'⟩
    · rw [blkS_other (by omega), blkS_other (by omega), hfn]
      have n0 : blk (d + 1 + 1) (2 * (2 * q + i)) = none := h.none_below hn (by omega) (by rw [show d + 1 + 1 - (d + 1) = 1 by omega]; omega)
      have n1 : blk (d + 1 + 1) (2 * (2 * q + i) + 1) = none := h.none_below hn (by omega) (by rw [show d + 1 + 1 - (d + 1) = 1 by omega]; omega)
      rw [n0, n1]
      exact hnew.keep (setCell_other_block (by omega))
    · by_cases hdq : e = d ∧ p = q
      · obtain ⟨rfl, rfl⟩ := hdq
        rw [hb] at hc'
        simp only [Option.some.injEq] at hc'
        subst hc'
        have hk := ((h.node e p b hb).keep (w' := w1) (hbw.block b hbl)).setK hi (some w.heap.size)
        rcases (by omega : i = 0 ∨ i = 1) with rfl | rfl
        · simp only [if_true] at hk
          rw [blkS_other (by omega : ¬ (e + 1 = e + 1 ∧ 2 * p + 1 = 2 * p + 0))]
          rw [show blkS blk (e + 1) (2 * p + 0) (some w.heap.size) (e + 1) (2 * p) = some w.heap.size from blkS_same _ _ _ _]
          exact hk
        · simp only [Nat.succ_ne_self, if_false] at hk
          rw [blkS_other (by omega : ¬ (e + 1 = e + 1 ∧ 2 * p = 2 * p + 1)), blkS_same]
          exact hk
      · have hcb : c ≠ b := fun he => hdq (h.inj e p d q b (he ▸ hc') hb)
        rw [blkS_other (by omega), blkS_other (by omega)]
        refine (h.node e p c hc').keep ?_
        rw [setCell_other_block (fun he => hcb he.symm)]
        exact hbw.block c (hold e p c hc')
  · rcases hsome (e + 1) p c hc with ⟨h1, rfl, rfl⟩ | ⟨hne, hc'⟩
    · obtain rfl : e = d := by omega
      refine ⟨b, ?_⟩
      rw [blkS_other (by omega), show (2 * q + i) / 2 = q by omega]; exact hb
    · obtain ⟨b', hb'⟩ := h.up e p c hc'
      refine ⟨b', ?_⟩
      rw [blkS_other ?_]
      · exact hb'
      · rintro ⟨rfl, he⟩
        rw [he, hn] at hb'; cases hb'
  · rcases hsome e p c hc with ⟨rfl, rfl, rfl⟩ | ⟨hne, hc'⟩
    · have := (h.rng d q b hb).2
      exact ⟨by omega, by rw [Nat.pow_succ]; omega⟩
    · exact h.rng e p c hc'
  · rcases hsome e p c hc with ⟨rfl, rfl, rfl⟩ | ⟨hne, h1⟩ <;> rcases hsome e' p' _ hc' with ⟨rfl, rfl, h2⟩ | ⟨hne', h2⟩
    · exact ⟨rfl, rfl⟩
    · have := hold _ _ _ h2; omega
    · have := hold _ _ _ h1; omega
    · exact h.inj _ _ _ _ _ h1 h2
  · obtain ⟨c, hc⟩ := h.has e p hf
    by_cases he : e = d + 1 ∧ p = 2 * q + i
    · obtain ⟨rfl, rfl⟩ := he; exact ⟨_, blkS_same _ _ _ _⟩
    · exact ⟨c, by rw [blkS_other he]; exact hc⟩
  · rw [World.cell?_setCell_other _ _ _ _ (by simp <;> omega), World.cell?_of_block (w := w) (hbw.block tb h.lt)]
    exact h.many
  · rcases hsome e p c hc with ⟨rfl, rfl, rfl⟩ | ⟨hne, h1⟩
    · exact hg
    · exact hG _ (h.own e p c h1)
/-- A value more, or less. -/
theorem TrIn.setV (h : TrIn w F tb blk s) {d q b : Nat} (hb : blk d q = some b) (o : Option Int) :
    TrIn ((w.setCell ⟨b, 2, none⟩ (.bool o.isSome)).setCell ⟨b, 3, none⟩ (.int .i64 (o.getD 0))) F tb blk ⟨setV s.f d q o, s.many⟩ := by
  refine ⟨h.root, fun e p c hc => ?_, h.up, h.rng, h.inj, fun e p hf => ?_, ?_, h.own⟩
  · by_cases he : e = d ∧ p = q
    · obtain ⟨rfl, rfl⟩ := he
      rw [hb] at hc
      simp only [Option.some.injEq] at hc
      subst hc
      simp only
      rw [setV_same]
      exact (h.node e p b hb).setV o
    · have hcb : c ≠ b := fun h' => he (h.inj e p d q b (h' ▸ hc) hb)
      simp only
      rw [setV_other he]
      refine (h.node e p c hc).keep ?_
      rw [setCell_other_block (fun h' => hcb h'.symm), setCell_other_block (fun h' => hcb h'.symm)]
  · by_cases he : e = d ∧ p = q
    · obtain ⟨rfl, rfl⟩ := he; exact ⟨b, hb⟩
    · simp only at hf
      rw [setV_other he] at hf; exact h.has e p hf
  · rw [World.cell?_setCell_other _ _ _ _ (by simp), World.cell?_setCell_other _ _ _ _ (by simp)]; exact h.many
theorem TrIn.setM (h : TrIn w F tb blk s) (m : Int) : TrIn (w.setCell ⟨tb, 4, none⟩ (.int .i64 m)) F tb blk ⟨s.f, m⟩ := by
  refine ⟨h.root, fun e p c hc => ?_, h.up, h.rng, h.inj, h.has, World.cell?_setCell_same w _ _ h.many, h.own⟩
  by_cases hct : c = tb
  · subst hct; exact (h.node e p c hc).setM _
  · exact (h.node e p c hc).keep (setCell_other_block (fun e => hct e.symm))
/-- A node less. -/
theorem TrIn.cut (h : TrIn w F tb blk s) {d q b i : Nat} (hi : i < 2) (hb : blk d q = some b) (hf : s.f (d + 1) (2 * q + i) = none) (h0 : blk (d + 2) (2 * (2 * q + i)) = none) (h1 : blk (d + 2) (2 * (2 * q + i) + 1) = none) :
    TrIn (w.setCell ⟨b, i, none⟩ (ptrO none)) F tb (blkS blk (d + 1) (2 * q + i) none) s := by
  have hsome : ∀ e p c, blkS blk (d + 1) (2 * q + i) none e p = some c → ¬ (e = d + 1 ∧ p = 2 * q + i) ∧ blk e p = some c := fun e p c hc => by
    by_cases he : e = d + 1 ∧ p = 2 * q + i
    · obtain ⟨rfl, rfl⟩ := he
      rw [blkS_same] at hc; cases hc
    · rw [blkS_other he] at hc; exact ⟨he, hc⟩
  refine ⟨?_, fun e p c hc => ?_, fun e p c hc => ?_, fun e p c hc => h.rng e p c (hsome e p c hc).2, fun e p e' p' c hc hc' => h.inj e p e' p' c (hsome e p c hc).2 (hsome e' p' c hc').2, fun e p hne => ?_, ?_, fun e p c hc => h.own e p c (hsome e p c hc).2⟩
  · rw [blkS_other (by omega)]; exact h.root
  · obtain ⟨hne, hc'⟩ := hsome e p c hc
    by_cases hdq : e = d ∧ p = q
    · obtain ⟨rfl, rfl⟩ := hdq
      rw [hb] at hc'
      simp only [Option.some.injEq] at hc'
      subst hc'
      have hk := (h.node e p b hb).setK hi none
      rcases (by omega : i = 0 ∨ i = 1) with rfl | rfl
      · simp only [if_true] at hk
        rw [blkS_other (by omega : ¬ (e + 1 = e + 1 ∧ 2 * p + 1 = 2 * p + 0))]
        rw [show blkS blk (e + 1) (2 * p + 0) none (e + 1) (2 * p) = none from blkS_same _ _ _ _]
        exact hk
      · simp only [Nat.succ_ne_self, if_false] at hk
        rw [blkS_other (by omega : ¬ (e + 1 = e + 1 ∧ 2 * p = 2 * p + 1)), blkS_same]
        exact hk
    · have hcb : c ≠ b := fun he => hdq (h.inj e p d q b (he ▸ hc') hb)
      rw [blkS_other (by omega), blkS_other (by omega)]
      exact (h.node e p c hc').keep (setCell_other_block (fun he => hcb he.symm))
  · obtain ⟨hne, hc'⟩ := hsome _ p c hc
    obtain ⟨b', hb'⟩ := h.up e p c hc'
    refine ⟨b', ?_⟩
    rw [blkS_other ?_]
    · exact hb'
    · rintro ⟨rfl, he⟩
      rcases (by omega : p = 2 * (2 * q + i) ∨ p = 2 * (2 * q + i) + 1) with hp | hp
      · rw [hp] at hc'; rw [h0] at hc'; cases hc'
      · rw [hp] at hc'; rw [h1] at hc'; cases hc'
  · obtain ⟨c, hc⟩ := h.has e p hne
    refine ⟨c, ?_⟩
    rw [blkS_other ?_]
    · exact hc
    · rintro ⟨rfl, rfl⟩; exact hne hf
  · rw [World.cell?_setCell_other _ _ _ _ (by simp <;> omega)]; exact h.many
end
def rootB (tb : Nat) : Bk := fun d q => if d = 0 ∧ q = 0 then some tb else none
theorem TrIn.new (w : World) (t : TypeId) {F : Nat → Prop} (hF : F w.heap.size) : TrIn (w.alloc (.cells #[.pointer none, .pointer none, .bool false, .int .i64 0, .int .i64 0] t)) F w.heap.size (rootB w.heap.size) newV := by
  have hs : ∀ d q b, rootB w.heap.size d q = some b → d = 0 ∧ q = 0 ∧ b = w.heap.size := fun d q b hb => by
    unfold rootB at hb
    split at hb
    · rename_i h; cases hb; exact ⟨h.1, h.2, rfl⟩
    · cases hb
  have hn : ∀ d q, rootB w.heap.size (d + 1) q = none := fun d q => by unfold rootB; rw [if_neg (by omega)]
  refine ⟨by simp [rootB], fun d q b hb => ?_, fun d q b hb => ?_, fun d q b hb => ?_, fun d q d' q' b hb hb' => ?_, fun d q hf => (hf rfl).elim, by simp [newV], fun d q b hb => ?_⟩
  · obtain ⟨rfl, rfl, rfl⟩ := hs d q b hb
    rw [hn, hn]
    refine ⟨?_, ?_, ?_, ?_, fun i => ?_⟩ <;> simp [ptrO, newV]
  · rw [hn] at hb; cases hb
  · obtain ⟨rfl, rfl, rfl⟩ := hs d q b hb; exact ⟨by omega, by simp⟩
  · obtain ⟨rfl, rfl, rfl⟩ := hs d q b hb
    obtain ⟨rfl, rfl, _⟩ := hs d' q' _ hb'; exact ⟨rfl, rfl⟩
  · obtain ⟨rfl, rfl, rfl⟩ := hs d q b hb; exact hF
/-- A trie lies at block tb, over blocks of F. -/
def TrieAt (w : World) (F : Nat → Prop) (tb : Nat) (s : Tv) : Prop := OkV s ∧ s.many ≤ 200 ∧ ∃ blk, TrIn w F tb blk s
theorem TrieAt.keep {w w' : World} {F : Nat → Prop} {tb : Nat} {s : Tv} (h : TrieAt w F tb s) (hk : ∀ k, F k → w'.heap[k]? = w.heap[k]?) : TrieAt w' F tb s := by
  obtain ⟨h1, h2, blk, h3⟩ := h; exact ⟨h1, h2, blk, h3.keep hk⟩
theorem TrieAt.mono {w : World} {F G : Nat → Prop} {tb : Nat} {s : Tv} (h : TrieAt w F tb s) (hFG : ∀ k, F k → G k) : TrieAt w G tb s := by
  obtain ⟨h1, h2, blk, h3⟩ := h; exact ⟨h1, h2, blk, h3.mono hFG⟩
theorem TrieAt.below {w w' : World} {F : Nat → Prop} {tb : Nat} {s : Tv} (h : TrieAt w F tb s) (hF : ∀ k, F k → k < w.heap.size) (hb : Below w.heap.size w w') : TrieAt w' F tb s := h.keep (fun k hk => hb.block k (hF k hk))
end Go.Proofs.YtdpnmhfhjcebbaaDoor
