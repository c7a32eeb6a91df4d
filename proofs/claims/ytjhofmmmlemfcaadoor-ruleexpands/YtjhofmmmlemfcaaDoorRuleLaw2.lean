/- A range over a function whose iterator keeps a text in a block of its own: the rule of RuleLaw, for invariants that may say that a text lies there. -/
import Derived.Test.YtjhofmmmlemfcaaDoorRuleLaw
import Derived.Test.YtjhofmmmlemfcaaDoorStrA
namespace Go.Proofs.YtjhofmmmlemfcaaDoor
open Go.RowKit
set_option linter.unusedVariables false

/-- The invariant does not speak of block B but that a text lies there. -/
def FreeT {β : Type} (B : Nat) (I : β → World → Prop) : Prop := ∀ s A A', I s A → Only B A A' → (∃ l, StrAt A' B l) → I s A'
/-- What an iterator over the list 'all' does that keeps something in block B. -/
def GivesT {α : Type} (F : Fence) (n : Nat) (P : Program) (gf : Nat) (lb : Array Value) (encs : α → Array Value) (B : Nat) (all : List α) (w : World) : Prop :=
  ∀ (l : Nat) (J Jx : List α → World → Prop) (W : World), Left B w W → FreeT B J → FreeT B Jx →
    (∀ pre x A, J pre A → pre ++ [x] <+: all → YieldAt F (n - 1) P l (encs x) A fun e A' =>
      (e = .returned (.bool true) ∧ J (pre ++ [x]) A' ∧ Left B A A') ∨ (e = .returned (.bool false) ∧ Jx (pre ++ [x]) A')) →
    J [] W → CallsIn F n P gf (#[.func (.yield l) #[] #[]] ++ lb) W fun e A => (∃ v, e = .returned v) ∧ (J all A ∨ ∃ pre, pre <+: all ∧ Jx pre A)
variable {F : Fence} {n : Nat} {P : Program}
set_option maxHeartbeats 4000000 in
theorem wp_range_boxT {α : Type} {g : Operand} {ps : Array Tmp} {assign body : Code} {Q : Exit → Act → World → Prop} {a : Act} {w : World}
    (hro : F.round = none) (h1 : 1 ≤ n) {gf : Nat} {lb : Array Value} (hg : a.eval g = .func (.func gf) #[] lb) (hFg : F.fn gf) (eg : ∀ args w, (callFunc gf args).run P w = .ok (.enter gf args) w)
    {encs : α → Array Value} {B : Nat} {all : List α} (hB : B < w.heap.size) (hseq : GivesT F (n - 1) P gf lb encs B all w) (hps : ∀ x, (encs x).size = ps.size)
    (I : List α → World → Prop) (Ix : Code → List α → World → Prop) (hI : OwnFrom w.heap.size I) (hIx : ∀ c, OwnFrom w.heap.size (Ix c)) (hF : FreeT B I) (hFx : ∀ c, FreeT B (Ix c)) (h0 : I [] w) (a₁ : α → Act)
    (hassign : ∀ (l : Nat) (x : α) (W : World) (K : Act → World → Prop), K (a₁ x) W →
      assign.wpIn (F.inRound l) (n - 1 - 1) P (Exit.then K (fun _ _ _ => False)) { tmps := (ps.zip (encs x)).foldl (fun t (p, v) => t.setIfInBounds p v) a.tmps, defers := [] } W)
    (hbody : ∀ (l : Nat) (pre : List α) (x : α) (W : World), I pre W → pre ++ [x] <+: all → w.heap.size + 1 < W.heap.size → body.wpIn (F.inRound l) (n - 1 - 1) P (ownPostK (Left B) I Ix (pre ++ [x]) W) (a₁ x) W)
    (hdone : ∀ (D : Nat) (W : World), w.heap.size ≤ D → I all W → W.heap[D]? = some (.deferred (some [])) → Q .normal { a with defers := { target := .collected D, args := #[] } :: a.defers } W)
    (hstop : ∀ (D : Nat) (c : Code) (pre : List α) (W : World), w.heap.size ≤ D → pre <+: all → Ix c pre W → W.heap[D]? = some (.deferred (some [])) → c.wpIn F n P Q { a with defers := { target := .collected D, args := #[] } :: a.defers } W) :
    (Code.rangeFunc g ps assign body).wpIn F n P Q a w := by
  refine wpIn_rangeFunc fun fn hfn => ?_
  rw [hro]
  -- the loop's record stands at L, the block for what its rounds defer at D
  obtain ⟨D, hD⟩ : ∃ D, w.heap.size = D := ⟨_, rfl⟩
  obtain ⟨L, hL⟩ : ∃ L, D + 1 = L := ⟨_, rfl⟩
  obtain ⟨lp, hlp⟩ : ∃ lp : LoopState → Option Code → Loop, lp = fun s j => { state := s, pending := j, fn, tmps := a.tmps, params := ps, assign, body, defers := w.heap.size } := ⟨_, rfl⟩
  obtain ⟨V, hV⟩ : ∃ V, (w.alloc (.deferred (some []))).alloc (.loop (lp .ready none)) = V := ⟨_, rfl⟩
  have sz : (w.alloc (.deferred (some []))).heap.size = L := by rw [World.size_alloc, hD, hL]
  have vL : V.heap[L]? = some (.loop (lp .ready none)) := by
    have := World.alloc_heap_new (w.alloc (.deferred (some []))) (.loop (lp .ready none))
    rw [sz, hV] at this; exact this
  have vD : V.heap[D]? = some (.deferred (some [])) := by
    have h2 := Below.heap_alloc (w.alloc (.deferred (some []))) (.loop (lp .ready none)) D (by rw [sz]; omega)
    have h3 := World.alloc_heap_new w (.deferred (some []))
    rw [hD] at h3
    rw [hV] at h2
    exact h2.trans h3
  have vB : Left B w V := by
    have h2 := Below.heap_alloc (w.alloc (.deferred (some []))) (.loop (lp .ready none)) B (by rw [sz]; omega)
    have h3 := Below.heap_alloc w (.deferred (some [])) B hB
    rw [hV] at h2
    exact h2.trans h3
  have vI : I [] V := by rw [← hV]; exact hI.alloc _ (hI.alloc _ h0)
  have hBL : B ≠ L := by omega
  have hBD : B ≠ D := by omega
  refine ⟨L, [{ target := .collected D, args := #[] }], V, { target := .fn (.func gf) lb, args := #[.func (.yield L) #[] #[]] }, V, gf, #[.func (.yield L) #[] #[]] ++ lb, V, ?_, ?_, ?_, ?_, fun _ => h1, ?_⟩
  · have := run_enterLoop_outer (P := P) fn a.tmps ps assign body (w := w)
    rw [← hL, ← hD, ← hV, hlp]; exact run_enterLoop_outer _ _ _ _ _
  · simp only [resolve, hg]
    simp [go_sem]
  · intro f' hf'; simp [Target.leads] at hf'; subst hf'; exact hFg
  · simp [invoke, go_sem, eg]
  -- the iterator, at the caller's invariant and the two blocks
  refine (hseq L (fun pre W => I pre W ∧ W.heap[L]? = some (.loop (lp .ready none)) ∧ W.heap[D]? = some (.deferred (some [])))
    (fun pre W => ∃ c, Ix c pre W ∧ W.heap[L]? = some (.loop (lp .done (some c))) ∧ W.heap[D]? = some (.deferred (some [])))
    V vB (fun s A A' h o ht => ⟨hF s A A' h.1 o ht, only_put o h.2.1 (Ne.symm hBL), only_put o h.2.2 (Ne.symm hBD)⟩)
    (fun s A A' h o ht => by
      obtain ⟨c, h1, h2, h3⟩ := h
      exact ⟨c, hFx c s A A' h1 o ht, only_put o h2 (Ne.symm hBL), only_put o h3 (Ne.symm hBD)⟩) ?_ ⟨vI, vL, vD⟩).mono ?_
  · rintro pre x W ⟨hi, hl, hd⟩ hpre
    have hlt : L < W.heap.size := (Array.getElem?_eq_some_iff.1 hl).1
    have hy := run_yield (P := P) (args := encs x) hl (by rw [hlp]; exact hps x)
    rw [hlp] at hy
    refine ⟨fn, _, assign, body, hy, roundIn_of_wpIn hfn (hassign _ x W _ ⟨_, run_beginRound hl (by rw [hlp]), ?_⟩)⟩
    have wL : (W.putObj L (.loop { lp .ready none with state := .busy })).heap[L]? = some (.loop { lp .ready none with state := .busy }) := World.putObj_heap_same hlt
    have wD : (W.putObj L (.loop { lp .ready none with state := .busy })).heap[D]? = some (.deferred (some [])) := (World.putObj_heap_other (by omega)).trans hd
    have wB : Left B W (W.putObj L (.loop { lp .ready none with state := .busy })) := World.putObj_heap_other (by omega)
    have wI := hI.putObj (.loop { lp .ready none with state := .busy }) hi (by omega) hl rfl
    have wS : w.heap.size + 1 < (W.putObj L (.loop { lp .ready none with state := .busy })).heap.size := by simp; omega
    generalize W.putObj L (.loop { lp .ready none with state := .busy }) = W' at wL wD wB wI wS
    refine wpIn_mono (hbody _ pre x _ wI hpre wS) ?_
    have fin : ∀ (j : Option Code) (U : World), KeepsOthers W' U → ∃ U', (Instr.endRound L j).run P U = .ok (.bool j.isNone) U' ∧ U' = U.putObj L (.loop (lp (if j.isNone then .ready else .done) j)) ∧ U.heap[L]? = some (.loop { lp .ready none with state := .busy }) ∧ U'.heap[L]? = some (.loop (lp (if j.isNone then .ready else .done) j)) ∧ U'.heap[D]? = some (.deferred (some [])) := fun j U hk => by
      have uL := hk.same _ _ wL rfl
      have := run_endRound (P := P) j uL
      rw [hlp] at this ⊢
      exact ⟨_, this, rfl, by rw [hlp] at uL; exact uL, World.putObj_heap_same (Array.getElem?_eq_some_iff.1 uL).1, (World.putObj_heap_other (by omega)).trans (hk.same _ _ wD rfl)⟩
    rintro e a3 U hp
    cases e with
    | normal =>
      obtain ⟨hk, hb, hi⟩ := hp
      obtain ⟨U', hr, rfl, uL, u1, u2⟩ := fin none U hk
      refine ⟨_, _, hr, .inl ⟨rfl, ⟨hI.putObj _ hi (by omega) uL rfl, u1, u2⟩, ?_⟩⟩
      exact (World.putObj_heap_other (by omega)).trans (Eq.trans hb wB)
    | ret =>
      obtain ⟨hk, hi⟩ := hp
      obtain ⟨U', hr, rfl, uL, u1, u2⟩ := fin (some .ret) U hk
      exact ⟨_, _, hr, .inr ⟨rfl, .ret, (hIx _).putObj _ hi (by omega) uL rfl, u1, u2⟩⟩
    | exit id =>
      obtain ⟨hk, hi⟩ := hp
      obtain ⟨U', hr, rfl, uL, u1, u2⟩ := fin (some (.exit id)) U hk
      exact ⟨_, _, hr, .inr ⟨rfl, .exit id, (hIx _).putObj _ hi (by omega) uL rfl, u1, u2⟩⟩
    | goto t =>
      obtain ⟨hk, hi⟩ := hp
      obtain ⟨U', hr, rfl, uL, u1, u2⟩ := fin (some (.goto t)) U hk
      exact ⟨_, _, hr, .inr ⟨rfl, .goto t, (hIx _).putObj _ hi (by omega) uL rfl, u1, u2⟩⟩
    | panic ch => exact hp.elim
    | outgrown => exact hp.elim
  · rintro e U ⟨⟨v, rfl⟩, ⟨hi, hl, hd⟩ | ⟨pre, hp, c, hi, hl, hd⟩⟩
    · exact ⟨none, _, by have := run_endLoop (P := P) hl (by rw [hlp]; simp); rw [hlp] at this; exact this, hdone _ _ (Nat.le_of_eq hD) (hI.putObj _ hi (by omega) hl rfl) ((World.putObj_heap_other (by omega)).trans hd)⟩
    · exact ⟨some c, _, by have := run_endLoop (P := P) hl (by rw [hlp]; simp); rw [hlp] at this; exact this, hstop _ c pre _ (Nat.le_of_eq hD) hp ((hIx c).putObj _ hi (by omega) hl rfl) ((World.putObj_heap_other (by omega)).trans hd)⟩
end Go.Proofs.YtjhofmmmlemfcaaDoor
