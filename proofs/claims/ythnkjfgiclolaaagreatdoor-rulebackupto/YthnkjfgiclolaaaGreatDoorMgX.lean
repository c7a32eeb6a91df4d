/- A range over a function whose iterator keeps a text in a block of its own: the rule of RuleLaw, for invariants that may say that a text lies there. -/
import Derived.Test.YthnkjfgiclolaaaGreatDoorRuleLaw
import Derived.Test.YthnkjfgiclolaaaGreatDoorRuleRd0
import Derived.Test.YthnkjfgiclolaaaGreatDoorRuleLin
namespace Go.Proofs.YthnkjfgiclolaaaGreatDoor
open Go.RowKit
set_option linter.unusedVariables false

/-- The invariant does not speak of block B but that a text lies there. -/
def FreeT {β : Type} (B : Nat) (I : β → World → Prop) : Prop := ∀ s A A', I s A → Only B A A' → (∃ l, StrAt A' B l) → I s A'
/-- What an iterator over the list 'all' does that keeps something in block B. -/
def GivesT {α : Type} (F : Fence) (n : Nat) (P : Program) (gf : Nat) (lb : Array Value) (encs : α → Array Value) (B : Nat) (all : List α) (w : World) : Prop :=
  ∀ (l : Nat) (J Jx : List α → World → Prop) (W : World), Left B w W → FreeT B J → FreeT B Jx →
    (∀ pre x A, J pre A → pre ++ [x] <+: all → YieldAt F (n - 1) P l (encs x) A fun e A' =>
      (e = .returned (.bool true) ∧ J (pre ++ [x]) A' ∧ Left B A A') ∨ (e = .returned (.bool false) ∧ Jx (pre ++ [x]) A')) →
    J [] W → CallsIn F n P gf (#[.func (.yield l) #[] #[]] ++ lb) W fun e A => (∃ v, e = .returned v) ∧ (J all A ∨ ∃ pre, pre <+: all ∧ Jx pre A)
variable {F : Fence} {n : Nat} {P : Program}
set_option maxHeartbeats 4000000 in
theorem wp_range_boxT {α : Type} {g : Operand} {ps : Array Tmp} {assign body : Code} {Q : Exit → Act → World → Prop} {a : Act} {w : World}
    (hro : F.round = none) (h1 : 1 ≤ n) {gf : Nat} {lb : Array Value} (hg : a.eval g = .func (.func gf) #[] lb) (hFg : F.fn gf) (eg : ∀ args w, (callFunc gf args).run P w = .ok (.enter gf args) w)
    {encs : α → Array Value} {B : Nat} {all : List α} (hB : B < w.heap.size) (hseq : GivesT F (n - 1) P gf lb encs B all w) (hps : ∀ x, (encs x).size = ps.size)
    (I : List α → World → Prop) (Ix : Code → List α → World → Prop) (hI : OwnFrom w.heap.size I) (hIx : ∀ c, OwnFrom w.heap.size (Ix c)) (hF : FreeT B I) (hFx : ∀ c, FreeT B (Ix c)) (h0 : I [] w) (a₁ : α → Act)
    (hassign : ∀ (l : Nat) (x : α) (W : World) (K : Act → World → Prop), K (a₁ x) W →
      assign.wpIn (F.inRound l) (n - 1 - 1) P (Exit.then K (fun _ _ _ => False)) { tmps := (ps.zip (encs x)).foldl (fun t (p, v) => t.setIfInBounds p v) a.tmps, defers := [] } W)
    (hbody : ∀ (l : Nat) (pre : List α) (x : α) (W : World), I pre W → pre ++ [x] <+: all → w.heap.size + 1 < W.heap.size → body.wpIn (F.inRound l) (n - 1 - 1) P (ownPostK (Left B) I Ix (pre ++ [x]) W) (a₁ x) W)
    (hdone : ∀ (D : Nat) (W : World), w.heap.size ≤ D → I all W → W.heap[D]? = some (.deferred (some [])) → Q .normal { a with defers := { target := .collected D, args := #[] } :: a.defers } W)
    (hstop : ∀ (D : Nat) (c : Code) (pre : List α) (W : World), w.heap.size ≤ D → pre <+: all → Ix c pre W → W.heap[D]? = some (.deferred (some [])) → c.wpIn F n P Q { a with defers := { target := .collected D, args := #[] } :: a.defers } W) :
    (Code.rangeFunc g ps assign body).wpIn F n P Q a w := by
  refine wpIn_rangeFunc fun fn hfn => ?_
  rw [hro]
  -- the loop's record stands at L, the block for what its rounds defer at D
  obtain ⟨D, hD⟩ : ∃ D, w.heap.size = D := ⟨_, rfl⟩
  obtain ⟨L, hL⟩ : ∃ L, D + 1 = L := ⟨_, rfl⟩
  obtain ⟨lp, hlp⟩ : ∃ lp : LoopState → Option Code → Loop, lp = fun s j => { state := s, pending := j, fn, tmps := a.tmps, params := ps, assign, body, defers := w.heap.size } := ⟨_, rfl⟩
  obtain ⟨V, hV⟩ : ∃ V, (w.alloc (.deferred (some []))).alloc (.loop (lp .ready none)) = V := ⟨_, rfl⟩
  have sz : (w.alloc (.deferred (some []))).heap.size = L := by rw [World.size_alloc, hD, hL]
  have vL : V.heap[L]? = some (.loop (lp .ready none)) := by
    have := World.alloc_heap_new (w.alloc (.deferred (some []))) (.loop (lp .ready none))
    rw [sz, hV] at this; exact this
  have vD : V.heap[D]? = some (.deferred (some [])) := by
    have h2 := Below.heap_alloc (w.alloc (.deferred (some []))) (.loop (lp .ready none)) D (by rw [sz]; omega)
    have h3 := World.alloc_heap_new w (.deferred (some []))
    rw [hD] at h3
    rw [hV] at h2
    exact h2.trans h3
  have vB : Left B w V := by
    have h2 := Below.heap_alloc (w.alloc (.deferred (some []))) (.loop (lp .ready none)) B (by rw [sz]; omega)
    have h3 := Below.heap_alloc w (.deferred (some [])) B hB
    rw [hV] at h2
    exact h2.trans h3
  have vI : I [] V := by rw [← hV]; exact hI.alloc _ (hI.alloc _ h0)
  have hBL : B ≠ L := by omega
  have hBD : B ≠ D := by omega
  refine ⟨L, [{ target := .collected D, args := #[] }], V, { target := .fn (.func gf) lb, args := #[.func (.yield L) #[] #[]] }, V, gf, #[.func (.yield L) #[] #[]] ++ lb, V, ?_, ?_, ?_, ?_, fun _ => h1, ?_⟩
  · have := run_enterLoop_outer (P := P) fn a.tmps ps assign body (w := w)
    rw [← hL, ← hD, ← hV, hlp]; exact run_enterLoop_outer _ _ _ _ _
  · simp only [resolve, hg]
    simp [go_sem]
  · intro f' hf'; simp [Target.leads] at hf'; subst hf'; exact hFg
  · simp [invoke, go_sem, eg]
  -- the iterator, at the caller's invariant and the two blocks
  refine (hseq L (fun pre W => I pre W ∧ W.heap[L]? = some (.loop (lp .ready none)) ∧ W.heap[D]? = some (.deferred (some [])))
    (fun pre W => ∃ c, Ix c pre W ∧ W.heap[L]? = some (.loop (lp .done (some c))) ∧ W.heap[D]? = some (.deferred (some [])))
    V vB (fun s A A' h o ht => ⟨hF s A A' h.1 o ht, only_put o h.2.1 (Ne.symm hBL), only_put o h.2.2 (Ne.symm hBD)⟩)
    (fun s A A' h o ht => by
      obtain ⟨c, h1, h2, h3⟩ := h
      exact ⟨c, hFx c s A A' h1 o ht, only_put o h2 (Ne.symm hBL), only_put o h3 (Ne.symm hBD)⟩) ?_ ⟨vI, vL, vD⟩).mono ?_
  · rintro pre x W ⟨hi, hl, hd⟩ hpre
    have hlt : L < W.heap.size := (Array.getElem?_eq_some_iff.1 hl).1
    have hy := run_yield (P := P) (args := encs x) hl (by rw [hlp]; exact hps x)
    rw [hlp] at hy
    refine ⟨fn, _, assign, body, hy, roundIn_of_wpIn hfn (hassign _ x W _ ⟨_, run_beginRound hl (by rw [hlp]), ?_⟩)⟩
    have wL : (W.putObj L (.loop { lp .ready none with state := .busy })).heap[L]? = some (.loop { lp .ready none with state := .busy }) := World.putObj_heap_same hlt
    have wD : (W.putObj L (.loop { lp .ready none with state := .busy })).heap[D]? = some (.deferred (some [])) := (World.putObj_heap_other (by omega)).trans hd
    have wB : Left B W (W.putObj L (.loop { lp .ready none with state := .busy })) := World.putObj_heap_other (by omega)
    have wI := hI.putObj (.loop { lp .ready none with state := .busy }) hi (by omega) hl rfl
    have wS : w.heap.size + 1 < (W.putObj L (.loop { lp .ready none with state := .busy })).heap.size := by simp; omega
    generalize W.putObj L (.loop { lp .ready none with state := .busy }) = W' at wL wD wB wI wS
    refine wpIn_mono (hbody _ pre x _ wI hpre wS) ?_
    have fin : ∀ (j : Option Code) (U : World), KeepsOthers W' U → ∃ U', (Instr.endRound L j).run P U = .ok (.bool j.isNone) U' ∧ U' = U.putObj L (.loop (lp (if j.isNone then .ready else .done) j)) ∧ U.heap[L]? = some (.loop { lp .ready none with state := .busy }) ∧ U'.heap[L]? = some (.loop (lp (if j.isNone then .ready else .done) j)) ∧ U'.heap[D]? = some (.deferred (some [])) := fun j U hk => by
      have uL := hk.same _ _ wL rfl
      have := run_endRound (P := P) j uL
      rw [hlp] at this ⊢
      exact ⟨_, this, rfl, by rw [hlp] at uL; exact uL, World.putObj_heap_same (Array.getElem?_eq_some_iff.1 uL).1, (World.putObj_heap_other (by omega)).trans (hk.same _ _ wD rfl)⟩
    rintro e a3 U hp
    cases e with
    | normal =>
      obtain ⟨hk, hb, hi⟩ := hp
      obtain ⟨U', hr, rfl, uL, u1, u2⟩ := fin none U hk
      refine ⟨_, _, hr, .inl ⟨rfl, ⟨hI.putObj _ hi (by omega) uL rfl, u1, u2⟩, ?_⟩⟩
      exact (World.putObj_heap_other (by omega)).trans (Eq.trans hb wB)
    | ret =>
      obtain ⟨hk, hi⟩ := hp
      obtain ⟨U', hr, rfl, uL, u1, u2⟩ := fin (some .ret) U hk
      exact ⟨_, _, hr, .inr ⟨rfl, .ret, (hIx _).putObj _ hi (by omega) uL rfl, u1, u2⟩⟩
    | exit id =>
      obtain ⟨hk, hi⟩ := hp
      obtain ⟨U', hr, rfl, uL, u1, u2⟩ := fin (some (.exit id)) U hk
      exact ⟨_, _, hr, .inr ⟨rfl, .exit id, (hIx _).putObj _ hi (by omega) uL rfl, u1, u2⟩⟩
    | goto t =>
      obtain ⟨hk, hi⟩ := hp
      obtain ⟨U', hr, rfl, uL, u1, u2⟩ := fin (some (.goto t)) U hk
      exact ⟨_, _, hr, .inr ⟨rfl, .goto t, (hIx _).putObj _ hi (by omega) uL rfl, u1, u2⟩⟩
    | panic ch => exact hp.elim
    | outgrown => exact hp.elim
  · rintro e U ⟨⟨v, rfl⟩, ⟨hi, hl, hd⟩ | ⟨pre, hp, c, hi, hl, hd⟩⟩
    · exact ⟨none, _, by have := run_endLoop (P := P) hl (by rw [hlp]; simp); rw [hlp] at this; exact this, hdone _ _ (Nat.le_of_eq hD) (hI.putObj _ hi (by omega) hl rfl) ((World.putObj_heap_other (by omega)).trans hd)⟩
    · exact ⟨some c, _, by have := run_endLoop (P := P) hl (by rw [hlp]; simp); rw [hlp] at this; exact this, hstop _ c pre _ (Nat.le_of_eq hD) hp ((hIx c).putObj _ hi (by omega) hl rfl) ((World.putObj_heap_other (by omega)).trans hd)⟩
end Go.Proofs.YthnkjfgiclolaaaGreatDoor

namespace Go.Proofs.YthnkjfgiclolaaaGreatDoor
open Go.RowKit
set_option linter.unusedVariables false
set_option maxRecDepth 10000

attribute [local go_sem] Oper.semAt_some
set_option maxHeartbeats 4000000 in
theorem lines_givesT (n : Nat) (g : Nat) (text : List UInt8) (w : World) (hs : StrAt w g text) (hlen : text.length ≤ 140737488355328) : GivesT Fence.wide n Tryz.prog 53 #[.pointer (some ⟨g, 0, none⟩)] (fun x : List UInt8 => #[.string (mkB x)]) g (lnsL text) w := by
  intro l J Jx W hW hJ hJx hY h0
  have hib := fun (s : ByteArray) w => Tryz.strings_IndexByte s 10 w
  have hsW : StrAt W g text := hs.keep hW
  refine callsIn_of_wp Tryz.func53 rfl trivial ?_ rfl
  simp only [Tryz.ntmps53, List.size_toArray, List.length_cons, List.length_nil, Nat.reduceAdd, Nat.reduceSub, Array.replicate_succ, Array.replicate_zero, List.push_toArray, List.append_toArray, List.nil_append, List.cons_append]
  gi_wp2
  gi_loopw [3, 4] (fun _ _ wr => ∃ (pre : List (List UInt8)) (rest : List UInt8), lnsL text = pre ++ lnsL rest ∧ StrAt wr g rest ∧ J pre wr ∧ rest.length ≤ 140737488355328) (fun _ _ wr => strLen g wr)
  case atStart => exact ⟨[], text, rfl, hsW, h0, hlen⟩
  case round =>
    obtain ⟨pre, rest, hl, hst, hj, hrl⟩ := hrel
    have c0 := hst.cell
    have fz := hst.free
    have hsz := mkB_size rest
    have HST : Hid (StrAt wr g rest) := hst
    have HJ : Hid (J pre wr) := hj
    have HL : Hid (lnsL text = pre ++ lnsL rest) := hl
    clear hst hj hl hsW h0
    by_cases hr0 : rest = []
    · subst hr0
      have hz : ¬ ((mkB []).size : Int) > 0 := by decide
      clear hsz
      gi_wp2
      go_end0
      have hl := HL.out
      rw [lnsL_nil, List.append_nil] at hl
      exact ⟨⟨_, rfl⟩, .inl (by rw [hl]; exact HJ.out)⟩
    · have hp : 0 < rest.length := List.length_pos_iff.2 hr0
      have hz : ((mkB rest).size : Int) > 0 := by rw [hsz]; omega
      have hb := hib (mkB rest)
      rw [mkB_toList, show (10 : Int).toNat.toUInt8 = 10 from rfl] at hb
      rcases splitC_index 10 rest with ⟨h1, _⟩ | ⟨i, hi, h1, _⟩
      · obtain ⟨W1, hW1, s1, o1⟩ := HST.out.store []
        have hl := HL.out
        rw [lnsL_last hr0 h1] at hl
        obtain ⟨fn, tmps, assign, body, hy, hR⟩ := hY pre rest W1 (hJ _ _ _ HJ.out o1 ⟨_, s1⟩) ⟨[], by rw [hl, List.append_nil]⟩
        have hn : ¬ Lib.indexByte rest 10 ≥ 0 := by omega
        generalize Lib.indexByte rest 10 = z at hb hn h1
        have HW1 : Hid (wr.setCell ⟨g, 0, none⟩ (.string (mkB [])) = W1) := hW1
        have HS1 : Hid (StrAt W1 g []) := s1
        have HLN : Hid (lnsL text = pre ++ [rest]) := hl
        have hlen1 : Hid (strLen g wr = rest.length) := strLen_at HST.out
        clear hW1 s1 o1 hl h1
        gi_upto_region 6 with (refine ⟨trivial, (fun h => by cases h), ?_⟩; refine (callsIn_wide.2 (hb _)).mono ?_; rintro e w' ⟨rfl, hw'⟩; rw [hw']; clear hw')
        rw [show (⟨#[]⟩ : ByteArray) = mkB [] from rfl, HW1.out]
        gi_wp2
        refine ⟨(fun h => by cases h), hR.mono ?_⟩
        rintro e W3 (⟨rfl, hJ3, hk3⟩ | ⟨rfl, hJx3⟩)
        · gi_wp2
          go_roundw
          case rel => exact ⟨pre ++ [rest], [], by rw [HLN.out, lnsL_nil, List.append_nil], HS1.out.keep hk3, hJ3, by simp⟩
          case measure => rw [strLen_at (HS1.out.keep hk3), hlen1.out]; simpa using hp
        · gi_wp2
          refine bodyPost_ret (results_none rfl _ _ _) rfl ?_
          exact ⟨⟨_, rfl⟩, .inr ⟨pre ++ [rest], ⟨[], by rw [HLN.out, List.append_nil]⟩, hJx3⟩⟩
      · obtain ⟨W1, hW1, s1, o1⟩ := HST.out.store (rest.drop (i + 1))
        have hl := HL.out
        rw [lnsL_cut hr0 h1] at hl
        have HLN : Hid (lnsL text = pre ++ rest.take (i + 1) :: lnsL (rest.drop (i + 1))) := hl
        rw [h1] at hb
        have hx1 := ext_take (mkB rest) (i + 1)
        have hx2 := ext_drop (mkB rest) (i + 1)
        rw [mkB_toList] at hx1 hx2
        obtain ⟨x, hx⟩ : ∃ x, rest.take (i + 1) = x := ⟨_, rfl⟩
        obtain ⟨m, hm⟩ : ∃ m, rest.drop (i + 1) = m := ⟨_, rfl⟩
        rw [hx] at hx1 HLN
        rw [hm] at hx2 HLN hW1 s1
        have hml : m.length < rest.length := by rw [← hm, List.length_drop]; omega
        obtain ⟨fn, tmps, assign, body, hy, hR⟩ := hY pre x W1.drew (hJ _ _ _ HJ.out (o1.drewN 1) ⟨_, s1⟩) ⟨lnsL m, by rw [HLN.out]; simp⟩
        have HW1 : Hid (wr.setCell ⟨g, 0, none⟩ (.string (mkB m)) = W1) := hW1
        have HS1 : Hid (StrAt W1.drew g m) := s1
        have hlen1 : Hid (strLen g wr = rest.length) := strLen_at HST.out
        have HX1 : Hid ((mkB rest).extract 0 (i + 1) = mkB x) := hx1
        have HX2 : Hid ((mkB rest).extract (i + 1) (mkB rest).size = mkB m) := hx2
        obtain ⟨N, hN⟩ : ∃ N, rest.length = N := ⟨_, rfl⟩
        rw [hN] at hsz hrl hi hp
        rw [hsz] at HX2
        have HN : Hid (rest.length = N) := hN
        clear hW1 s1 o1 hl h1 hx1 hx2 hx hm hN
        gi_upto_region 4 with (refine ⟨trivial, (fun h => by cases h), ?_⟩; refine (callsIn_wide.2 (hb _)).mono ?_; rintro e w' ⟨rfl, hw'⟩; rw [hw']; clear hw')
        gi_region
        rw [HX2.out, HX1.out, HW1.out]
        gi_wp2
        refine ⟨(fun h => by cases h), hR.mono ?_⟩
        rintro e W3 (⟨rfl, hJ3, hk3⟩ | ⟨rfl, hJx3⟩)
        · gi_wp2
          go_roundw
          case rel => exact ⟨pre ++ [x], m, by rw [HLN.out]; simp, HS1.out.keep hk3, hJ3, by have := HN.out; omega⟩
          case measure => rw [strLen_at (HS1.out.keep hk3), hlen1.out]; exact hml
        · gi_wp2
          refine bodyPost_ret (results_none rfl _ _ _) rfl ?_
          exact ⟨⟨_, rfl⟩, .inr ⟨pre ++ [x], ⟨lnsL m, by rw [HLN.out]; simp⟩, hJx3⟩⟩
end Go.Proofs.YthnkjfgiclolaaaGreatDoor
