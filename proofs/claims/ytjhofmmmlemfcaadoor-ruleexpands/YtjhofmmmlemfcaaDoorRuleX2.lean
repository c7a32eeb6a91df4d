/- What withoutLets returns (package rule): the lines that give no name. -/
import Derived.Test.YtjhofmmmlemfcaaDoorRuleLin2
import Derived.Test.YtjhofmmmlemfcaaDoorExOut
import Derived.Test.YtjhofmmmlemfcaaDoorLnF
import Derived.Test.YtjhofmmmlemfcaaDoorBldB
import Derived.Test.YtjhofmmmlemfcaaDoorShelfD
namespace Go.Proofs.YtjhofmmmlemfcaaDoor
open Go.RowKit
set_option linter.unusedVariables false
set_option maxRecDepth 10000
attribute [local go_sem] Oper.semAt_some

structure WlSt (w W : World) (S : Nat) (bs : List UInt8) : Prop where
  bld : BldAt W S S bs
  str : ∃ l, StrAt W (S + 1) l
  bel : Below S w W
  sz : S + 2 ≤ W.heap.size
theorem WlSt.free {w W W' : World} {S : Nat} {bs : List UInt8} (h : WlSt w W S bs) (ho : Only (S + 1) W W') (hs : ∃ l, StrAt W' (S + 1) l) : WlSt w W' S bs := by
  refine ⟨h.bld.keepT (fun k o hk hc => (ho.block k (fun e => ?_)).trans hk), hs, ho.below (by omega) h.bel, by rw [ho.size]; exact h.sz⟩
  rcases hc with hc | ⟨c, fz, rfl⟩
  · omega
  · obtain ⟨l, hl⟩ := h.str
    subst e
    unfold StrAt at hl
    rw [hl] at hk
    have := Option.some.inj hk
    simp at this
theorem WlSt.turn {w W W' : World} {S : Nat} {bs : List UInt8} {row : Option Nat} (h : WlSt w W S bs) (hg : W.grownBy W' row) (hr : ∀ r, row = some r → S + 2 ≤ r ∧ ∃ o : Obj, W.heap[r]? = some o ∧ o.isCells = false) : WlSt w W' S bs := by
  obtain ⟨l, hl⟩ := h.str
  refine ⟨h.bld.keepT (fun k o hk hc => ?_), ⟨l, cells_grown hg hr hl⟩, h.bel.trans (grown_below hg (by have := h.sz; omega) (fun k hk => by have := (hr k hk).1; omega)), Nat.le_trans h.sz hg.size⟩
  rcases hc with rfl | ⟨c, fz, rfl⟩
  · obtain ⟨p, v, hp, _⟩ := h.bld.at
    rw [hp] at hk
    cases hk
    exact cells_grown hg hr hp
  · exact cells_grown hg hr hk
theorem WlSt.write {w W W' : World} {S : Nat} {bs bs' : List UInt8} (h : WlSt w W S bs) (hb : BldAt W' S S bs') (hbel : Below S W W') (hk : Lib.OthersKept 5 (some S) W W') : WlSt w W' S bs' ∧ KeepsOthers W W' ∧ Left (S + 1) W W' := by
  obtain ⟨l, hl⟩ := h.str
  have h1 : W'.heap[S + 1]? = some (.cells #[.string (mkB l)] 9 (0, 0)) := hk _ _ hl (by simp) (fun c fz e => by simp at e)
  refine ⟨⟨hb, ⟨l, h1⟩, h.bel.trans hbel, Nat.le_trans h.sz hbel.size⟩, ⟨hbel.size, fun k o hko hc => ?_⟩, h1.trans hl.symm⟩
  refine hk k o hko (fun e => ?_) (fun c fz e => ?_)
  · have e := Option.some.inj e
    subst e
    obtain ⟨p, v, hp, _⟩ := h.bld.at
    rw [hp] at hko
    cases hko
    cases hc
  · subst e; cases hc
def wlI (w : World) (S : Nat) (pre : List (List UInt8)) (W : World) : Prop := WlSt w W S (outL pre)
def wlX (c : Code) (pre : List (List UInt8)) (W : World) : Prop := False
theorem wlI_own (w : World) (S : Nat) : OwnFrom (S + 2) (wlI w S) := fun s W W' row h hg hr => h.turn hg hr
theorem wlX_own (S : Nat) (c : Code) : OwnFrom S (wlX c) := fun s W W' row h hg hr => h.elim
theorem wlI_free (w : World) (S : Nat) : FreeT (S + 1) (wlI w S) := fun s A A' h o ht => h.free o ht
theorem wlX_free (S : Nat) (c : Code) : FreeT S (wlX c) := fun s A A' h o ht => h.elim
theorem WlSt.new {s : List UInt8} (w : World) : WlSt w ((w.alloc (.cells #[.pointer none, .slice none 0 0] 58)).alloc (.cells #[.string (mkB s)] 9)) w.heap.size [] := by
  have z1 : (w.alloc (.cells #[.pointer none, .slice none 0 0] 58)).heap.size = w.heap.size + 1 := by simp
  have b1 : Below w.heap.size w (w.alloc (.cells #[.pointer none, .slice none 0 0] 58)) := (Below.refl _ _).alloc (Nat.le_refl _) _
  have n1 := BldAt.new w
  generalize w.alloc (.cells #[.pointer none, .slice none 0 0] 58) = W1 at z1 b1 n1 ⊢
  have b2 : Below W1.heap.size W1 (W1.alloc (.cells #[.string (mkB s)] 9)) := (Below.refl _ _).alloc (Nat.le_refl _) _
  have c2 := heap_alloc_new W1 (.cells #[.string (mkB s)] 9)
  rw [z1] at c2
  exact ⟨n1.keep b2, ⟨s, c2⟩, b1.trans (b2.mono b1.size), by simp; omega⟩
set_option maxHeartbeats 16000000 in
theorem without_any (text : List UInt8) (w : World) (hl : text.length ≤ 1048576) (hfl : (lnsL text).flatten.length ≤ 1048576) :
    Calls Tryd.prog 19 #[.string (mkB text)] w fun e w' => e = .returned (.string (mkB (outL (lnsL text)))) ∧ Below w.heap.size w w' := by
  obtain ⟨all, hall⟩ : ∃ all, lnsL text = all := ⟨_, rfl⟩
  rw [hall] at hfl ⊢
  have HALL : Hid (lnsL text = all) := hall
  have HFL : Hid (all.flatten.length ≤ 1048576) := hfl
  obtain ⟨Q, hQ⟩ : ∃ Q : Ending → World → Prop, Q = fun e w' => e = .returned (.string (mkB (outL all))) ∧ Below w.heap.size w w' := ⟨_, rfl⟩
  have HQ : Hid (∀ w', Below w.heap.size w w' → Q (.returned (.string (mkB (outL all)))) w') := by rw [hQ]; exact fun w' h => ⟨rfl, h⟩
  rw [← hQ]
  clear hQ hall hfl
  refine (callsIn_wide (n := 3)).1 ?_
  have R0 := WlSt.new (s := text) w
  obtain ⟨W0, hW0⟩ : ∃ W0, ((w.alloc (.cells #[.pointer none, .slice none 0 0] 58)).alloc (.cells #[.string (mkB text)] 9)) = W0 := ⟨_, rfl⟩
  have z0 : W0.heap.size = w.heap.size + 2 := by rw [← hW0]; simp
  have s0 : StrAt W0 (w.heap.size + 1) text := by
    have := heap_alloc_new (w.alloc (.cells #[.pointer none, .slice none 0 0] 58)) (.cells #[.string (mkB text)] 9)
    rw [hW0] at this
    rw [show (w.alloc (.cells #[.pointer none, .slice none 0 0] 58)).heap.size = w.heap.size + 1 by simp] at this
    exact this
  rw [hW0] at R0
  have hlf := fun w => linesF_any (mkB text) w
  refine callsIn_of_wp_marks Tryd.func19 rfl trivial ?_ rfl
  simp only [Tryd.ntmps19, List.size_toArray, List.length_cons, List.length_nil, Nat.reduceAdd, Nat.reduceSub, Array.replicate_succ, Array.replicate_zero, List.push_toArray, List.append_toArray, List.nil_append, List.cons_append]
  gi_wp2_with (refine ⟨trivial, ?_⟩; refine (callsIn_wide.2 (hlf _)).mono ?_; rintro e w' ⟨rfl, hw'⟩; rw [hw']; clear hw')
  clear hW0 hlf
  obtain ⟨S, hS⟩ : ∃ S, w.heap.size = S := ⟨_, rfl⟩
  have HS : Hid (w.heap.size = S) := hS
  rw [hS] at R0 z0 s0 ⊢
  clear hS
  have hgv := lines_givesT 2 (S + 1) text W0 s0 (by omega)
  rw [HALL.out] at hgv
  refine wp_range_boxT rfl (by decide) (gf := 21) (lb := #[.pointer (some ⟨S + 1, 0, none⟩)]) rfl trivial (enters_of Tryd.func21 (by kernel_rfl) rfl) (B := S + 1) (all := all) (by omega) hgv (fun x => rfl)
    (wlI w S) wlX (by rw [z0]; exact wlI_own w S) (fun c => by rw [z0]; exact wlX_own _ c) (wlI_free w S) (wlX_free _) R0
    (fun x => { tmps := #[.string (mkB text), undef, .string ⟨#[]⟩, .pointer (some ⟨S, 0, none⟩), .string (mkB x), .string (mkB text), .func (.func 21) #[] #[.pointer (some ⟨S + 1, 0, none⟩)], .string (mkB x), undef, undef, undef, undef, undef, undef], defers := [] }) ?assign ?body ?done ?stop
  case assign =>
    intro l x W K hK
    gi_wp2
    exact hK
  case body =>
    rintro l pre x W R hpre hsz
    have hR : WlSt w W S (outL pre) := R
    have HX : Hid ((outL (pre ++ [x])).length ≤ 1048576) := Nat.le_trans (outL_len all _ hpre) HFL.out
    have hhp := Tryd.strings_HasPrefix (mkB x) (mkB letP) W
    rw [mkB_toList, mkB_toList] at hhp
    rw [show mkB letP = (⟨#[108, 101, 116, 32]⟩ : ByteArray) from rfl] at hhp
    have HO := hidR (outL_snoc pre x)
    have HR := hidR hR
    clear R hpre hgv s0 R0 hR
    rcases hb : Lib.hasPrefix x letP with _ | _
    · rw [hb] at hhp
      have hO := HO.out
      rw [hb, if_neg (by simp)] at hO
      have gb := bldW S S (outL pre) x W HR.out.bld (by have := HX.out; rw [hO, List.length_append] at this; omega) (by have := HR.out.sz; omega)
      have HO2 := hidR hO
      clear hO HO hb
      gi_upto_region 5 with (refine ⟨trivial, ?_⟩; refine (CallsIn.inRound l (callsIn_wide.2 hhp)).mono ?_; rintro e W1 ⟨rfl, hw1⟩; rw [hw1]; clear hw1)
      gi_wp2_with (refine ⟨trivial, ?_⟩; refine (CallsIn.inRound l (callsIn_wide.2 gb)).mono ?_; rintro e W2 ⟨rfl, k2, b2, o2⟩)
      obtain ⟨r1, r2, r3⟩ := HR.out.write k2 b2 o2
      refine ⟨r2, r3, ?_⟩
      show WlSt w W2 S (outL (pre ++ [x]))
      rw [HO2.out]; exact r1
    · rw [hb] at hhp
      have hO := HO.out
      rw [hb, if_pos rfl] at hO
      have HO2 := hidR hO
      clear hO HO hb
      gi_wp2_with (refine ⟨trivial, ?_⟩; refine (CallsIn.inRound l (callsIn_wide.2 hhp)).mono ?_; rintro e W1 ⟨rfl, hw1⟩; rw [hw1]; clear hw1)
      refine ⟨KeepsOthers.refl _, rfl, ?_⟩
      show WlSt w W S (outL (pre ++ [x]))
      rw [HO2.out]; exact HR.out
  case done =>
    rintro D W hD R hK
    have hR : WlSt w W S (outL all) := R
    have gs := bldSk S S (outL all) W hR.bld (by have := hR.sz; omega)
    have hne : ∀ o, W.heap[S]? = some o → o.isCells = true := fun o ho => by
      obtain ⟨p, v, hp, _⟩ := hR.bld.at
      rw [hp] at ho
      cases ho
      rfl
    gi_wp2_with (refine ⟨trivial, ?_⟩; refine (callsIn_wide.2 gs).mono ?_; rintro e W1 ⟨rfl, b1, o1⟩)
    have hK1 := o1 D _ hK (fun e => by have e := Option.some.inj e; omega) (fun c fz e => by cases e)
    refine ⟨by simp, .inl ⟨_, _, rfl, run_takeDeferred hK1, ?_⟩⟩
    have hgr := grownBy_putObj' W1 D (.deferred none)
    have hz := hR.sz
    have hz1 := b1.size
    have bel10 : Below S w (W1.putObj D (.deferred none)) := (hR.bel.trans b1).trans (grown_below hgr (by omega) (fun k hk => by cases hk; omega))
    generalize W1.putObj D (.deferred none) = W10 at bel10 ⊢
    have hq := HQ.out W10 (by rw [HS.out]; exact bel10)
    exact ⟨.string (mkB (outL all)), by simp [results, Tryd.results19, go_sem], hq⟩
  case stop =>
    rintro D c pre W hD hpre R hK
    exact R.elim
end Go.Proofs.YtjhofmmmlemfcaaDoor
