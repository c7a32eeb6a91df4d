/- What next of package sync's Hearer returns: the notes that follow, as long as they wait. -/
import Derived.Test.YtkkefgoidjjehaaDoorSynMap
import Derived.Test.YtkkefgoidjjehaaDoorSynNr
import Derived.Deep.RegionHeld3
import Derived.Deep.DeepCutAuto
namespace Go.Proofs.YtkkefgoidjjehaaDoor
open Go.RowKit Go.Maps
set_option linter.unusedVariables false

/-- What a round of next reads: it is there (N, true), or not (nothing, false). -/
def HeRd (ν : Nat → Nt) (b m s : Nat) (W : List Nat) (N : Nt) (y : Bool) (X : World) : Prop :=
  (X.cell? ⟨b, 0, none⟩ = some (.int .i64 (s : Int)) ∧ X.cell? ⟨b, 1, none⟩ = some (.map (some m)) ∧ (Instr.lookup 65 (.map (some m)) (.int .i64 (IntKind.i64.wrap ((s : Int) + 1))) true).run Tryd.prog X = .ok (.tuple #[.agg #[.int .i64 N.what, .int .i64 N.seq, .int .i64 N.fl.key.kind, .int .i64 N.fl.key.src, .int .i64 N.fl.key.frm, .int .i64 N.fl.key.dst, .int .i64 N.fl.key.too, .int .i64 N.fl.st, .int .i64 N.fl.unt, .int .i64 N.fl.stp, .int .i64 N.fl.h0, .int .i64 N.fl.h1, .int .i64 N.fl.w0, .int .i64 N.fl.w1, .bool N.fl.d0, .bool N.fl.d1, .int .i64 N.fl.num], .bool y]) X) ∧ HeAt ν X b m s W
theorem he_yes {b m s : Nat} {ν : Nat → Nt} {W : List Nat} {X : World} (h : HeAt ν X b m s W) (hs : s < 900000) (hm : s + 1 ∈ W) : HeRd ν b m s W (ν (s + 1)) true X := by
  refine ⟨⟨h.cells.1, h.cells.2, ?_⟩, h⟩
  rw [show IntKind.i64.wrap ((s : Int) + 1) = (s : Int) + 1 by rw [IntKind.wrap_i64]; omega]
  have hk : keyOf Tryd.prog 3 (.int .i64 ((s : Int) + 1)) = some (.int .i64 ((s + 1 : Nat) : Int)) := by
    have := keyI (k := s + 1) (by omega)
    rw [show ((s + 1 : Nat) : Int) = (s : Int) + 1 by omega] at this ⊢
    exact this
  exact h.2.lookOk lawI Tryd.underlying65 (zeroNt X) hk (litN_mem hm)
theorem he_no {b m s : Nat} {ν : Nat → Nt} {W : List Nat} {X : World} (h : HeAt ν X b m s W) (hs : s < 900000) (hm : s + 1 ∉ W) : HeRd ν b m s W zeroN false X := by
  refine ⟨⟨h.cells.1, h.cells.2, ?_⟩, h⟩
  rw [show IntKind.i64.wrap ((s : Int) + 1) = (s : Int) + 1 by rw [IntKind.wrap_i64]; omega]
  have hk : keyOf Tryd.prog 3 (.int .i64 ((s : Int) + 1)) = some (.int .i64 ((s + 1 : Nat) : Int)) := by
    have := keyI (k := s + 1) (by omega)
    rw [show ((s + 1 : Nat) : Int) = (s : Int) + 1 by omega] at this ⊢
    exact this
  exact h.2.lookOkNo lawI Tryd.underlying65 (zeroNt X) hk (litN_no hm)
def outN (ν : Nat → Nt) (s k : Nat) : List Nt := (List.range k).map fun i => ν (s + i + 1)
theorem outN_succ (ν : Nat → Nt) (s k : Nat) : outN ν s (k + 1) = outN ν s k ++ [ν (s + k + 1)] := by
  unfold outN; rw [List.range_succ, List.map_append]; rfl
def Two (b m : Nat) (i : Nat) : Prop := i = b ∨ i = m
set_option maxRecDepth 100000 in
set_option maxHeartbeats 16000000 in
theorem heNext_any (ν : Nat → Nt) (hν : ∀ j, (ν j).seq = (j : Int)) (b m s : Nat) (W : List Nat) (w : World) (h : HeAt ν w b m s W) (hs : s + W.length < 900000) :
    Calls Tryd.prog 24 #[.pointer (some ⟨b, 0, none⟩)] w fun e w' => ∃ v k, e = .returned v ∧ (nextG W.length s W).1 = s + k ∧ OwnNt w' w.heap.size v (outN ν s k) ∧ HeAt ν w' b m (s + k) (nextG W.length s W).2 ∧ Turn (Two b m) w w' := by
  have HNU := hidE hν
  clear hν
  go_enter Tryd.func24, Tryd.ntmps24
  go_wp2
  go_loopw [3] (fun v wr => ∃ (k f : Nat) (W1 : List Nat), Hid (nextG f (s + k) W1 = nextG W.length s W) ∧ W1.length ≤ f ∧ k + f = W.length ∧ OwnNt wr w.heap.size v (outN ν s k) ∧ HeAt ν wr b m (s + k) W1 ∧ Turn (Two b m) w wr) (fun v _ => W.length + 1 - (match v with | .slice _ n _ => n | _ => 0))
  case atStart => exact ⟨0, W.length, W, rfl, Nat.le_refl _, by omega, OwnN.nil _ _, h, Turn.refl _ _⟩
  case round =>
    obtain ⟨k, f, W1, hT, hf, hkf, own, hh, tu⟩ := hrel
    obtain ⟨ao, ca, rfl⟩ := OwnN.len own
    obtain ⟨s1, Hs1⟩ : ∃ s1, s + k = s1 := ⟨_, rfl⟩
    have hs1 : s1 < 900000 := by omega
    have HS1 := hidE Hs1
    rw [Hs1] at hT hh
    clear Hs1
    by_cases hm : s1 + 1 ∈ W1
    · obtain ⟨N, hN⟩ : ∃ N, ν (s1 + 1) = N := ⟨_, rfl⟩
      have hS : (wr.cell? ⟨b, 0, none⟩ = some (.int .i64 (s1 : Int)) ∧ wr.cell? ⟨b, 1, none⟩ = some (.map (some m)) ∧ (Instr.lookup 65 (.map (some m)) (.int .i64 (IntKind.i64.wrap ((s1 : Int) + 1))) true).run Tryd.prog wr = .ok (.tuple #[.agg #[.int .i64 N.what, .int .i64 N.seq, .int .i64 N.fl.key.kind, .int .i64 N.fl.key.src, .int .i64 N.fl.key.frm, .int .i64 N.fl.key.dst, .int .i64 N.fl.key.too, .int .i64 N.fl.st, .int .i64 N.fl.unt, .int .i64 N.fl.stp, .int .i64 N.fl.h0, .int .i64 N.fl.h1, .int .i64 N.fl.w0, .int .i64 N.fl.w1, .bool N.fl.d0, .bool N.fl.d1, .int .i64 N.fl.num], .bool true]) wr) ∧ HeAt ν wr b m s1 W1 := by
        have e := he_yes hh hs1 hm
        rw [hN] at e
        exact e
      have HK : Hid (∀ X, HeAt ν X b m s1 W1 → ((X.cell? ⟨b, 0, none⟩ = some (.int .i64 (s1 : Int)) ∧ X.cell? ⟨b, 1, none⟩ = some (.map (some m)) ∧ (Instr.lookup 65 (.map (some m)) (.int .i64 (IntKind.i64.wrap ((s1 : Int) + 1))) true).run Tryd.prog X = .ok (.tuple #[.agg #[.int .i64 N.what, .int .i64 N.seq, .int .i64 N.fl.key.kind, .int .i64 N.fl.key.src, .int .i64 N.fl.key.frm, .int .i64 N.fl.key.dst, .int .i64 N.fl.key.too, .int .i64 N.fl.st, .int .i64 N.fl.unt, .int .i64 N.fl.stp, .int .i64 N.fl.h0, .int .i64 N.fl.h1, .int .i64 N.fl.w0, .int .i64 N.fl.w1, .bool N.fl.d0, .bool N.fl.d1, .int .i64 N.fl.num], .bool true]) X) ∧ HeAt ν X b m s1 W1)) := by
        intro X hX
        have e := he_yes hX hs1 hm
        rw [hN] at e
        exact e
      have HH := hidE hm
      obtain ⟨f', rfl⟩ : ∃ f', f = f' + 1 := ⟨f - 1, by have := List.length_pos_of_mem hm; omega⟩
      clear hm
      have HN := hidE hN
      clear hN
      go_upto_region 2 with fail
      go_cut [4, 5] (fun v4 v5 wc => ∃ b4, v4 = .pointer (some ⟨b4, 0, none⟩) ∧ v5 = .bool true ∧ wr.heap.size ≤ b4 ∧ Hid (NtAt wc b4 N) ∧ Hid (HeAt ν wc b m s1 W1) ∧ Hid (Below wr.heap.size wr wc))
      case first =>
        go_region_held3 (fun X => ((X.cell? ⟨b, 0, none⟩ = some (.int .i64 (s1 : Int)) ∧ X.cell? ⟨b, 1, none⟩ = some (.map (some m)) ∧ (Instr.lookup 65 (.map (some m)) (.int .i64 (IntKind.i64.wrap ((s1 : Int) + 1))) true).run Tryd.prog X = .ok (.tuple #[.agg #[.int .i64 N.what, .int .i64 N.seq, .int .i64 N.fl.key.kind, .int .i64 N.fl.key.src, .int .i64 N.fl.key.frm, .int .i64 N.fl.key.dst, .int .i64 N.fl.key.too, .int .i64 N.fl.st, .int .i64 N.fl.unt, .int .i64 N.fl.stp, .int .i64 N.fl.h0, .int .i64 N.fl.h1, .int .i64 N.fl.w0, .int .i64 N.fl.w1, .bool N.fl.d0, .bool N.fl.d1, .int .i64 N.fl.num], .bool true]) X) ∧ HeAt ν X b m s1 W1)) (with_reducible first | assumption | exact hS | exact HK.out _ (HeAt.drew (And.right (by assumption))) | exact HK.out _ (HeAt.alloc (And.right (by assumption)) _) | exact HK.out _ (HeAt.drew (HeAt.alloc (And.right (by assumption)) _)) | exact HK.out _ (HeAt.drew (And.right hS)) | exact HK.out _ (HeAt.drew (HeAt.alloc (And.right hS) _))) (fail)
        all_goals (go_wp2_with fail; go_meet; case rel => exact ⟨_, rfl, rfl, Nat.le_refl _, NtAt.new wr N, (hh.alloc _).drew, ((Below.refl _ _).alloc (Nat.le_refl _) _).drew⟩)
      case rest =>
        clear hS HK
        obtain ⟨b4, rfl, rfl, hb4, N4, H4, B4⟩ := hcut
        obtain ⟨X4, hX4⟩ : ∃ X4, wc = X4 := ⟨_, rfl⟩
        rw [hX4] at N4 H4 B4 ⊢
        clear hX4
        have hseq : N.seq = ((s1 + 1 : Nat) : Int) := by rw [← HN.out]; exact HNU.out _
        have hkey : keyOf Tryd.prog 3 (.int .i64 N.seq) = some (.int .i64 ((s1 + 1 : Nat) : Int)) := by rw [hseq]; exact keyI (by omega)
        obtain ⟨W5, hdel, m5, g5⟩ := H4.out.drew.2.drop lawI Tryd.underlying65 hkey 0
        rw [litN_filter] at m5
        have HSQ := hidE hseq
        clear hseq hkey
        obtain ⟨c0, c1⟩ := H4.out.cells
        have q1 := (N4.out).cells.2.1
        have hbm := H4.out.ne
        have hr5 : W5.heap[b]? = some (.cells #[.int .i64 (s1 : Int), .map (some m)] 67 (0, 0)) := by
          rw [g5.block b (by simpa using H4.out.lt) (fun e => hbm (by simpa using e))]; exact H4.out.1
        go_upto_region 5 with fail
        go_cut [4] (fun v4 wd => v4 = .pointer (some ⟨b4, 0, none⟩) ∧ wd = W5)
        case first =>
          go_region
          all_goals (go_wp2_with fail; go_meet; case rel => exact ⟨rfl, rfl⟩)
        case rest =>
          obtain ⟨rfl, hwd⟩ := hcut
          rw [hwd]
          clear hwd
          have n5 : NtAt W5 b4 N := by
            have hb : W5.heap[b4]? = X4.heap[b4]? := g5.block b4 (by simpa using N4.out.lt) (fun e => by
              have hm4 := H4.out.2
              have e' : b4 = m := by simpa using e
              exact (e' ▸ H4.out.2 : MapIs Tryd.prog 3 X4 b4 _).not_cells N4.out)
            unfold NtAt; rw [hb]; exact N4.out
          have hb4ne : b ≠ b4 := by have := hh.lt; omega
          have d0 : W5.cell? ⟨b, 0, none⟩ = some (.int .i64 (s1 : Int)) := by rw [cell_of_row W5 b _ _ _ _ hr5]; rfl
          have fr0 : W5.frozen? ⟨b, 0, none⟩ = false := frozen_of_row W5 b 0 _ _ hr5
          have q5 := n5.cells.2.1
          have hst : (W5.setCell ⟨b, 0, none⟩ (.int .i64 N.seq)).heap[b]? = some (.cells #[.int .i64 N.seq, .map (some m)] 67 (0, 0)) := by
            have e := heap_setCell_same W5 b 0 _ _ (.int .i64 N.seq) hr5
            exact e
          have o6 : Only b W5 (W5.setCell ⟨b, 0, none⟩ (.int .i64 N.seq)) := (Only.refl _ _).setCell _ _
          obtain ⟨W6, hW6⟩ : ∃ W6, W5.setCell ⟨b, 0, none⟩ (.int .i64 N.seq) = W6 := ⟨_, rfl⟩
          rw [hW6] at hst o6
          have n6 := n5.only hb4ne.symm o6
          have m6 := m5.block (o6.block m hbm.symm)
          clear c0 c1 q1 hdel
          go_upto_region 7 with fail
          try rw [hW6]
          clear d0 fr0 q5 hW6
          have h6 : HeAt ν W6 b m (s1 + 1) (W1.filter fun x => decide (x ≠ s1 + 1)) := ⟨by rw [hst, HSQ.out], m6⟩
          have hbw : b < w.heap.size := h.lt
          have hmw : m < w.heap.size := h.2.lt
          have hblk : ∀ i, w.heap.size ≤ i → i < wr.heap.size → W6.heap[i]? = wr.heap[i]? := by
            intro i h1 h2
            rw [o6.block i (by omega), g5.block i (by have := B4.out.size; simp; omega) (fun e => absurd (show i = m by simpa using e) (by omega))]
            exact B4.out.block i h2
          have own6 : OwnNt W6 w.heap.size (.slice ao (outN ν s k).length ca) (outN ν s k) := OwnN.blk own (fun i hi => hblk i (OwnN.block own i hi).1 (OwnN.block own i hi).2)
          have t6 : Turn (Two b m) w W6 := ((tu.trans (Turn.of_below B4.out _)).drewN 1).trans ((Turn.of_grown g5 (fun g e => .inr (by simpa using e.symm))).trans (Turn.of_only o6 (.inl rfl)))
          have hsz6 : w.heap.size ≤ W6.heap.size := t6.size
          have HOL : Hid ((outN ν s k).length = k) := by show _ = _; simp [outN]
          clear own tu hblk g5 m5 n5 hr5 m6 hst o6 N4 H4 B4 hh
          go_wp2_with (first | (refine wpList_load_nt rfl (.tmp 4) rfl _ _ rfl n6 ?_) | (at_builtin; refine wpList_append_nt rfl (.tmp 33) (.tmp 35) rfl w.heap.size _ (outN ν s k) rfl own6 N rfl (by rw [HOL.out]; omega) hsz6 ?_; intro v7 w7 own7 gr7))
          have h7 : HeAt ν w7 b m (s1 + 1) (W1.filter fun x => decide (x ≠ s1 + 1)) := by
            have ha := h6.alloc (.cells #[.int .i64 N.what, .int .i64 N.seq, .int .i64 N.fl.key.kind, .int .i64 N.fl.key.src, .int .i64 N.fl.key.frm, .int .i64 N.fl.key.dst, .int .i64 N.fl.key.too, .int .i64 N.fl.st, .int .i64 N.fl.unt, .int .i64 N.fl.stp, .int .i64 N.fl.h0, .int .i64 N.fl.h1, .int .i64 N.fl.w0, .int .i64 N.fl.w1, .bool N.fl.d0, .bool N.fl.d1, .int .i64 N.fl.num] 29)
            exact ⟨by rw [gr7.block b ha.lt (fun e => by have := (OwnN.block own6 b e.symm).1; omega)]; exact ha.1, ha.2.block (gr7.block m ha.2.lt (fun e => by have := (OwnN.block own6 m e.symm).1; omega))⟩
          have t7 : Turn (Two b m) w w7 := ⟨(gr7.os).trans t6.os, (gr7.tape).trans t6.tape, (gr7.output).trans t6.output, Nat.le_trans t6.size (Nat.le_trans (by simp) gr7.size), fun i h1 h2 => by
            rw [gr7.block i (by simp; omega) (fun e => by have := (OwnN.block own6 i e.symm).1; omega), Below.heap_alloc _ _ _ (by omega)]
            exact t6.block i h1 h2⟩
          rw [← HN.out, ← HS1.out, ← outN_succ] at own7
          go_roundw
          case rel =>
            refine ⟨k + 1, f', W1.filter (fun x => decide (x ≠ s1 + 1)), ?_, ?_, by omega, own7, ?_, t7⟩
            · show nextG f' (s + (k + 1)) _ = _
              rw [← hT.out]
              simp only [nextG]
              rw [if_pos HH.out, show s + (k + 1) = s1 + 1 by have := HS1.out; omega]
            · have := filter_lt HH.out; omega
            · rw [show s + (k + 1) = s1 + 1 by have := HS1.out; omega]; exact h7
          case measure =>
            obtain ⟨ao7, ca7, rfl⟩ := OwnN.len own7
            have hol7 : (outN ν s (k + 1)).length = k + 1 := by simp [outN]
            simp only [HOL.out, hol7]
            omega
    · have hS : (wr.cell? ⟨b, 0, none⟩ = some (.int .i64 (s1 : Int)) ∧ wr.cell? ⟨b, 1, none⟩ = some (.map (some m)) ∧ (Instr.lookup 65 (.map (some m)) (.int .i64 (IntKind.i64.wrap ((s1 : Int) + 1))) true).run Tryd.prog wr = .ok (.tuple #[.agg #[.int .i64 0, .int .i64 0, .int .i64 0, .int .i64 0, .int .i64 0, .int .i64 0, .int .i64 0, .int .i64 0, .int .i64 0, .int .i64 0, .int .i64 0, .int .i64 0, .int .i64 0, .int .i64 0, .bool false, .bool false, .int .i64 0], .bool false]) wr) ∧ HeAt ν wr b m s1 W1 := he_no hh hs1 hm
      have HK : Hid (∀ X, HeAt ν X b m s1 W1 → ((X.cell? ⟨b, 0, none⟩ = some (.int .i64 (s1 : Int)) ∧ X.cell? ⟨b, 1, none⟩ = some (.map (some m)) ∧ (Instr.lookup 65 (.map (some m)) (.int .i64 (IntKind.i64.wrap ((s1 : Int) + 1))) true).run Tryd.prog X = .ok (.tuple #[.agg #[.int .i64 0, .int .i64 0, .int .i64 0, .int .i64 0, .int .i64 0, .int .i64 0, .int .i64 0, .int .i64 0, .int .i64 0, .int .i64 0, .int .i64 0, .int .i64 0, .int .i64 0, .int .i64 0, .bool false, .bool false, .int .i64 0], .bool false]) X) ∧ HeAt ν X b m s1 W1)) := fun X hX => he_no hX hs1 hm
      have HX : Hid (nextG W.length s W = (s1, W1)) := by
        show _ = _
        rw [← hT.out]
        cases f with
        | zero => rfl
        | succ f => simp only [nextG]; rw [if_neg hm]
      clear hm
      go_upto_region 2 with fail
      go_cut [4, 5] (fun v4 v5 wc => ∃ b4, v4 = .pointer (some ⟨b4, 0, none⟩) ∧ v5 = .bool false ∧ Hid (HeAt ν wc b m s1 W1) ∧ Hid (Below wr.heap.size wr wc))
      case first =>
        go_region_held3 (fun X => ((X.cell? ⟨b, 0, none⟩ = some (.int .i64 (s1 : Int)) ∧ X.cell? ⟨b, 1, none⟩ = some (.map (some m)) ∧ (Instr.lookup 65 (.map (some m)) (.int .i64 (IntKind.i64.wrap ((s1 : Int) + 1))) true).run Tryd.prog X = .ok (.tuple #[.agg #[.int .i64 0, .int .i64 0, .int .i64 0, .int .i64 0, .int .i64 0, .int .i64 0, .int .i64 0, .int .i64 0, .int .i64 0, .int .i64 0, .int .i64 0, .int .i64 0, .int .i64 0, .int .i64 0, .bool false, .bool false, .int .i64 0], .bool false]) X) ∧ HeAt ν X b m s1 W1)) (with_reducible first | assumption | exact hS | exact HK.out _ (HeAt.drew (And.right (by assumption))) | exact HK.out _ (HeAt.alloc (And.right (by assumption)) _) | exact HK.out _ (HeAt.drew (HeAt.alloc (And.right (by assumption)) _)) | exact HK.out _ (HeAt.drew (And.right hS)) | exact HK.out _ (HeAt.drew (HeAt.alloc (And.right hS) _))) (fail)
        all_goals (go_wp2_with fail; go_meet; case rel => exact ⟨_, rfl, rfl, (hh.alloc _).drew, ((Below.refl _ _).alloc (Nat.le_refl _) _).drew⟩)
      case rest =>
        clear hS HK
        obtain ⟨b4, rfl, rfl, H4, B4⟩ := hcut
        have own4 : OwnNt wc w.heap.size (.slice ao (outN ν s k).length ca) (outN ν s k) := OwnN.below own B4.out
        have t4 : Turn (Two b m) w wc := tu.trans (Turn.of_below B4.out _)
        clear own tu
        go_wp2
        go_ret
        rw [HX.out]
        exact ⟨_, k, rfl, HS1.out.symm, own4, by rw [HS1.out]; exact H4.out, t4⟩
end Go.Proofs.YtkkefgoidjjehaaDoor
