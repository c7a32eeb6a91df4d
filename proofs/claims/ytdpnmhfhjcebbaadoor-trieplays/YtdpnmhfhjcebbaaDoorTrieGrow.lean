/- What grow of package trie does: it makes the nodes that are missing on the way to a prefix, and returns its node. -/
import Derived.Test.YtdpnmhfhjcebbaaDoorTrieFind
namespace Go.Proofs.YtdpnmhfhjcebbaaDoor
open Go.RowKit
set_option linter.unusedVariables false

/-- A trie with a node at a place, its values as before. -/
def Grows (F : Nat → Prop) (tb : Nat) (s : Tv) (a : Int) (l : Nat) (w : World) (e : Ending) (w' : World) : Prop :=
  ∃ blk b, e = .returned (.pointer (some ⟨b, 0, none⟩)) ∧ blk l (kq a l) = some b ∧ TrIn w' (Plus F w w') tb blk s ∧ Turn F w w'
set_option maxRecDepth 4000 in
set_option maxHeartbeats 16000000 in
theorem grow_raw (a : Int) (l : Nat) (tb : Nat) (F : Nat → Prop) (blk : Bk) (s : Tv) (w : World) (h0 : 0 ≤ a) (h1 : a ≤ 4294967295) (hl : l ≤ 32) (hT : TrIn w F tb blk s) (hF : ∀ k, F k → k < w.heap.size) :
    Calls Tryd.prog 25 #[.pointer (some ⟨tb, 0, none⟩), .agg #[.int .i64 a, .int .i64 (l : Int)]] w (Grows F tb s a l w) := by
  have hB : Below w.heap.size w (w.alloc (.cells #[.int .i64 a, .int .i64 (l : Int)] 25)) := (Below.refl _ _).alloc (Nat.le_refl _) _
  have hc0 : (w.alloc (.cells #[.int .i64 a, .int .i64 (l : Int)] 25)).cell? ⟨w.heap.size, 0, none⟩ = some (.int .i64 a) := by simp
  have hs1 : w.heap.size < (w.alloc (.cells #[.int .i64 a, .int .i64 (l : Int)] 25)).heap.size := by simp
  have HT1 : Hid (TrIn (w.alloc (.cells #[.int .i64 a, .int .i64 (l : Int)] 25)) F tb blk s) := hT.below hF hB
  have HF : Hid (∀ k, F k → k < w.heap.size) := hF
  clear hT hF
  go_enter Tryd.func25, Tryd.ntmps25
  go_upto_region 2 with fail
  generalize w.alloc (.cells #[.int .i64 a, .int .i64 (l : Int)] 25) = w1 at hB hc0 hs1 HT1 ⊢
  go_loopw [0, 9] (fun nv dv wr => ∃ (d : Nat) (blk' : Bk) (b : Nat), d ≤ l ∧ dv = .int .i64 (d : Int) ∧ nv = .pointer (some ⟨b, 0, none⟩) ∧ blk' d (kq a d) = some b ∧ TrIn wr (Plus F w1 wr) tb blk' s ∧ Turn F w1 wr) (fun _ dv _ => ((l : Int) - intOf dv).toNat)
  case atStart => exact ⟨0, blk, tb, by omega, rfl, rfl, by rw [kq_zero h0 h1]; exact HT1.out.root, HT1.out.mono (fun k hk => .inl hk), Turn.refl _ _⟩
  case round =>
    obtain ⟨d, blk', b, hd, rfl, rfl, hbk, hTr, hTu⟩ := hrel
    have c0 : wr.cell? ⟨w.heap.size, 0, none⟩ = some (.int .i64 a) := by
      rw [World.cell?_of_block (w := w1) (hTu.block w.heap.size hs1 (fun h => by have := HF.out _ h; omega))]; exact hc0
    by_cases hdl : d < l
    · have i1 : (d : Int) < (l : Int) := by omega
      obtain ⟨i, hk, hi2⟩ : ∃ i, kbit a d = i ∧ i < 2 := ⟨_, rfl, kbit_lt a d⟩
      have HK : Hid (kbit a d = i) := hk
      rcases (by omega : i = 0 ∨ i = 1) with hi | hi
      · subst hi
        as_aux_lemma =>
          have hT := hTr
          have hc := hT.step (show d < 32 by omega) hbk hk
          have hbt := fun W => bit_val W h0 h1 (show d < 32 by omega) hk
          rcases hx : blk' (d + 1) (kq a (d + 1)) with _ | c
          · rw [hx] at hc
            unfold ptrO at hc
            have hb2 := (hT.node d _ b hbk).lt
            have bw : Below wr.heap.size wr (wr.alloc (.cells #[.pointer none, .pointer none, .bool false, .int .i64 0] 58)) := (Below.refl _ _).alloc (Nat.le_refl _) _
            have a1 : (wr.alloc (.cells #[.pointer none, .pointer none, .bool false, .int .i64 0] 58)).cell? ⟨b, 0, none⟩ = some (.pointer none) := by rw [bw.cell (p := ⟨b, 0, none⟩) hb2]; exact hc
            have a2 : (wr.alloc (.cells #[.pointer none, .pointer none, .bool false, .int .i64 0] 58)).frozen? ⟨b, 0, none⟩ = false := by rw [bw.frozen (p := ⟨b, 0, none⟩) hb2]; exact (hT.node d _ b hbk).free 0
            have hg := hT.grow (i := 0) (G := Plus F w1 ((wr.alloc (.cells #[.pointer none, .pointer none, .bool false, .int .i64 0] 58)).setCell ⟨b, 0, none⟩ (ptrO (some wr.heap.size)))) (by omega) (show d < 32 by omega) hbk (by rw [kq_succ a (show d < 32 by omega), hk] at hx; exact hx) 58 (fun k hk => by
                rcases hk with h | h
                · exact .inl h
                · exact .inr ⟨h.1, by simp [World.setCell]; omega⟩) (.inr ⟨hTu.size, by simp [World.setCell]⟩)
            have on : Only b (wr.alloc (.cells #[.pointer none, .pointer none, .bool false, .int .i64 0] 58)) ((wr.alloc (.cells #[.pointer none, .pointer none, .bool false, .int .i64 0] 58)).setCell ⟨b, 0, none⟩ (ptrO (some wr.heap.size))) := (Only.refl _ _).setCell 0 _
            have hGb := hT.own d _ b hbk
            have HTU : Hid (Turn F w1 wr) := hTu
            have HBK : Hid (blk' d (kq a d) = some b) := hbk
            have HBW : Hid (Below wr.heap.size wr (wr.alloc (.cells #[.pointer none, .pointer none, .bool false, .int .i64 0] 58))) := bw
            unfold ptrO at hg on
            clear hT hk hx hTr hTu hbk bw hb2
            go_upto_region 7 with (go_at_call 35; refine (hbt _).mono ?_; rintro e wr ⟨rfl, rfl⟩)
            obtain ⟨w2, hw2⟩ : ∃ w2, (wr.alloc (.cells #[.pointer none, .pointer none, .bool false, .int .i64 0] 58)).setCell ⟨b, 0, none⟩ (.pointer (some ⟨wr.heap.size, 0, none⟩)) = w2 := ⟨_, rfl⟩
            have c2 : w2.cell? ⟨b, 0, none⟩ = some (.pointer (some ⟨wr.heap.size, 0, none⟩)) := by rw [← hw2]; exact World.cell?_setCell_same _ _ _ a1
            rw [hw2] at hg on ⊢
            have HT2 : Hid (TrIn w2 (Plus F w1 w2) tb (blkS blk' (d + 1) (2 * kq a d + 0) (some wr.heap.size)) s) := hg
            have HTU2 : Hid (Turn F w1 w2) := (HTU.out.trans (Turn.of_below HBW.out F)).andThen (Turn.of_only (F := fun k => k = b) on rfl) (fun i hi => by
              subst hi
              rcases hGb with h | h
              · exact .inl h
              · exact .inr h.1)
            have HE : Hid (2 * kq a d + 0 = kq a (d + 1)) := by show 2 * kq a d + 0 = kq a (d + 1); rw [kq_succ a (show d < 32 by omega)]; have := HK.out; omega
            clear hbt a1 a2 hg on hw2 hGb hc
            go_wp2_with fail
            go_roundw
            case rel => exact ⟨d + 1, blkS blk' (d + 1) (2 * kq a d + 0) (some wr.heap.size), wr.heap.size, by omega, by go_num, rfl, by rw [HE.out]; exact blkS_same _ _ _ _, HT2.out, HTU2.out⟩
            case measure => simp [intOf]; omega
          · rw [hx] at hc
            unfold ptrO at hc
            have HTR : Hid (TrIn wr (Plus F w1 wr) tb blk' s) := hTr
            have HTU : Hid (Turn F w1 wr) := hTu
            have HX : Hid (blk' (d + 1) (kq a (d + 1)) = some c) := hx
            clear hT hk hx hTr hTu hbk
            go_wp2_with (go_at_call 35; refine (hbt _).mono ?_; rintro e wr ⟨rfl, rfl⟩)
            go_roundw
            case rel => exact ⟨d + 1, blk', c, by omega, by go_num, rfl, HX.out, HTR.out, HTU.out⟩
            case measure => simp [intOf]; omega
      · subst hi
        as_aux_lemma =>
          have hT := hTr
          have hc := hT.step (show d < 32 by omega) hbk hk
          have hbt := fun W => bit_val W h0 h1 (show d < 32 by omega) hk
          rcases hx : blk' (d + 1) (kq a (d + 1)) with _ | c
          · rw [hx] at hc
            unfold ptrO at hc
            have hb2 := (hT.node d _ b hbk).lt
            have bw : Below wr.heap.size wr (wr.alloc (.cells #[.pointer none, .pointer none, .bool false, .int .i64 0] 58)) := (Below.refl _ _).alloc (Nat.le_refl _) _
            have a1 : (wr.alloc (.cells #[.pointer none, .pointer none, .bool false, .int .i64 0] 58)).cell? ⟨b, 1, none⟩ = some (.pointer none) := by rw [bw.cell (p := ⟨b, 1, none⟩) hb2]; exact hc
            have a2 : (wr.alloc (.cells #[.pointer none, .pointer none, .bool false, .int .i64 0] 58)).frozen? ⟨b, 1, none⟩ = false := by rw [bw.frozen (p := ⟨b, 1, none⟩) hb2]; exact (hT.node d _ b hbk).free 1
            have hg := hT.grow (i := 1) (G := Plus F w1 ((wr.alloc (.cells #[.pointer none, .pointer none, .bool false, .int .i64 0] 58)).setCell ⟨b, 1, none⟩ (ptrO (some wr.heap.size)))) (by omega) (show d < 32 by omega) hbk (by rw [kq_succ a (show d < 32 by omega), hk] at hx; exact hx) 58 (fun k hk => by
                rcases hk with h | h
                · exact .inl h
                · exact .inr ⟨h.1, by simp [World.setCell]; omega⟩) (.inr ⟨hTu.size, by simp [World.setCell]⟩)
            have on : Only b (wr.alloc (.cells #[.pointer none, .pointer none, .bool false, .int .i64 0] 58)) ((wr.alloc (.cells #[.pointer none, .pointer none, .bool false, .int .i64 0] 58)).setCell ⟨b, 1, none⟩ (ptrO (some wr.heap.size))) := (Only.refl _ _).setCell 1 _
            have hGb := hT.own d _ b hbk
            have HTU : Hid (Turn F w1 wr) := hTu
            have HBK : Hid (blk' d (kq a d) = some b) := hbk
            have HBW : Hid (Below wr.heap.size wr (wr.alloc (.cells #[.pointer none, .pointer none, .bool false, .int .i64 0] 58))) := bw
            unfold ptrO at hg on
            clear hT hk hx hTr hTu hbk bw hb2
            go_upto_region 7 with (go_at_call 35; refine (hbt _).mono ?_; rintro e wr ⟨rfl, rfl⟩)
            obtain ⟨w2, hw2⟩ : ∃ w2, (wr.alloc (.cells #[.pointer none, .pointer none, .bool false, .int .i64 0] 58)).setCell ⟨b, 1, none⟩ (.pointer (some ⟨wr.heap.size, 0, none⟩)) = w2 := ⟨_, rfl⟩
            have c2 : w2.cell? ⟨b, 1, none⟩ = some (.pointer (some ⟨wr.heap.size, 0, none⟩)) := by rw [← hw2]; exact World.cell?_setCell_same _ _ _ a1
            rw [hw2] at hg on ⊢
            have HT2 : Hid (TrIn w2 (Plus F w1 w2) tb (blkS blk' (d + 1) (2 * kq a d + 1) (some wr.heap.size)) s) := hg
            have HTU2 : Hid (Turn F w1 w2) := (HTU.out.trans (Turn.of_below HBW.out F)).andThen (Turn.of_only (F := fun k => k = b) on rfl) (fun i hi => by
              subst hi
              rcases hGb with h | h
              · exact .inl h
              · exact .inr h.1)
            have HE : Hid (2 * kq a d + 1 = kq a (d + 1)) := by show 2 * kq a d + 1 = kq a (d + 1); rw [kq_succ a (show d < 32 by omega)]; have := HK.out; omega
            clear hbt a1 a2 hg on hw2 hGb hc
            go_wp2_with fail
            go_roundw
            case rel => exact ⟨d + 1, blkS blk' (d + 1) (2 * kq a d + 1) (some wr.heap.size), wr.heap.size, by omega, by go_num, rfl, by rw [HE.out]; exact blkS_same _ _ _ _, HT2.out, HTU2.out⟩
            case measure => simp [intOf]; omega
          · rw [hx] at hc
            unfold ptrO at hc
            have HTR : Hid (TrIn wr (Plus F w1 wr) tb blk' s) := hTr
            have HTU : Hid (Turn F w1 wr) := hTu
            have HX : Hid (blk' (d + 1) (kq a (d + 1)) = some c) := hx
            clear hT hk hx hTr hTu hbk
            go_wp2_with (go_at_call 35; refine (hbt _).mono ?_; rintro e wr ⟨rfl, rfl⟩)
            go_roundw
            case rel => exact ⟨d + 1, blk', c, by omega, by go_num, rfl, HX.out, HTR.out, HTU.out⟩
            case measure => simp [intOf]; omega
    · have hdl' : d = l := by omega
      subst hdl'
      have i1 : ¬ (d : Int) < (d : Int) := by omega
      have HZ : Hid (Grows F tb s a d w (.returned (.pointer (some ⟨b, 0, none⟩))) wr) := ⟨blk', b, rfl, hbk, hTr.mono (fun k hk => by
        rcases hk with h | h
        · exact .inl h
        · exact .inr ⟨by have := hB.size; omega, h.2⟩), (Turn.of_below hB F).trans hTu⟩
      clear hTr hTu hbk
      go_wp2_with fail
      go_ret
      exact HZ.out
end Go.Proofs.YtdpnmhfhjcebbaaDoor
