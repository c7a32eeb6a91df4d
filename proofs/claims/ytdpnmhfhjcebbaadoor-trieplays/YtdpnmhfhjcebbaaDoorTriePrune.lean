/- What prune of package trie does: it takes away nodes that nothing needs; values stay. -/
import Derived.Test.YtdpnmhfhjcebbaaDoorTrieGrow
namespace Go.Proofs.YtdpnmhfhjcebbaaDoor
open Go.RowKit
set_option linter.unusedVariables false
set_option maxRecDepth 4000

/-- A trie whose nodes down to a depth are as they were, its values as before. -/
def Prunes (F : Nat → Prop) (tb : Nat) (s : Tv) (blk : Bk) (d : Nat) (w : World) (e : Ending) (w' : World) : Prop :=
  e = .returned (.tuple #[]) ∧ ∃ blk', TrIn w' F tb blk' s ∧ (∀ e p, e ≤ d → blk' e p = blk e p) ∧ Turn F w w'
set_option maxHeartbeats 16000000 in
theorem prune_raw (a : Int) (l : Nat) (tb : Nat) (F : Nat → Prop) (s : Tv) (h0 : 0 ≤ a) (h1 : a ≤ 4294967295) (hl : l ≤ 32) : ∀ (m d : Nat), d + m = l → ∀ (blk : Bk) (w : World) (b : Nat), TrIn w F tb blk s → (∀ k, F k → k < w.heap.size) → blk d (kq a d) = some b → (∃ z, blk l (kq a l) = some z) →
    Calls Tryd.prog 28 #[.pointer (some ⟨b, 0, none⟩), .agg #[.int .i64 a, .int .i64 (l : Int)], .int .i64 (d : Int)] w (Prunes F tb s blk d w) := by
  intro m
  induction m with
  | zero =>
    intro d hd blk w b hT hF hb hP
    obtain rfl : d = l := by omega
    have HZ : Hid (Prunes F tb s blk d w (.returned (.tuple #[])) (w.alloc (.cells #[.int .i64 a, .int .i64 (d : Int)] 25))) := ⟨rfl, blk, hT.below hF ((Below.refl _ _).alloc (Nat.le_refl _) _), fun _ _ _ => rfl, Turn.of_below ((Below.refl _ _).alloc (Nat.le_refl _) _) F⟩
    clear hT hF hb hP
    go_enter Tryd.func28, Tryd.ntmps28
    go_wp2_with fail
    go_end0
    exact HZ.out
  | succ m ih =>
    intro d hd blk w b hT hF hb hP
    have hB : Below w.heap.size w (w.alloc (.cells #[.int .i64 a, .int .i64 (l : Int)] 25)) := (Below.refl _ _).alloc (Nat.le_refl _) _
    have hc0 : (w.alloc (.cells #[.int .i64 a, .int .i64 (l : Int)] 25)).cell? ⟨w.heap.size, 0, none⟩ = some (.int .i64 a) := by simp
    have hc1 : (w.alloc (.cells #[.int .i64 a, .int .i64 (l : Int)] 25)).cell? ⟨w.heap.size, 1, none⟩ = some (.int .i64 (l : Int)) := by simp
    obtain ⟨i, hk, hi2⟩ : ∃ i, kbit a d = i ∧ i < 2 := ⟨_, rfl, kbit_lt a d⟩
    rcases (by omega : i = 0 ∨ i = 1) with hi | hi
    · subst hi
      as_aux_lemma =>
          have hbt := fun W => bit_val W h0 h1 (show d < 32 by omega) hk
          obtain ⟨c, hc⟩ : ∃ c, blk (d + 1) (kq a (d + 1)) = some c := by
            rcases hx : blk (d + 1) (kq a (d + 1)) with _ | c
            · have := hT.none_below hx (show d + 1 ≤ l by omega) (kq_up a (show d + 1 ≤ l by omega) hl)
              obtain ⟨z, hz⟩ := hP
              rw [this] at hz; cases hz
            · exact ⟨c, rfl⟩
          have hT1 := hT.below hF hB
          have hcell := hT1.step (show d < 32 by omega) hb hk
          rw [hc] at hcell
          unfold ptrO at hcell
          have hih := ih (d + 1) (by omega) blk (w.alloc (.cells #[.int .i64 a, .int .i64 (l : Int)] 25)) c hT1 (fun k hk => Nat.lt_of_lt_of_le (hF k hk) hB.size) hc hP
          rw [show ((d + 1 : Nat) : Int) = (d : Int) + 1 by push_cast; rfl] at hih
          have HB : Hid (Below w.heap.size w (w.alloc (.cells #[.int .i64 a, .int .i64 (l : Int)] 25))) := hB
          have HBB : Hid (blk d (kq a d) = some b) := hb
          have HC : Hid (blk (d + 1) (kq a (d + 1)) = some c) := hc
          have HQ : Hid (kq a (d + 1) = 2 * kq a d + 0) := by show kq a (d + 1) = 2 * kq a d + 0; rw [kq_succ a (show d < 32 by omega), hk]
          have i1 : ¬ (d : Int) = (l : Int) := by omega
          have i2 : ((d : Int) == (l : Int)) = false := by simpa using i1
          have i3 : (d : Int) + 1 ≤ 32 := by omega
          clear hT hT1 hb hk hB hP hc i1
          go_enter Tryd.func28, Tryd.ntmps28
          go_upto_region 4 with (go_at_call 35; refine (hbt _).mono ?_; rintro e w' ⟨rfl, rfl⟩)
          go_upto_region 5 with (go_at_call 28; refine hih.mono ?_; rintro e w2 ⟨rfl, blk2, hT2, hag, hTu2⟩)
          have hb2 : blk2 d (kq a d) = some b := by rw [hag d _ (by omega)]; exact HBB.out
          have hc2 : blk2 (d + 1) (kq a (d + 1)) = some c := by rw [hag _ _ (Nat.le_refl _)]; exact HC.out
          have hN := hT2.node _ _ c hc2
          have HTU : Hid (Turn F w w2) := (Turn.of_below HB.out F).trans hTu2
          have HAG : Hid (∀ e p, e ≤ d → blk2 e p = blk e p) := fun e p he => hag e p (by omega)
          have HT2 : Hid (TrIn w2 F tb blk2 s) := hT2
          have HS : Hid (Prunes F tb s blk d w (.returned (.tuple #[])) w2) := ⟨rfl, blk2, hT2, HAG.out, HTU.out⟩
          obtain ⟨n0, n1, n2, _, _⟩ := id hN
          rcases hf : s.f (d + 1) (kq a (d + 1)) with _ | v
          · rw [hf] at n2
            rcases hk0 : blk2 (d + 1 + 1) (2 * kq a (d + 1)) with _ | x0
            · rw [hk0] at n0
              rcases hk1 : blk2 (d + 1 + 1) (2 * kq a (d + 1) + 1) with _ | x1
              · rw [hk1] at n1
                rw [HQ.out] at hf hk0 hk1
                have hcut := hT2.cut (i := 0) (by omega) hb2 hf hk0 hk1
                have c1 := (hT2.node _ _ b hb2).c0
                have c2 := (hT2.node _ _ b hb2).free 0
                have on : Only b w2 (w2.setCell ⟨b, 0, none⟩ (ptrO none)) := (Only.refl _ _).setCell 0 _
                have HZ : Hid (Prunes F tb s blk d w (.returned (.tuple #[])) (w2.setCell ⟨b, 0, none⟩ (.pointer none))) := ⟨rfl, _, hcut, fun e p he => by rw [blkS_other (by omega)]; exact HAG.out e p he, HTU.out.trans (Turn.of_only on (hT2.own _ _ b hb2))⟩
                unfold ptrO at n0 n1
                simp only [Option.isSome_none] at n2
                clear hcut on hN hT2 hag hTu2 hb2 hc2 hih hbt hcell hf hk0 hk1
                go_wp2_with fail
                go_end0
                exact HZ.out
              · rw [hk1] at n1
                unfold ptrO at n0 n1
                simp only [Option.isSome_none] at n2
                clear hN hT2 hag hTu2 hb2 hc2 hih hbt hcell hf hk0 hk1
                go_wp2_with fail
                go_end0
                exact HS.out
            · rw [hk0] at n0
              unfold ptrO at n0
              simp only [Option.isSome_none] at n2
              clear hN hT2 hag hTu2 hb2 hc2 hih hbt hcell hf hk0 n1
              go_wp2_with fail
              go_end0
              exact HS.out
          · rw [hf] at n2
            simp only [Option.isSome_some] at n2
            clear hN hT2 hag hTu2 hb2 hc2 hih hbt hcell hf n0 n1
            go_wp2_with fail
            go_end0
            exact HS.out
    · subst hi
      as_aux_lemma =>
          have hbt := fun W => bit_val W h0 h1 (show d < 32 by omega) hk
          obtain ⟨c, hc⟩ : ∃ c, blk (d + 1) (kq a (d + 1)) = some c := by
            rcases hx : blk (d + 1) (kq a (d + 1)) with _ | c
            · have := hT.none_below hx (show d + 1 ≤ l by omega) (kq_up a (show d + 1 ≤ l by omega) hl)
              obtain ⟨z, hz⟩ := hP
              rw [this] at hz; cases hz
            · exact ⟨c, rfl⟩
          have hT1 := hT.below hF hB
          have hcell := hT1.step (show d < 32 by omega) hb hk
          rw [hc] at hcell
          unfold ptrO at hcell
          have hih := ih (d + 1) (by omega) blk (w.alloc (.cells #[.int .i64 a, .int .i64 (l : Int)] 25)) c hT1 (fun k hk => Nat.lt_of_lt_of_le (hF k hk) hB.size) hc hP
          rw [show ((d + 1 : Nat) : Int) = (d : Int) + 1 by push_cast; rfl] at hih
          have HB : Hid (Below w.heap.size w (w.alloc (.cells #[.int .i64 a, .int .i64 (l : Int)] 25))) := hB
          have HBB : Hid (blk d (kq a d) = some b) := hb
          have HC : Hid (blk (d + 1) (kq a (d + 1)) = some c) := hc
          have HQ : Hid (kq a (d + 1) = 2 * kq a d + 1) := by show kq a (d + 1) = 2 * kq a d + 1; rw [kq_succ a (show d < 32 by omega), hk]
          have i1 : ¬ (d : Int) = (l : Int) := by omega
          have i2 : ((d : Int) == (l : Int)) = false := by simpa using i1
          have i3 : (d : Int) + 1 ≤ 32 := by omega
          clear hT hT1 hb hk hB hP hc i1
          go_enter Tryd.func28, Tryd.ntmps28
          go_upto_region 4 with (go_at_call 35; refine (hbt _).mono ?_; rintro e w' ⟨rfl, rfl⟩)
          go_upto_region 5 with (go_at_call 28; refine hih.mono ?_; rintro e w2 ⟨rfl, blk2, hT2, hag, hTu2⟩)
          have hb2 : blk2 d (kq a d) = some b := by rw [hag d _ (by omega)]; exact HBB.out
          have hc2 : blk2 (d + 1) (kq a (d + 1)) = some c := by rw [hag _ _ (Nat.le_refl _)]; exact HC.out
          have hN := hT2.node _ _ c hc2
          have HTU : Hid (Turn F w w2) := (Turn.of_below HB.out F).trans hTu2
          have HAG : Hid (∀ e p, e ≤ d → blk2 e p = blk e p) := fun e p he => hag e p (by omega)
          have HT2 : Hid (TrIn w2 F tb blk2 s) := hT2
          have HS : Hid (Prunes F tb s blk d w (.returned (.tuple #[])) w2) := ⟨rfl, blk2, hT2, HAG.out, HTU.out⟩
          obtain ⟨n0, n1, n2, _, _⟩ := id hN
          rcases hf : s.f (d + 1) (kq a (d + 1)) with _ | v
          · rw [hf] at n2
            rcases hk0 : blk2 (d + 1 + 1) (2 * kq a (d + 1)) with _ | x0
            · rw [hk0] at n0
              rcases hk1 : blk2 (d + 1 + 1) (2 * kq a (d + 1) + 1) with _ | x1
              · rw [hk1] at n1
                rw [HQ.out] at hf hk0 hk1
                have hcut := hT2.cut (i := 1) (by omega) hb2 hf hk0 hk1
                have c1 := (hT2.node _ _ b hb2).c1
                have c2 := (hT2.node _ _ b hb2).free 1
                have on : Only b w2 (w2.setCell ⟨b, 1, none⟩ (ptrO none)) := (Only.refl _ _).setCell 1 _
                have HZ : Hid (Prunes F tb s blk d w (.returned (.tuple #[])) (w2.setCell ⟨b, 1, none⟩ (.pointer none))) := ⟨rfl, _, hcut, fun e p he => by rw [blkS_other (by omega)]; exact HAG.out e p he, HTU.out.trans (Turn.of_only on (hT2.own _ _ b hb2))⟩
                unfold ptrO at n0 n1
                simp only [Option.isSome_none] at n2
                clear hcut on hN hT2 hag hTu2 hb2 hc2 hih hbt hcell hf hk0 hk1
                go_wp2_with fail
                go_end0
                exact HZ.out
              · rw [hk1] at n1
                unfold ptrO at n0 n1
                simp only [Option.isSome_none] at n2
                clear hN hT2 hag hTu2 hb2 hc2 hih hbt hcell hf hk0 hk1
                go_wp2_with fail
                go_end0
                exact HS.out
            · rw [hk0] at n0
              unfold ptrO at n0
              simp only [Option.isSome_none] at n2
              clear hN hT2 hag hTu2 hb2 hc2 hih hbt hcell hf hk0 n1
              go_wp2_with fail
              go_end0
              exact HS.out
          · rw [hf] at n2
            simp only [Option.isSome_some] at n2
            clear hN hT2 hag hTu2 hb2 hc2 hih hbt hcell hf n0 n1
            go_wp2_with fail
            go_end0
            exact HS.out
end Go.Proofs.YtdpnmhfhjcebbaaDoor
