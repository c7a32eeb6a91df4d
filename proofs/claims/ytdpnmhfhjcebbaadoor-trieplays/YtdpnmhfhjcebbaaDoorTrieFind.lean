/- What find of package trie returns: the node of a prefix, or nil. -/
import Derived.Test.YtdpnmhfhjcebbaaDoorTrieBit
namespace Go.Proofs.YtdpnmhfhjcebbaaDoor
open Go.RowKit
set_option linter.unusedVariables false

theorem bit_val {a : Int} {d i : Nat} (w : World) (h0 : 0 ≤ a) (h1 : a ≤ 4294967295) (hd : d < 32) (hk : kbit a d = i) :
    Calls Tryd.prog 35 #[.int .i64 a, .int .i64 (d : Int)] w fun e w' => e = .returned (.int .i64 (i : Int)) ∧ w' = w := by
  have h := bit_any a d w h0 h1 hd
  rw [hk] at h; exact h
/-- The kid of a node on the way to an address. -/
theorem TrIn.step {w : World} {F : Nat → Prop} {tb : Nat} {blk : Bk} {s : Tv} (h : TrIn w F tb blk s) {a : Int} {d b i : Nat} (hd : d < 32) (hb : blk d (kq a d) = some b) (hk : kbit a d = i) : w.cell? ⟨b, i, none⟩ = some (ptrO (blk (d + 1) (kq a (d + 1)))) := by
  have hn := h.node d _ b hb
  have hi : i < 2 := by rw [← hk]; exact kbit_lt a d
  have hc := hn.kid hi
  rw [hc, kq_succ a hd, hk]
  rcases (by omega : i = 0 ∨ i = 1) with rfl | rfl <;> simp
set_option maxHeartbeats 8000000 in
theorem find_raw (a : Int) (l : Nat) (tb : Nat) (F : Nat → Prop) (blk : Bk) (s : Tv) (w : World) (h0 : 0 ≤ a) (h1 : a ≤ 4294967295) (hl : l ≤ 32) (hT : TrIn w F tb blk s) (hF : ∀ k, F k → k < w.heap.size) :
    Calls Tryd.prog 24 #[.pointer (some ⟨tb, 0, none⟩), .agg #[.int .i64 a, .int .i64 (l : Int)]] w fun e w' => e = .returned (ptrO (blk l (kq a l))) ∧ Below w.heap.size w w' := by
  have hB : Below w.heap.size w (w.alloc (.cells #[.int .i64 a, .int .i64 (l : Int)] 25)) := (Below.refl _ _).alloc (Nat.le_refl _) _
  have hc0 : (w.alloc (.cells #[.int .i64 a, .int .i64 (l : Int)] 25)).cell? ⟨w.heap.size, 0, none⟩ = some (.int .i64 a) := by simp
  have hc1 : (w.alloc (.cells #[.int .i64 a, .int .i64 (l : Int)] 25)).cell? ⟨w.heap.size, 1, none⟩ = some (.int .i64 (l : Int)) := by simp
  have hs1 : w.heap.size < (w.alloc (.cells #[.int .i64 a, .int .i64 (l : Int)] 25)).heap.size := by simp
  have HR : Hid (blk 0 0 = some tb) := hT.root
  have HT : Hid (TrIn w F tb blk s) := hT
  have HF : Hid (∀ k, F k → k < w.heap.size) := hF
  clear hT hF
  go_enter Tryd.func24, Tryd.ntmps24
  go_upto_region 2 with fail
  generalize w.alloc (.cells #[.int .i64 a, .int .i64 (l : Int)] 25) = w1 at hB hc0 hc1 hs1 ⊢
  go_loopw [0, 5] (fun nv dv wr => ∃ d : Nat, d ≤ l ∧ dv = .int .i64 (d : Int) ∧ nv = ptrO (blk d (kq a d)) ∧ Below w1.heap.size w1 wr) (fun _ dv _ => ((l : Int) - intOf dv).toNat)
  case atStart => exact ⟨0, by omega, rfl, by rw [kq_zero h0 h1, HR.out]; rfl, Below.refl _ _⟩
  case round =>
    obtain ⟨d, hd, rfl, rfl, hbr⟩ := hrel
    have HBW : Hid (Below w.heap.size w wr) := hB.trans (hbr.mono hB.size)
    have c0 : wr.cell? ⟨w.heap.size, 0, none⟩ = some (.int .i64 a) := by rw [hbr.cell (p := ⟨w.heap.size, 0, none⟩) hs1]; exact hc0
    have c1 : wr.cell? ⟨w.heap.size, 1, none⟩ = some (.int .i64 (l : Int)) := by rw [hbr.cell (p := ⟨w.heap.size, 1, none⟩) hs1]; exact hc1
    have HBR : Hid (Below w1.heap.size w1 wr) := hbr
    clear hbr
    rcases hb : blk d (kq a d) with _ | b
    · have hn : blk l (kq a l) = none := HT.out.none_below hb hd (kq_up a hd hl)
      have HN : Hid (blk l (kq a l) = none) := hn
      unfold ptrO
      clear hn hb
      go_wp2_with fail
      go_ret
      exact ⟨by rw [HN.out]; rfl, HBW.out⟩
    · have HBK : Hid (blk d (kq a d) = some b) := hb
      unfold ptrO
      clear hb
      by_cases hdl : d < l
      · have i1 : (d : Int) < (l : Int) := by omega
        have hT := HT.out.below HF.out HBW.out
        obtain ⟨i, hk, hi2⟩ : ∃ i, kbit a d = i ∧ i < 2 := ⟨_, rfl, kbit_lt a d⟩
        rcases (by omega : i = 0 ∨ i = 1) with hi | hi
        · subst hi
          have hc := hT.step (by omega) HBK.out hk
          have hbt := fun W => bit_val W h0 h1 (show d < 32 by omega) hk
          obtain ⟨nx, hnx⟩ : ∃ nx, ptrO (blk (d + 1) (kq a (d + 1))) = nx := ⟨_, rfl⟩
          rw [hnx] at hc
          have HNX : Hid (ptrO (blk (d + 1) (kq a (d + 1))) = nx) := hnx
          clear hT hk hnx
          go_upto_region 4 with fail
          go_region_with (go_at_call 35; refine (hbt _).mono ?_; rintro e w' ⟨rfl, rfl⟩)
          all_goals
            go_wp2_with fail
            go_roundw
            case rel => exact ⟨d + 1, by omega, by go_num, HNX.out.symm, HBR.out.drew⟩
            case measure => simp [intOf]; omega
        · subst hi
          have hc := hT.step (by omega) HBK.out hk
          have hbt := fun W => bit_val W h0 h1 (show d < 32 by omega) hk
          obtain ⟨nx, hnx⟩ : ∃ nx, ptrO (blk (d + 1) (kq a (d + 1))) = nx := ⟨_, rfl⟩
          rw [hnx] at hc
          have HNX : Hid (ptrO (blk (d + 1) (kq a (d + 1))) = nx) := hnx
          clear hT hk hnx
          go_upto_region 4 with fail
          go_region_with (go_at_call 35; refine (hbt _).mono ?_; rintro e w' ⟨rfl, rfl⟩)
          all_goals
            go_wp2_with fail
            go_roundw
            case rel => exact ⟨d + 1, by omega, by go_num, HNX.out.symm, HBR.out.drew⟩
            case measure => simp [intOf]; omega
      · have hdl' : d = l := by omega
        subst hdl'
        have i1 : ¬ (d : Int) < (d : Int) := by omega
        go_wp2_with fail
        go_ret
        exact ⟨by rw [HBK.out]; rfl, HBW.out⟩
end Go.Proofs.YtdpnmhfhjcebbaaDoor
