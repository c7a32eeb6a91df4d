/- A part of what the law SyncBack of package portlaw2 returns: true, where the conditions of the theorem hold. -/
import Derived.Test.YtbncegjnjlokmaaDoorSynB0
namespace Go.Proofs.YtbncegjnjlokmaaDoor
open Go.RowKit
set_option linter.unusedVariables false

set_option maxRecDepth 100000 in
set_option maxHeartbeats 16000000 in
theorem sb_in_no (n : Nt) (v : Value) (zs : List Int) (cut : Int) (w : World) (hv : Bytes w v zs) (hcap : zs.length ≤ 140737488351232) (hE : ErrLaid w) (hL : Lives w) (hNO : NoteOfSays) (hn : ntE n = 0) (hc0 : 0 ≤ cut) (hc1 : cut < ((encN n).length : Int)) (hr : ¬ (readR zs).1 = 0) :
    Calls Tryd.prog 4 #[ntV n, v, .int .i64 cut] w fun e w' => e = .returned (.bool true) ∧ Below w.heap.size w w' := by
  have n1 := NtAt.new w n
  have b1 : Below w.heap.size w (w.alloc (.cells #[.int .i64 n.what, .int .i64 n.seq, .int .i64 n.fl.key.kind, .int .i64 n.fl.key.src, .int .i64 n.fl.key.frm, .int .i64 n.fl.key.dst, .int .i64 n.fl.key.too, .int .i64 n.fl.st, .int .i64 n.fl.unt, .int .i64 n.fl.stp, .int .i64 n.fl.h0, .int .i64 n.fl.h1, .int .i64 n.fl.w0, .int .i64 n.fl.w1, .bool n.fl.d0, .bool n.fl.d1, .int .i64 n.fl.num] 29)) := (Below.refl _ _).alloc (Nat.le_refl _) _
  obtain ⟨W1, hW1⟩ : ∃ W1, w.alloc (.cells #[.int .i64 n.what, .int .i64 n.seq, .int .i64 n.fl.key.kind, .int .i64 n.fl.key.src, .int .i64 n.fl.key.frm, .int .i64 n.fl.key.dst, .int .i64 n.fl.key.too, .int .i64 n.fl.st, .int .i64 n.fl.unt, .int .i64 n.fl.stp, .int .i64 n.fl.h0, .int .i64 n.fl.h1, .int .i64 n.fl.w0, .int .i64 n.fl.w1, .bool n.fl.d0, .bool n.fl.d1, .int .i64 n.fl.num] 29) = W1 := ⟨_, rfl⟩
  rw [hW1] at n1 b1
  have cF := encode_any factN W1 (hL.below b1)
  rw [fact_ok, if_pos rfl, errV_0, fact_enc] at cF
  unfold ntV factN zeroF zeroY at cF
  simp only at cF
  have cA : Hid (∀ m W, Below w.heap.size w W → Calls Tryd.prog 9 #[ntV m] W fun e w' => ∃ u, e = .returned (.tuple #[u, errV (ntE m)]) ∧ OwnB w' W.heap.size u (if ntE m = 0 then encN m else []) ∧ Below W.heap.size W w') := fun m W hW => encode_any m W (hL.below hW)
  have cR : Hid (∀ u ys W, Below w.heap.size w W → Bytes W u ys → Calls Tryd.prog 12 #[u] W fun e w' => e = .returned (.tuple #[ntV (readR ys).2.1, .int .i64 ((readR ys).2.2 : Nat), errV (readR ys).1]) ∧ Below W.heap.size W w') := fun u ys W hW hB => nread_any u ys W hB (hL.below hW) hNO
  have cT : Hid (∀ W, Below w.heap.size w W → Calls Tryd.prog 10 #[.iface 70 (.int .i64 8), .int .i64 8] W fun e w' => e = .returned (.bool ((8 : Int) == 8)) ∧ Below W.heap.size W w') := fun W hW => error_val (k := 8) (.inr rfl) 8 W (hE.below hW)
  have HV : Hid (∀ W, Below w.heap.size w W → Bytes W v zs) := fun W hW => hv.below (Nat.le_refl _) hW
  clear hE hL hNO hv
  unfold ntV
  go_enter Tryd.func4, Tryd.ntmps4
  go_upto_region 1 with fail
  try rw [hW1]
  clear hW1
  go_upto_region 2 with (go_at_call 9; refine cF.mono ?_; rintro e w2 ⟨v2, rfl, own2, b2⟩)
  have b2' := b1.trans (b2.mono b1.size)
  have n2 := n1.below n1.lt b2
  obtain ⟨g2, c2, rfl, _, _, _, _⟩ := own2.shape (by simp)
  have k0 := own2.cell rfl 0 (by simp)
  have k1 := own2.cell rfl 1 (by simp)
  simp only [List.getD_cons_zero, List.getD_cons_succ] at k0 k1
  clear cF n1 b1 own2 b2
  have cN := cA.out n w2 b2'
  unfold ntV at cN
  rw [hn, if_pos rfl, errV_0] at cN
  have hpos := enc_pos hn
  have h160 := enc_len n
  have HRE : Hid (∀ ys, readR (encN n ++ ys) = (0, n, (encN n).length)) := fun ys => read_enc hn ys
  have HRC : Hid (∀ k, k < (encN n).length → readR ((encN n).take k) = (8, zeroN, 0)) := fun k hk => read_cut hn k hk
  clear hn
  go_upto_region 6 with (first | (refine wpList_load_nt rfl (.tmp 3) rfl _ _ rfl n2 ?_) | (go_at_call 9; refine cN.mono ?_; rintro e w3 ⟨v3, rfl, own3, b3⟩))
  have n3 := n2.below n2.lt b3
  have b3' := b2'.trans (b3.mono b2'.size)
  have hge2 : w.heap.size ≤ w2.heap.size := b2'.size
  obtain ⟨g3, c3, rfl, hg3, hgl3, hl3, hm3⟩ := own3.shape hpos
  have hg3' : w.heap.size < g3 := Nat.lt_of_lt_of_le n2.lt hg3
  have own3 := own3.lower hge2
  clear cN n2 b2' b3 k0 k1
  obtain ⟨lx, Hlx⟩ : ∃ lx, (encN n).length = lx := ⟨_, rfl⟩
  have HLX := hidX Hlx
  rw [Hlx] at hl3 hpos h160
  have own3 := hidX own3
  rw [Hlx]
  clear Hlx
  have hc1' : cut < (lx : Int) := by rw [← HLX.out]; exact hc1
  clear hc1
  obtain ⟨k, rfl⟩ := Int.eq_ofNat_of_zero_le hc0
  have hkl : k < lx := by omega
  have cC := cR.out _ _ w3 b3' (view_own own3.out k (by rw [HLX.out]; omega) (by rw [HLX.out]; omega))
  rw [HRC.out k (by rw [HLX.out]; exact hkl)] at cC
  simp only [errV_ne (show ¬ (8 : Int) = 0 by decide)] at cC
  unfold ntV zeroN zeroF zeroY at cC
  simp only at cC
  have hk1 : (k : Int) ≤ (c3 : Int) := by omega
  go_upto_region 8 with (first | (go_at_call 12; refine cC.mono ?_; rintro e w4 ⟨rfl, b4⟩) | (refine wpList_store_nt rfl rfl (.tmp 11) (.tmp 66) rfl _ _ zeroN rfl rfl (NtAt.zero _) ?_; intro W4 n4 o4))
  have b4' := b3'.trans (b4.mono b3'.size)
  have b4z := b4'.alloc b4'.size (.cells #[.int .i64 0, .int .i64 0, .int .i64 0, .int .i64 0, .int .i64 0, .int .i64 0, .int .i64 0, .int .i64 0, .int .i64 0, .int .i64 0, .int .i64 0, .int .i64 0, .int .i64 0, .int .i64 0, .bool false, .bool false, .int .i64 0] 29)
  have b5a := o4.below b4'.size b4z
  have b34 : Below w3.heap.size w3 W4 := o4.below b4.size (b4.alloc b4.size _)
  have cE := cT.out W4 b5a
  go_upto_region 12 with (go_at_call 10; refine cE.mono ?_; rintro e w5 ⟨rfl, b5c⟩)
  have b5 := b5a.trans (b5c.mono b5a.size)
  have b35 := b34.trans (b5c.mono b34.size)
  have n5 := n3.below n3.lt b35
  have HO5 := hidX (own3.out.stay (Nat.le_refl _) b35)
  have HG3 : Hid (w.heap.size < g3) := hg3'
  clear b5a b5c b4 b4' b4z b34 b35 n3 n4 o4 cE cC own3 b3'

  have hv5 := HV.out w5 b5
  have own5 := HO5.out
  rw [HLX.out] at own5
  go_upto_region 13 with (at_builtin; refine wpList_append_bytes rfl (.tmp 75) (.tmp 76) rfl w.heap.size _ (encN n) rfl own5 v zs rfl hv5 (by rw [HLX.out]; omega) b5.size ?_; intro v6 w6 own6 gr6)
  have b6 : Below w.heap.size w w6 := b5.grown gr6 b5.size own5.block_ge
  have n6 : NtAt w6 w.heap.size n := by
    unfold NtAt
    rw [gr6.block w.heap.size n5.lt (fun e => by cases e; exact Nat.lt_irrefl _ HG3.out)]
    exact n5
  have cX := cR.out v6 _ w6 b6 (own6.bytes (by rw [List.length_append, HLX.out]; omega))
  rw [HRE.out zs] at cX
  simp only [errV_0, HLX.out] at cX
  unfold ntV at cX
  clear own5 hv5 HO5 n5 b5 gr6 own6 HRE HRC cT
  have hne := Tryd.ntNeq n
  have hgd := Tryd.ntGuard
  go_upto_region 14 with (first | (go_at_call 12; refine cX.mono ?_; rintro e w7 ⟨rfl, b7⟩) | (refine wpList_store_nt rfl rfl (.tmp 16) (.tmp 81) rfl _ _ n rfl rfl (NtAt.zero _) ?_; intro W8 n8 o8))
  have b7' := b6.trans (b7.mono b6.size)
  have b7z := b7'.alloc b7'.size (.cells #[.int .i64 0, .int .i64 0, .int .i64 0, .int .i64 0, .int .i64 0, .int .i64 0, .int .i64 0, .int .i64 0, .int .i64 0, .int .i64 0, .int .i64 0, .int .i64 0, .int .i64 0, .int .i64 0, .bool false, .bool false, .int .i64 0] 29)
  have b8 := o8.below b7'.size b7z
  have n8' : NtAt W8 w.heap.size n := ((n6.below n6.lt b7).alloc _).only (by have := (n6.below n6.lt b7).lt; omega) o8
  clear n6 b6 b7 b7' b7z o8 cX
  go_upto_region 16 with (first | (refine wpList_load_ntg rfl (.tmp 16) rfl _ _ rfl n8 ?_) | (refine wpList_load_ntg rfl (.tmp 3) rfl _ _ rfl n8' ?_))
  obtain ⟨w9, hw9⟩ : ∃ w9, W8 = w9 := ⟨_, rfl⟩
  rw [hw9] at b8 ⊢
  have b9 := b8
  clear hw9 n8' n8 b8
  have cY := cR.out v zs w9 b9 (HV.out w9 b9)
  rw [errV_ne hr] at cY
  generalize (readR zs).1 = zr at cY
  generalize (readR zs).2.1 = m at cY
  generalize (readR zs).2.2 = u at cY
  unfold ntV at cY
  clear hr cR HV cA
  go_wp2_with (first | (go_at_call 12; refine cY.mono ?_; rintro e w10 ⟨rfl, b10⟩) | (refine wpList_store_nt rfl rfl (.tmp 19) (.tmp 99) rfl _ _ m rfl rfl (NtAt.zero _) ?_; intro W10 n10 o10))
  have b10' := b9.trans (b10.mono b9.size)
  have b10z := b10'.alloc b10'.size (.cells #[.int .i64 0, .int .i64 0, .int .i64 0, .int .i64 0, .int .i64 0, .int .i64 0, .int .i64 0, .int .i64 0, .int .i64 0, .int .i64 0, .int .i64 0, .int .i64 0, .int .i64 0, .int .i64 0, .bool false, .bool false, .int .i64 0] 29)
  have b11 := o10.below b10'.size b10z
  go_ret
  exact ⟨rfl, b11⟩
end Go.Proofs.YtbncegjnjlokmaaDoor
