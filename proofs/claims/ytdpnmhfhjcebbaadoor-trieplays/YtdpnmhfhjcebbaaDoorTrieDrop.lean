/- What Drop of package trie does to a trie. -/
import Derived.Test.YtdpnmhfhjcebbaaDoorTriePut2
import Derived.Test.YtdpnmhfhjcebbaaDoorTriePrune
namespace Go.Proofs.YtdpnmhfhjcebbaaDoor
open Go.RowKit
set_option linter.unusedVariables false
set_option maxRecDepth 4000

/-- What Drop leaves. -/
def Drops (F : Nat → Prop) (tb : Nat) (s : Tv) (a l : Int) (w : World) (e : Ending) (w' : World) : Prop :=
  e = .returned (.tuple #[.bool (dropV s a l).2.1, errT (dropV s a l).2.2]) ∧ TrieAt w' (Plus F w w') tb (dropV s a l).1 ∧ Turn F w w'
set_option maxHeartbeats 4000000 in
theorem drop_err (F : Nat → Prop) (tb : Nat) (s : Tv) (a l : Int) (w : World) (h : TrieAt w F tb s) (hF : ∀ k, F k → k < w.heap.size) (hp : ¬ prefE a l = 0) :
    Calls Tryd.prog 10 #[.pointer (some ⟨tb, 0, none⟩), .agg #[.int .i64 a, .int .i64 l]] w (Drops F tb s a l w) := by
  have hB : Below w.heap.size w (w.alloc (.cells #[.int .i64 a, .int .i64 l] 25)) := (Below.refl _ _).alloc (Nat.le_refl _) _
  have hck := check_bad a l (w.alloc (.cells #[.int .i64 a, .int .i64 l] 25)) hp
  have HZ : Hid (∀ w', Below w.heap.size w w' → Drops F tb s a l w (.returned (.tuple #[.bool false, .iface 64 (.int .i64 (prefE a l))])) w') := fun w' hb => by
    have e : dropV s a l = (s, false, prefE a l) := by unfold dropV; rw [if_pos hp]
    refine ⟨?_, ?_, Turn.of_below hb F⟩
    · rw [e]; unfold errT; rw [if_neg hp]
    · rw [e]; exact h.plus hF hb
  generalize prefE a l = n at hck HZ
  clear h hp
  go_enter Tryd.func10, Tryd.ntmps10
  go_wp2_with (go_at_call 23; refine hck.mono ?_; rintro e w1 ⟨rfl, b1⟩)
  go_ret2
  exact HZ.out w1 (hB.trans (b1.mono hB.size))
set_option maxHeartbeats 16000000 in
theorem drop_nil (F : Nat → Prop) (tb : Nat) (s : Tv) (a : Int) (n : Nat) (w : World) (h : TrieAt w F tb s) (hF : ∀ k, F k → k < w.heap.size) (hp : prefE a n = 0) (hu : s.f n (kq a n) = none) :
    Calls Tryd.prog 10 #[.pointer (some ⟨tb, 0, none⟩), .agg #[.int .i64 a, .int .i64 (n : Int)]] w (Drops F tb s a n w) := by
  have HU : Hid (s.f n (kq a n) = none) := hu
  have HTA : Hid (TrieAt w F tb s) := h
  clear hu
  obtain ⟨hA, hL, _⟩ := prefE_zero hp
  obtain ⟨h0, h1⟩ := hA
  have hn32 : n ≤ 32 := by omega
  have hB : Below w.heap.size w (w.alloc (.cells #[.int .i64 a, .int .i64 (n : Int)] 25)) := (Below.refl _ _).alloc (Nat.le_refl _) _
  have hck := check_ok a n (w.alloc (.cells #[.int .i64 a, .int .i64 (n : Int)] 25)) hp
  have hpa := PairAt.new w a n 25
  obtain ⟨hOk, hM, blk, hT⟩ := h
  have HOk : Hid (OkV s) := hOk
  have HT : Hid (TrIn w F tb blk s) := hT
  have HF : Hid (∀ k, F k → k < w.heap.size) := hF
  have HP : Hid (prefE a n = 0) := hp
  clear hp hL hOk hT hF
  go_enter Tryd.func10, Tryd.ntmps10
  go_upto_region 4 with (go_at_call 23; refine hck.mono ?_; rintro e w2 ⟨rfl, b2⟩)
  have hb2 : Below w.heap.size w w2 := hB.trans (b2.mono hB.size)
  have hpb : PairAt w2 w.heap.size a n := hpa.below hpa.lt b2
  obtain ⟨p0, p1, _, _⟩ := id hpb
  have hT2 := HT.out.below HF.out hb2
  have hfd := find_raw a n tb F blk s w2.drew h0 h1 hn32 (hT2.keep (w' := w2.drew) (fun _ _ => rfl)) (fun k hk => by show k < w2.heap.size; have := HF.out k hk; have := hb2.size; omega)
  have HB2 : Hid (Below w.heap.size w w2) := hb2
  have HPB : Hid (PairAt w2 w.heap.size a n) := hpb
  obtain ⟨fv, hfv⟩ : ∃ fv, ptrO (blk n (kq a n)) = fv := ⟨_, rfl⟩
  rw [hfv] at hfd
  have HFV : Hid (ptrO (blk n (kq a n)) = fv) := hfv
  clear hfv
  clear hck hpa hb2 hpb hT2 hB b2
  go_region_with (go_at_call 24; refine hfd.mono ?_; rintro e w3 ⟨rfl, b3⟩; have b3 := drew_below b3)
  have hb3 : Below w.heap.size w w3 := HB2.out.trans (b3.mono HB2.out.size)
  have hT3 := HT.out.below HF.out hb3
  have HT3 : Hid (TrIn w3 F tb blk s) := hT3
  have HB3 : Hid (Below w.heap.size w w3) := hb3
  have HPB3 : Hid (PairAt w3 w.heap.size a n) := HPB.out.below HPB.out.lt b3
  have HZ : Hid (Drops F tb s a n w (.returned (.tuple #[.bool false, .nilIface])) w3) := by
    have e : dropV s a n = (s, false, 0) := by
      unfold dropV atV
      rw [if_neg (by rw [HP.out]; simp), Int.toNat_natCast, if_pos HU.out]
    unfold Drops
    rw [e]
    exact ⟨rfl, HTA.out.plus HF.out HB3.out, Turn.of_below HB3.out F⟩
  rcases hx : blk n (kq a n) with _ | b
  · have e := HFV.out
    rw [hx] at e
    unfold ptrO at e
    subst e
    clear hx hT3
    go_wp2_with fail
    go_ret2
    exact HZ.out
  · have e := HFV.out
    rw [hx] at e
    unfold ptrO at e
    have n2 := (hT3.node _ _ b hx).c2
    rw [HU.out] at n2
    simp only [Option.isSome_none] at n2
    subst e
    clear hx hT3
    go_wp2_with fail
    go_ret2
    exact HZ.out
set_option maxHeartbeats 16000000 in
theorem drop_old (F : Nat → Prop) (tb : Nat) (s : Tv) (a u : Int) (n : Nat) (w : World) (h : TrieAt w F tb s) (hF : ∀ k, F k → k < w.heap.size) (hp : prefE a n = 0) (hu : s.f n (kq a n) = some u) :
    Calls Tryd.prog 10 #[.pointer (some ⟨tb, 0, none⟩), .agg #[.int .i64 a, .int .i64 (n : Int)]] w (Drops F tb s a n w) := by
  have HU : Hid (s.f n (kq a n) = some u) := hu
  have hm0 : 0 ≤ s.many := by have := h.1.many; omega
  clear hu
  obtain ⟨hA, hL, _⟩ := prefE_zero hp
  obtain ⟨h0, h1⟩ := hA
  have hn32 : n ≤ 32 := by omega
  have hB : Below w.heap.size w (w.alloc (.cells #[.int .i64 a, .int .i64 (n : Int)] 25)) := (Below.refl _ _).alloc (Nat.le_refl _) _
  have hck := check_ok a n (w.alloc (.cells #[.int .i64 a, .int .i64 (n : Int)] 25)) hp
  have hpa := PairAt.new w a n 25
  obtain ⟨hOk, hM, blk, hT⟩ := h
  have HOk : Hid (OkV s) := hOk
  have HT : Hid (TrIn w F tb blk s) := hT
  have HF : Hid (∀ k, F k → k < w.heap.size) := hF
  have HP : Hid (prefE a n = 0) := hp
  clear hp hL hOk hT hF
  go_enter Tryd.func10, Tryd.ntmps10
  go_upto_region 4 with (go_at_call 23; refine hck.mono ?_; rintro e w2 ⟨rfl, b2⟩)
  have hb2 : Below w.heap.size w w2 := hB.trans (b2.mono hB.size)
  have hpb : PairAt w2 w.heap.size a n := hpa.below hpa.lt b2
  obtain ⟨p0, p1, _, _⟩ := id hpb
  have hT2 := HT.out.below HF.out hb2
  have hfd := find_raw a n tb F blk s w2.drew h0 h1 hn32 (hT2.keep (w' := w2.drew) (fun _ _ => rfl)) (fun k hk => by show k < w2.heap.size; have := HF.out k hk; have := hb2.size; omega)
  have HB2 : Hid (Below w.heap.size w w2) := hb2
  have HPB : Hid (PairAt w2 w.heap.size a n) := hpb
  obtain ⟨b, hb⟩ := HT.out.has n _ (by rw [HU.out]; simp)
  rw [hb] at hfd
  unfold ptrO at hfd
  have HBb : Hid (blk n (kq a n) = some b) := hb
  clear hb
  clear hck hpa hb2 hpb hT2 hB b2
  go_region_with (go_at_call 24; refine hfd.mono ?_; rintro e w3 ⟨rfl, b3⟩; have b3 := drew_below b3)
  have hb3 : Below w.heap.size w w3 := HB2.out.trans (b3.mono HB2.out.size)
  have hT3 := HT.out.below HF.out hb3
  have HT3 : Hid (TrIn w3 F tb blk s) := hT3
  have HB3 : Hid (Below w.heap.size w w3) := hb3
  have HPB3 : Hid (PairAt w3 w.heap.size a n) := HPB.out.below HPB.out.lt b3
  obtain ⟨n2, f2, n3, f3⟩ := hT3.stores HBb.out none false
  rw [HU.out] at n2 n3
  simp only [Option.isSome_some, Option.getD_some] at n2 n3
  have hst := hT3.setV HBb.out none
  simp only [Option.isSome_none, Option.getD_none] at hst
  have on4 : Only b w3 ((w3.setCell ⟨b, 2, none⟩ (.bool false)).setCell ⟨b, 3, none⟩ (.int .i64 0)) := ((Only.refl _ _).setCell 2 _).setCell 3 _
  have hFb := hT3.own _ _ b HBb.out
  obtain ⟨M, hMe⟩ : ∃ M, s.many = M := ⟨_, rfl⟩
  have HME : Hid (s.many = M) := hMe
  rw [hMe] at hm0 hM
  clear hT3 hb3 b3 hMe
  go_upto_region 8 with fail
  obtain ⟨w4, hw4⟩ : ∃ w4, (w3.setCell ⟨b, 2, none⟩ (.bool false)).setCell ⟨b, 3, none⟩ (.int .i64 0) = w4 := ⟨_, rfl⟩
  rw [hw4] at hst on4 ⊢
  have c4 := hst.many
  simp only [HME.out] at c4
  have f4 := (hst.node _ _ tb hst.root).free 4
  have HST : Hid (TrIn w4 F tb blk ⟨setV s.f n (kq a n) none, s.many⟩) := hst
  have HON : Hid (Only b w3 w4) := on4
  have HFb : Hid (F b) := hFb
  clear hst on4 hw4 n2 n3 f2 f3 hFb
  go_upto_region 9 with fail
  have hT5 := HST.out.setM (M - 1)
  have on5 : Only tb w4 (w4.setCell ⟨tb, 4, none⟩ (.int .i64 (M - 1))) := (Only.refl _ _).setCell 4 _
  obtain ⟨w5, hw5⟩ : ∃ w5, w4.setCell ⟨tb, 4, none⟩ (.int .i64 (M - 1)) = w5 := ⟨_, rfl⟩
  rw [hw5] at hT5 on5 ⊢
  simp only at hT5
  have hFt : F tb := hT5.own _ _ tb hT5.root
  have hp5 : PairAt w5 w.heap.size a n := (HPB3.out.keepB (HON.out.block _ (fun e => by have := HF.out b HFb.out; omega))).keepB (on5.block _ (fun e => by have := HF.out tb hFt; omega))
  obtain ⟨p0, p1, _, _⟩ := id hp5
  have hsz5 : w5.heap.size = w3.heap.size := by rw [on5.size, HON.out.size]
  have hpr := prune_raw a n tb F ⟨setV s.f n (kq a n) none, M - 1⟩ h0 h1 hn32 n 0 (by omega) blk w5.drew tb (hT5.keep (w' := w5.drew) (fun _ _ => rfl)) (fun k hk => by show k < w5.heap.size; rw [hsz5]; have := HF.out k hk; have := HB3.out.size; omega) (by rw [kq_zero h0 h1]; exact hT5.root) ⟨b, HBb.out⟩
  rw [show ((0 : Nat) : Int) = 0 from rfl] at hpr
  have HTU5 : Hid (Turn F w w5) := ((Turn.of_below HB3.out F).trans (Turn.of_only HON.out HFb.out)).trans (Turn.of_only on5 hFt)
  clear hT5 on5 hw5 hp5 c4 f4 hFt hsz5
  go_region_with (go_at_call 28; refine hpr.mono ?_; rintro e w6 ⟨rfl, blk6, hT6, _, hTu6⟩)
  have HZ : Hid (Drops F tb s a n w (.returned (.tuple #[.bool true, .nilIface])) w6) := by
    have e : dropV s a n = (⟨setV s.f n (kq a n) none, s.many - 1⟩, true, 0) := by
      unfold dropV atV
      rw [if_neg (by rw [HP.out]; simp), Int.toNat_natCast, if_neg (by rw [HU.out]; simp)]
    unfold Drops
    rw [e]
    refine ⟨rfl, ⟨?_, ?_, blk6, ?_⟩, HTU5.out.trans (Turn.drewN' hTu6)⟩
    · have := HOk.out.drop a n
      rw [e] at this; exact this
    · show s.many - 1 ≤ 200; rw [HME.out]; omega
    · simp only [HME.out]
      exact hT6.mono (fun k hk => .inl hk)
  clear hT6 hTu6 hpr
  go_wp2_with fail
  go_ret2
  exact HZ.out
theorem drop_any (F : Nat → Prop) (tb : Nat) (s : Tv) (a l : Int) (w : World) (h : TrieAt w F tb s) (hF : ∀ k, F k → k < w.heap.size) :
    Calls Tryd.prog 10 #[.pointer (some ⟨tb, 0, none⟩), .agg #[.int .i64 a, .int .i64 l]] w (Drops F tb s a l w) := by
  by_cases hp : prefE a l = 0
  · obtain ⟨n, rfl, _⟩ := prefE_nat hp
    rcases hu : s.f n (kq a n) with _ | u
    · exact drop_nil F tb s a n w h hF hp hu
    · exact drop_old F tb s a u n w h hF hp hu
  · exact drop_err F tb s a l w h hF hp
end Go.Proofs.YtdpnmhfhjcebbaaDoor
