/- What Put of package trie does with a prefix that is one. -/
import Derived.Test.YtdpnmhfhjcebbaaDoorTriePut
namespace Go.Proofs.YtdpnmhfhjcebbaaDoor
open Go.RowKit
set_option linter.unusedVariables false
set_option maxRecDepth 4000

theorem drew_below {w w' : World} (h : Below w.drew.heap.size w.drew w') : Below w.heap.size w w' := ⟨h.os, h.tape, h.output, h.size, h.block⟩
/-- A value is stored at a node. -/
theorem TrIn.stores {w : World} {F : Nat → Prop} {tb : Nat} {blk : Bk} {s : Tv} (h : TrIn w F tb blk s) {d q b : Nat} (hb : blk d q = some b) (o : Option Int) (x : Bool) :
    w.cell? ⟨b, 2, none⟩ = some (.bool (s.f d q).isSome) ∧ w.frozen? ⟨b, 2, none⟩ = false ∧ (w.setCell ⟨b, 2, none⟩ (.bool x)).cell? ⟨b, 3, none⟩ = some (.int .i64 ((s.f d q).getD 0)) ∧ (w.setCell ⟨b, 2, none⟩ (.bool x)).frozen? ⟨b, 3, none⟩ = false := by
  have hn := h.node d q b hb
  refine ⟨hn.c2, hn.free 2, ?_, ?_⟩
  · rw [World.cell?_setCell_other w _ _ _ (by simp)]; exact hn.c3
  · rw [frozen_setCell]; exact hn.free 3
theorem turn_stores {w : World} {F : Nat → Prop} {b : Nat} (hF : F b) (u v : Value) : Turn F w ((w.setCell ⟨b, 2, none⟩ u).setCell ⟨b, 3, none⟩ v) :=
  Turn.of_only (((Only.refl _ _).setCell 2 _).setCell 3 _) hF
set_option maxHeartbeats 16000000 in
theorem put_old (F : Nat → Prop) (tb : Nat) (s : Tv) (a v u : Int) (n : Nat) (w : World) (h : TrieAt w F tb s) (hF : ∀ k, F k → k < w.heap.size) (hp : prefE a n = 0) (hu : s.f n (kq a n) = some u) :
    Calls Tryd.prog 6 #[.pointer (some ⟨tb, 0, none⟩), .agg #[.int .i64 a, .int .i64 (n : Int)], .int .i64 v] w (Puts F tb s a n v w) := by
  have HU : Hid (s.f n (kq a n) = some u) := hu
  have HM : Hid (s.many ≤ 200) := h.2.1
  clear hu
  obtain ⟨hA, hL, _⟩ := prefE_zero hp
  obtain ⟨h0, h1⟩ := hA
  have hn32 : n ≤ 32 := by omega
  have hB : Below w.heap.size w (w.alloc (.cells #[.int .i64 a, .int .i64 (n : Int)] 25)) := (Below.refl _ _).alloc (Nat.le_refl _) _
  have hck := check_ok a n (w.alloc (.cells #[.int .i64 a, .int .i64 (n : Int)] 25)) hp
  have hpa := PairAt.new w a n 25
  obtain ⟨hOk, hM, blk, hT⟩ := h
  have HOk : Hid (OkV s) := hOk
  have HT : Hid (TrIn w F tb blk s) := hT
  have HF : Hid (∀ k, F k → k < w.heap.size) := hF
  have HP : Hid (prefE a n = 0) := hp
  clear hp hL hOk hT hF
  go_enter Tryd.func6, Tryd.ntmps6
  go_upto_region 4 with (go_at_call 23; refine hck.mono ?_; rintro e w2 ⟨rfl, b2⟩)
  have hb2 : Below w.heap.size w w2 := hB.trans (b2.mono hB.size)
  have hpb : PairAt w2 w.heap.size a n := hpa.below hpa.lt b2
  obtain ⟨p0, p1, _, _⟩ := id hpb
  have hT2 := HT.out.below HF.out hb2
  have hfd := find_raw a n tb F blk s w2.drew h0 h1 hn32 (hT2.keep (w' := w2.drew) (fun _ _ => rfl)) (fun k hk => by show k < w2.heap.size; have := HF.out k hk; have := hb2.size; omega)
  have HB2 : Hid (Below w.heap.size w w2) := hb2
  have HPB : Hid (PairAt w2 w.heap.size a n) := hpb
  obtain ⟨b, hb⟩ := HT.out.has n _ (by rw [HU.out]; simp)
  rw [hb] at hfd
  unfold ptrO at hfd
  have HBb : Hid (blk n (kq a n) = some b) := hb
  clear hb
  clear hck hpa hb2 hpb hT2 hB b2
  go_region_with (go_at_call 24; refine hfd.mono ?_; rintro e w3 ⟨rfl, b3⟩; have b3 := drew_below b3)
  have hb3 : Below w.heap.size w w3 := HB2.out.trans (b3.mono HB2.out.size)
  have hT3 := HT.out.below HF.out hb3
  have HT3 : Hid (TrIn w3 F tb blk s) := hT3
  have HB3 : Hid (Below w.heap.size w w3) := hb3
  have HPB3 : Hid (PairAt w3 w.heap.size a n) := HPB.out.below HPB.out.lt b3
  obtain ⟨n2, f2, n3, f3⟩ := hT3.stores HBb.out (some v) true
  rw [HU.out] at n2 n3
  simp only [Option.isSome_some, Option.getD_some] at n2 n3
  have hst := hT3.setV HBb.out (some v)
  simp only [Option.isSome_some, Option.getD_some] at hst
  have htu := (Turn.of_below hb3 F).trans (turn_stores (w := w3) (F := F) (b := b) (hT3.own _ _ b HBb.out) (.bool true) (.int .i64 v))
  have HZ : Hid (Puts F tb s a n v w (.returned (.tuple #[.bool false, .nilIface])) ((w3.setCell ⟨b, 2, none⟩ (.bool true)).setCell ⟨b, 3, none⟩ (.int .i64 v))) := by
    have e : putV s a n v = (⟨setV s.f n (kq a n) (some v), s.many⟩, false, 0) := by
      unfold putV atV
      rw [if_neg (by rw [HP.out]; simp), Int.toNat_natCast, if_neg (by rw [HU.out]; simp)]
    unfold Puts
    rw [e]
    refine ⟨rfl, ⟨?_, HM.out, blk, hst.mono (fun k hk => .inl hk)⟩, htu⟩
    have := HOk.out.put a n v
    rw [e] at this; exact this
  clear hst htu hT3 hb3 b3
  go_wp2_with fail
  go_ret2
  exact HZ.out
set_option maxHeartbeats 16000000 in
theorem put_full (F : Nat → Prop) (tb : Nat) (s : Tv) (a v : Int) (n : Nat) (w : World) (h : TrieAt w F tb s) (hF : ∀ k, F k → k < w.heap.size) (hp : prefE a n = 0) (hu : s.f n (kq a n) = none) (hfull : 200 ≤ s.many) :
    Calls Tryd.prog 6 #[.pointer (some ⟨tb, 0, none⟩), .agg #[.int .i64 a, .int .i64 (n : Int)], .int .i64 v] w (Puts F tb s a n v w) := by
  have HU : Hid (s.f n (kq a n) = none) := hu
  have HTA : Hid (TrieAt w F tb s) := h
  clear hu
  obtain ⟨hA, hL, _⟩ := prefE_zero hp
  obtain ⟨h0, h1⟩ := hA
  have hn32 : n ≤ 32 := by omega
  have hB : Below w.heap.size w (w.alloc (.cells #[.int .i64 a, .int .i64 (n : Int)] 25)) := (Below.refl _ _).alloc (Nat.le_refl _) _
  have hck := check_ok a n (w.alloc (.cells #[.int .i64 a, .int .i64 (n : Int)] 25)) hp
  have hpa := PairAt.new w a n 25
  obtain ⟨hOk, hM, blk, hT⟩ := h
  have HOk : Hid (OkV s) := hOk
  have HT : Hid (TrIn w F tb blk s) := hT
  have HF : Hid (∀ k, F k → k < w.heap.size) := hF
  have HP : Hid (prefE a n = 0) := hp
  clear hp hL hOk hT hF
  go_enter Tryd.func6, Tryd.ntmps6
  go_upto_region 4 with (go_at_call 23; refine hck.mono ?_; rintro e w2 ⟨rfl, b2⟩)
  have hb2 : Below w.heap.size w w2 := hB.trans (b2.mono hB.size)
  have hpb : PairAt w2 w.heap.size a n := hpa.below hpa.lt b2
  obtain ⟨p0, p1, _, _⟩ := id hpb
  have hT2 := HT.out.below HF.out hb2
  have hfd := find_raw a n tb F blk s w2.drew h0 h1 hn32 (hT2.keep (w' := w2.drew) (fun _ _ => rfl)) (fun k hk => by show k < w2.heap.size; have := HF.out k hk; have := hb2.size; omega)
  have HB2 : Hid (Below w.heap.size w w2) := hb2
  have HPB : Hid (PairAt w2 w.heap.size a n) := hpb
  obtain ⟨fv, hfv⟩ : ∃ fv, ptrO (blk n (kq a n)) = fv := ⟨_, rfl⟩
  rw [hfv] at hfd
  have HFV : Hid (ptrO (blk n (kq a n)) = fv) := hfv
  clear hfv
  clear hck hpa hb2 hpb hT2 hB b2
  go_region_with (go_at_call 24; refine hfd.mono ?_; rintro e w3 ⟨rfl, b3⟩; have b3 := drew_below b3)
  have hb3 : Below w.heap.size w w3 := HB2.out.trans (b3.mono HB2.out.size)
  have hT3 := HT.out.below HF.out hb3
  have HT3 : Hid (TrIn w3 F tb blk s) := hT3
  have HB3 : Hid (Below w.heap.size w w3) := hb3
  have HPB3 : Hid (PairAt w3 w.heap.size a n) := HPB.out.below HPB.out.lt b3
  simp only [List.getElem_toArray, List.getElem_cons_succ, List.getElem_cons_zero, Act.put, List.setIfInBounds_toArray, List.set_cons_zero, List.set_cons_succ]
  go_upto_region 5 with fail
  go_cut [10] (fun x ww => x = .bool true ∧ ww = w3)
  case first =>
    as_aux_lemma =>
      rcases hx : blk n (kq a n) with _ | b
      · have e := HFV.out
        rw [hx] at e
        unfold ptrO at e
        subst e
        clear hx hT3
        go_wp2_with fail
        go_meet
        case rel => exact ⟨rfl, rfl⟩
      · have e := HFV.out
        rw [hx] at e
        unfold ptrO at e
        have n2 := (hT3.node _ _ b hx).c2
        rw [HU.out] at n2
        simp only [Option.isSome_none] at n2
        subst e
        clear hx hT3
        go_wp2_with fail
        go_meet
        case rel => exact ⟨rfl, rfl⟩
  case rest =>
    obtain ⟨hx, hy⟩ := hcut
    subst hx hy
    have c4 := HT3.out.many
    have f4 := (HT3.out.node _ _ tb HT3.out.root).free 4
    clear hT3
    have HZ : Hid (Puts F tb s a n v w (.returned (.tuple #[.bool false, .iface 64 (.int .i64 4)])) wc) := by
      have e : putV s a n v = (s, false, 4) := by
        unfold putV atV
        rw [if_neg (by rw [HP.out]; simp), Int.toNat_natCast, if_pos HU.out, if_pos hfull]
      unfold Puts
      rw [e]
      exact ⟨rfl, HTA.out.plus HF.out HB3.out, Turn.of_below HB3.out F⟩
    go_wp2_with fail
    go_ret2
    exact HZ.out
set_option maxHeartbeats 16000000 in
theorem put_new (F : Nat → Prop) (tb : Nat) (s : Tv) (a v : Int) (n : Nat) (w : World) (h : TrieAt w F tb s) (hF : ∀ k, F k → k < w.heap.size) (hp : prefE a n = 0) (hu : s.f n (kq a n) = none) (hroom : ¬ 200 ≤ s.many) :
    Calls Tryd.prog 6 #[.pointer (some ⟨tb, 0, none⟩), .agg #[.int .i64 a, .int .i64 (n : Int)], .int .i64 v] w (Puts F tb s a n v w) := by
  have HU : Hid (s.f n (kq a n) = none) := hu
  have hm0 : 0 ≤ s.many := by have := h.1.many; omega
  clear hu
  obtain ⟨hA, hL, _⟩ := prefE_zero hp
  obtain ⟨h0, h1⟩ := hA
  have hn32 : n ≤ 32 := by omega
  have hB : Below w.heap.size w (w.alloc (.cells #[.int .i64 a, .int .i64 (n : Int)] 25)) := (Below.refl _ _).alloc (Nat.le_refl _) _
  have hck := check_ok a n (w.alloc (.cells #[.int .i64 a, .int .i64 (n : Int)] 25)) hp
  have hpa := PairAt.new w a n 25
  obtain ⟨hOk, hM, blk, hT⟩ := h
  have HOk : Hid (OkV s) := hOk
  have HT : Hid (TrIn w F tb blk s) := hT
  have HF : Hid (∀ k, F k → k < w.heap.size) := hF
  have HP : Hid (prefE a n = 0) := hp
  clear hp hL hOk hT hF
  go_enter Tryd.func6, Tryd.ntmps6
  go_upto_region 4 with (go_at_call 23; refine hck.mono ?_; rintro e w2 ⟨rfl, b2⟩)
  have hb2 : Below w.heap.size w w2 := hB.trans (b2.mono hB.size)
  have hpb : PairAt w2 w.heap.size a n := hpa.below hpa.lt b2
  obtain ⟨p0, p1, _, _⟩ := id hpb
  have hT2 := HT.out.below HF.out hb2
  have hfd := find_raw a n tb F blk s w2.drew h0 h1 hn32 (hT2.keep (w' := w2.drew) (fun _ _ => rfl)) (fun k hk => by show k < w2.heap.size; have := HF.out k hk; have := hb2.size; omega)
  have HB2 : Hid (Below w.heap.size w w2) := hb2
  have HPB : Hid (PairAt w2 w.heap.size a n) := hpb
  obtain ⟨fv, hfv⟩ : ∃ fv, ptrO (blk n (kq a n)) = fv := ⟨_, rfl⟩
  rw [hfv] at hfd
  have HFV : Hid (ptrO (blk n (kq a n)) = fv) := hfv
  clear hfv
  clear hck hpa hb2 hpb hT2 hB b2
  go_region_with (go_at_call 24; refine hfd.mono ?_; rintro e w3 ⟨rfl, b3⟩; have b3 := drew_below b3)
  have hb3 : Below w.heap.size w w3 := HB2.out.trans (b3.mono HB2.out.size)
  have hT3 := HT.out.below HF.out hb3
  have HT3 : Hid (TrIn w3 F tb blk s) := hT3
  have HB3 : Hid (Below w.heap.size w w3) := hb3
  have HPB3 : Hid (PairAt w3 w.heap.size a n) := HPB.out.below HPB.out.lt b3
  simp only [List.getElem_toArray, List.getElem_cons_succ, List.getElem_cons_zero, Act.put, List.setIfInBounds_toArray, List.set_cons_zero, List.set_cons_succ]
  go_upto_region 5 with fail
  go_cut [10] (fun x ww => x = .bool true ∧ ww = w3)
  case first =>
    as_aux_lemma =>
      rcases hx : blk n (kq a n) with _ | b
      · have e := HFV.out
        rw [hx] at e
        unfold ptrO at e
        subst e
        clear hx hT3
        go_wp2_with fail
        go_meet
        case rel => exact ⟨rfl, rfl⟩
      · have e := HFV.out
        rw [hx] at e
        unfold ptrO at e
        have n2 := (hT3.node _ _ b hx).c2
        rw [HU.out] at n2
        simp only [Option.isSome_none] at n2
        subst e
        clear hx hT3
        go_wp2_with fail
        go_meet
        case rel => exact ⟨rfl, rfl⟩
  case rest =>
    obtain ⟨hx, hy⟩ := hcut
    subst hx hy
    have c4 := HT3.out.many
    have f4 := (HT3.out.node _ _ tb HT3.out.root).free 4
    clear hT3
    have hgr := grow_raw a n tb F blk s wc.drew h0 h1 hn32 (HT3.out.keep (w' := wc.drew) (fun _ _ => rfl)) (fun k hk => by show k < wc.heap.size; have := HF.out k hk; have := HB3.out.size; omega)
    obtain ⟨p0, p1, _, _⟩ := id HPB3.out
    obtain ⟨M, hMe⟩ : ∃ M, s.many = M := ⟨_, rfl⟩
    rw [hMe] at c4 hroom hm0 hM
    have HME : Hid (s.many = M) := hMe
    clear hMe
    go_upto_region 9 with fail
    go_region_with (go_at_call 25; refine hgr.mono ?_; rintro e w4 ⟨blk4, b4, rfl, hbk4, hT4, hTu4⟩)
    have c44 := hT4.many
    rw [HME.out] at c44
    have f44 := (hT4.node _ _ tb hT4.root).free 4
    have HT4 : Hid (TrIn w4 (Plus F wc.drew w4) tb blk4 s) := hT4
    have HTU4 : Hid (Turn F wc.drew w4) := hTu4
    have HBK4 : Hid (blk4 n (kq a n) = some b4) := hbk4
    clear hgr hT4 hTu4 hbk4 c4 f4 p0 p1
    go_upto_region 11 with fail
    have hT5 := HT4.out.setM (M + 1)
    have on5 : Only tb w4 (w4.setCell ⟨tb, 4, none⟩ (.int .i64 (M + 1))) := (Only.refl _ _).setCell 4 _
    obtain ⟨w5, hw5⟩ : ∃ w5, w4.setCell ⟨tb, 4, none⟩ (.int .i64 (M + 1)) = w5 := ⟨_, rfl⟩
    rw [hw5] at hT5 on5 ⊢
    obtain ⟨n2, f2, n3, f3⟩ := hT5.stores HBK4.out (some v) true
    have hst := hT5.setV HBK4.out (some v)
    simp only [Option.isSome_some, Option.getD_some] at hst
    have htb : Plus F wc.drew w4 tb := HT4.out.own _ _ tb HT4.out.root
    have hbb : Plus F wc.drew w4 b4 := HT4.out.own _ _ b4 HBK4.out
    have HZ : Hid (Puts F tb s a n v w (.returned (.tuple #[.bool true, .nilIface])) ((w5.setCell ⟨b4, 2, none⟩ (.bool true)).setCell ⟨b4, 3, none⟩ (.int .i64 v))) := by
      have e : putV s a n v = (⟨setV s.f n (kq a n) (some v), s.many + 1⟩, true, 0) := by
        unfold putV atV
        rw [if_neg (by rw [HP.out]; simp), Int.toNat_natCast, if_pos HU.out, if_neg (by rw [HME.out]; omega)]
      have hsz : ((w5.setCell ⟨b4, 2, none⟩ (.bool true)).setCell ⟨b4, 3, none⟩ (.int .i64 v)).heap.size = w4.heap.size := by
        have h2 := (((Only.refl b4 w5).setCell 2 (.bool true)).setCell 3 (.int .i64 v)).size
        rw [h2, on5.size]
      have hwc : w.heap.size ≤ wc.drew.heap.size := HB3.out.size
      unfold Puts
      rw [e]
      refine ⟨rfl, ⟨?_, ?_, blk4, ?_⟩, ?_⟩
      · have := HOk.out.put a n v
        rw [e] at this; exact this
      · show s.many + 1 ≤ 200; rw [HME.out]; omega
      · simp only [HME.out]
        refine hst.mono (fun k hk => ?_)
        rcases hk with h | h
        · exact .inl h
        · exact .inr ⟨by omega, by rw [hsz]; exact h.2⟩
      · refine ((Turn.of_below HB3.out F).trans (Turn.drewN' HTU4.out)).andThen (G := fun k => k = tb ∨ k = b4) ((Turn.of_only on5 (.inl rfl)).trans (turn_stores (.inr rfl) _ _)) (fun i hi => ?_)
        rcases hi with h | h
        · rw [h]; rcases htb with h | h
          · exact .inl h
          · exact .inr (by omega)
        · rw [h]; rcases hbb with h | h
          · exact .inl h
          · exact .inr (by omega)
    clear hst hT5 on5 hw5 htb hbb c44 f44
    go_wp2_with fail
    go_ret2
    exact HZ.out
theorem put_any (F : Nat → Prop) (tb : Nat) (s : Tv) (a l v : Int) (w : World) (h : TrieAt w F tb s) (hF : ∀ k, F k → k < w.heap.size) :
    Calls Tryd.prog 6 #[.pointer (some ⟨tb, 0, none⟩), .agg #[.int .i64 a, .int .i64 l], .int .i64 v] w (Puts F tb s a l v w) := by
  by_cases hp : prefE a l = 0
  · obtain ⟨n, rfl, _⟩ := prefE_nat hp
    rcases hu : s.f n (kq a n) with _ | u
    · by_cases hm : 200 ≤ s.many
      · exact put_full F tb s a v n w h hF hp hu hm
      · exact put_new F tb s a v n w h hF hp hu hm
    · exact put_old F tb s a v u n w h hF hp hu
  · exact put_err F tb s a l v w h hF hp
end Go.Proofs.YtdpnmhfhjcebbaaDoor
