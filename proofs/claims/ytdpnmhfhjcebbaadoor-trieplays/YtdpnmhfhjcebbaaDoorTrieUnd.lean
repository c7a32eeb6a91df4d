/- What Under of package trie returns. -/
import Derived.Test.YtdpnmhfhjcebbaaDoorTrieFnd
import Derived.Test.YtdpnmhfhjcebbaaDoorPlayMath
namespace Go.Proofs.YtdpnmhfhjcebbaaDoor
open Go.RowKit
set_option linter.unusedVariables false
set_option maxRecDepth 4000

/-- What Under returns. -/
def Unders (s : Tv) (a l : Int) (w : World) (e : Ending) (w' : World) : Prop :=
  ∃ v, e = .returned (.tuple #[v, errT (prefE a l)]) ∧ OwnR w' w.heap.size v (if prefE a l = 0 then undV s a l else []) ∧ Below w.heap.size w w'
set_option maxHeartbeats 4000000 in
theorem under_err (tb : Nat) (s : Tv) (a l : Int) (w : World) (hp : ¬ prefE a l = 0) :
    Calls Tryd.prog 18 #[.pointer (some ⟨tb, 0, none⟩), .agg #[.int .i64 a, .int .i64 l]] w (Unders s a l w) := by
  have hB : Below w.heap.size w (w.alloc (.cells #[.int .i64 a, .int .i64 l] 25)) := (Below.refl _ _).alloc (Nat.le_refl _) _
  have hck := check_bad a l (w.alloc (.cells #[.int .i64 a, .int .i64 l] 25)) hp
  have HZ : Hid (∀ w', Below w.heap.size w w' → Unders s a l w (.returned (.tuple #[.slice none 0 0, .iface 64 (.int .i64 (prefE a l))])) w') := fun w' hb => by
    refine ⟨.slice none 0 0, ?_, ?_, hb⟩
    · unfold errT; rw [if_neg hp]
    · rw [if_neg hp]; exact OwnR.nil _ _
  generalize prefE a l = n at hck HZ
  clear hp
  go_enter Tryd.func18, Tryd.ntmps18
  go_wp2_with (go_at_call 23; refine hck.mono ?_; rintro e w1 ⟨rfl, b1⟩)
  go_ret2
  exact HZ.out w1 (hB.trans (b1.mono hB.size))
set_option maxHeartbeats 8000000 in
theorem under_ok (F : Nat → Prop) (tb : Nat) (s : Tv) (a : Int) (n : Nat) (w : World) (h : TrieAt w F tb s) (hF : ∀ k, F k → k < w.heap.size) (hp : prefE a n = 0) :
    Calls Tryd.prog 18 #[.pointer (some ⟨tb, 0, none⟩), .agg #[.int .i64 a, .int .i64 (n : Int)]] w (Unders s a n w) := by
  obtain ⟨hA, hL, _⟩ := prefE_zero hp
  obtain ⟨h0, h1⟩ := hA
  have hn32 : n ≤ 32 := by omega
  have hlen : (lstL s.f (32 - n) n (kq a n)).length ≤ 1000000 := by
    have e := undR_is h.1 hp hn32
    unfold undV at e
    rw [Int.toNat_natCast] at e
    rw [← e]
    have := List.length_filter_le (fun x : Pr => insB x.a x.l a n) (allV s)
    have := h.all_len
    omega
  have hB : Below w.heap.size w (w.alloc (.cells #[.int .i64 a, .int .i64 (n : Int)] 25)) := (Below.refl _ _).alloc (Nat.le_refl _) _
  have hck := check_ok a n (w.alloc (.cells #[.int .i64 a, .int .i64 (n : Int)] 25)) hp
  have hpa := PairAt.new w a n 25
  obtain ⟨_, _, blk, hT⟩ := h
  have HT : Hid (TrIn w F tb blk s) := hT
  have HF : Hid (∀ k, F k → k < w.heap.size) := hF
  have HP : Hid (prefE a n = 0) := hp
  have HLN : Hid ((lstL s.f (32 - n) n (kq a n)).length ≤ 1000000) := hlen
  have HKA : Hid (ka n (kq a n) = a) := ka_kq hp
  clear hp hL hT hF hlen
  go_enter Tryd.func18, Tryd.ntmps18
  go_upto_region 4 with (go_at_call 23; refine hck.mono ?_; rintro e w2 ⟨rfl, b2⟩)
  have hb2 : Below w.heap.size w w2 := hB.trans (b2.mono hB.size)
  have hpb : PairAt w2 w.heap.size a n := hpa.below hpa.lt b2
  obtain ⟨p0, p1, _, _⟩ := id hpb
  have hT2 := HT.out.below HF.out hb2
  have hfd := find_raw a n tb F blk s w2.drew h0 h1 hn32 (hT2.keep (w' := w2.drew) (fun _ _ => rfl)) (fun k hk => by show k < w2.heap.size; have := HF.out k hk; have := hb2.size; omega)
  have HB2 : Hid (Below w.heap.size w w2) := hb2
  have HPB : Hid (PairAt w2 w.heap.size a n) := hpb
  obtain ⟨fv, hfv⟩ : ∃ fv, ptrO (blk n (kq a n)) = fv := ⟨_, rfl⟩
  rw [hfv] at hfd
  have HFV : Hid (ptrO (blk n (kq a n)) = fv) := hfv
  clear hfv
  clear hck hpa hb2 hpb hT2 hB b2
  go_region_with (go_at_call 24; refine hfd.mono ?_; rintro e w3 ⟨rfl, b3⟩; have b3 := drew_below b3)
  have hb3 : Below w.heap.size w w3 := HB2.out.trans (b3.mono HB2.out.size)
  have hT3 := HT.out.below HF.out hb3
  have HB3 : Hid (Below w.heap.size w w3) := hb3
  obtain ⟨q0, q1, _, _⟩ := HPB.out.below HPB.out.lt b3
  have HOUT : Hid (∀ v w', OwnR w' w.heap.size v (lstL s.f (32 - n) n (kq a n)) → Below w.heap.size w w' → Unders s a n w (.returned (.tuple #[v, .nilIface])) w') := fun v w' ho hb => by
    refine ⟨v, by rw [HP.out]; rfl, ?_, hb⟩
    rw [if_pos HP.out]; unfold undV; rw [Int.toNat_natCast]; exact ho
  rcases hx : blk n (kq a n) with _ | b
  · have e := HFV.out
    rw [hx] at e
    unfold ptrO at e
    subst e
    have HZ : Hid (Unders s a n w (.returned (.tuple #[.slice none 0 0, .nilIface])) w3) := HOUT.out _ _ (by rw [hT3.lst_none hx]; exact OwnR.nil _ _) HB3.out
    clear hx hT3 b3 hb3
    go_wp2_with fail
    go_ret2
    exact HZ.out
  · have e := HFV.out
    rw [hx] at e
    unfold ptrO at e
    subst e
    have hls := list_raw tb F blk s w.heap.size HF.out (32 - n) n (by omega) (kq a n) b w3 (.slice none 0 0) [] hT3 HB3.out.size hx (OwnR.nil _ _) (by simpa using HLN.out)
    rw [HKA.out] at hls
    have HZ : Hid (∀ e w', LstR w.heap.size ([] ++ lstL s.f (32 - n) n (kq a n)) (.slice none 0 0) w3 e w' → ∃ v, e = .returned v ∧ Unders s a n w (.returned (.tuple #[v, .nilIface])) w') := by
      rintro e w' ⟨v', rfl, h1, h2, h3⟩
      refine ⟨v', rfl, HOUT.out v' w' (by simpa using h1) (HB3.out.trans ?_)⟩
      exact ⟨h2.os, h2.tape, h2.output, h2.size, fun k hk => h2.block k (by have := HB3.out.size; omega) (fun e => by cases e)⟩
    clear hx hT3 b3 hb3
    go_wp2_with (go_at_call 29; refine hls.mono ?_; intro e w1 h1; obtain ⟨v1, rfl, hr⟩ := HZ.out e w1 h1)
    go_ret2
    exact hr
theorem under_any (F : Nat → Prop) (tb : Nat) (s : Tv) (a l : Int) (w : World) (h : TrieAt w F tb s) (hF : ∀ k, F k → k < w.heap.size) :
    Calls Tryd.prog 18 #[.pointer (some ⟨tb, 0, none⟩), .agg #[.int .i64 a, .int .i64 l]] w (Unders s a l w) := by
  by_cases hp : prefE a l = 0
  · obtain ⟨n, rfl, _⟩ := prefE_nat hp
    exact under_ok F tb s a n w h hF hp
  · exact under_err tb s a l w hp
end Go.Proofs.YtdpnmhfhjcebbaaDoor
