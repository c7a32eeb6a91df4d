/- What list of package trie adds to a row: the pairs of a node and of those below it. -/
import Derived.Test.YtdpnmhfhjcebbaaDoorTrieOver
namespace Go.Proofs.YtdpnmhfhjcebbaaDoor
open Go.RowKit
set_option linter.unusedVariables false
set_option maxRecDepth 4000

/-- A row that has grown: nothing but its own block has turned. -/
def LstR (base : Nat) (ps : List Pr) (v : Value) (w : World) (e : Ending) (w' : World) : Prop :=
  ∃ v', e = .returned v' ∧ OwnR w' base v' ps ∧ Turn (fun k => v.ownBlock = some k) w w' ∧ (∀ k, v'.ownBlock = some k → v.ownBlock = some k ∨ w.heap.size ≤ k)
structure LS (w1 : World) (base : Nat) (v lv : Value) (ps : List Pr) (wr : World) : Prop where
  own : OwnR wr base lv ps
  turn : Turn (fun k => v.ownBlock = some k) w1 wr
  came : ∀ k, lv.ownBlock = some k → v.ownBlock = some k ∨ w1.heap.size ≤ k
theorem Tryd.infoNode : (Tryd.prog.info? 55).map (fun i => (i.zero, i.size, i.bytes)) = some (some (.pointer none), 1, 8) := by kernel_rfl
theorem index_kid0 (W : World) (k0 k1 : Value) : (Instr.index 56 (.agg #[k0, k1]) (.int .i64 0)).run Tryd.prog W = .ok k0 W := by
  obtain ⟨i0, hi, hz0, hz1, hz2⟩ := info_parts Tryd.infoNode
  simp [Instr.index, asIntOf, run_underlying Tryd.underlying56, run_underlying Tryd.underlying55, sizeOf, typeInfo, hi, hz1, part, isAgg]
theorem index_kid1 (W : World) (k0 k1 : Value) : (Instr.index 56 (.agg #[k0, k1]) (.int .i64 1)).run Tryd.prog W = .ok k1 W := by
  obtain ⟨i0, hi, hz0, hz1, hz2⟩ := info_parts Tryd.infoNode
  simp [Instr.index, asIntOf, run_underlying Tryd.underlying56, run_underlying Tryd.underlying55, sizeOf, typeInfo, hi, hz1, part, isAgg]
set_option maxHeartbeats 16000000 in
theorem list_body (tb : Nat) (F : Nat → Prop) (blk : Bk) (s : Tv) (base d q b : Nat) (w : World) (v : Value) (ps : List Pr) (K : Nat → List Pr) (hT : TrIn w F tb blk s) (hF : ∀ k, F k → k < base) (hbase : base ≤ w.heap.size) (hb : blk d q = some b) (hown : OwnR w base v ps)
    (hlen : (ps ++ hereL s.f d q ++ K 0 ++ K 1).length ≤ 1000000) (hKn : ∀ i, i < 2 → blk (d + 1) (2 * q + i) = none → K i = [])
    (ih : ∀ i, i < 2 → ∀ c w v ps, blk (d + 1) (2 * q + i) = some c → TrIn w F tb blk s → base ≤ w.heap.size → OwnR w base v ps → ps.length + (K i).length ≤ 1000000 →
      Calls Tryd.prog 29 #[.pointer (some ⟨c, 0, none⟩), .agg #[.int .i64 (ka (d + 1) (2 * q + i)), .int .i64 ((d + 1 : Nat) : Int)], v] w (LstR base (ps ++ K i) v w)) :
    Calls Tryd.prog 29 #[.pointer (some ⟨b, 0, none⟩), .agg #[.int .i64 (ka d q), .int .i64 (d : Int)], v] w (LstR base (ps ++ hereL s.f d q ++ K 0 ++ K 1) v w) := by
  have hd32 := (hT.rng d q b hb).1
  have HQ : Hid (q < 2 ^ d) := (hT.rng d q b hb).2
  obtain ⟨X, hX⟩ : ∃ X, ka d q = X := ⟨_, rfl⟩
  rw [hX]
  have hB : Below w.heap.size w (w.alloc (.cells #[.int .i64 X, .int .i64 (d : Int)] 25)) := (Below.refl _ _).alloc (Nat.le_refl _) _
  have hp : PairAt (w.alloc (.cells #[.int .i64 X, .int .i64 (d : Int)] 25)) w.heap.size (ka d q) d := by rw [hX]; exact PairAt.new w X d 25
  have hs1 : (w.alloc (.cells #[.int .i64 X, .int .i64 (d : Int)] 25)).heap.size = w.heap.size + 1 := by simp
  go_enter Tryd.func29, Tryd.ntmps29
  go_upto_region 1 with fail
  generalize w.alloc (.cells #[.int .i64 X, .int .i64 (d : Int)] 25) = w1 at hB hp hs1 ⊢
  obtain ⟨B, hBe⟩ : ∃ B, w.heap.size = B := ⟨_, rfl⟩
  rw [hBe] at hB hp hs1 ⊢
  have hT1 := hT.keep (w' := w1) (fun k hk => hB.block k (by have := hF k hk; omega))
  have hN := hT1.node d q b hb
  have n2 := hN.c2
  have n3 := hN.c3
  have n0 := hN.c0
  have n1 := hN.c1
  have a0 := hp.1
  have a1 := hp.2.1
  rw [hX] at a0
  have HB : Hid (Below B w w1) := hB
  have HP : Hid (PairAt w1 B (ka d q) d) := hp
  have HT : Hid (TrIn w1 F tb blk s) := hT1
  have HF : Hid (∀ k, F k → k < base) := hF
  have HS1 : Hid (w1.heap.size = B + 1 ∧ base ≤ B) := ⟨hs1, by omega⟩
  have HBE : Hid (w.heap.size = B) := hBe
  have HX : Hid (ka d q = X) := hX
  have HOW : Hid (OwnR w base v ps) := hown
  have HOW1 : Hid (OwnR w1 base v ps) := by
    rw [← hBe] at hB; exact hown.below hB
  have HBb : Hid (blk d q = some b) := hb
  have HBF : Hid (b < base) := hF b (hT.own _ _ b hb)
  have HLEN : Hid ((ps ++ hereL s.f d q ++ K 0 ++ K 1).length ≤ 1000000) := hlen
  have HL : Hid (∀ lv wr, LS w1 base v lv (ps ++ hereL s.f d q ++ K 0 ++ K 1) wr → LstR base (ps ++ hereL s.f d q ++ K 0 ++ K 1) v w (.returned lv) wr) := fun lv wr h => ⟨lv, rfl, h.own, (Turn.of_below (by rw [hBe]; exact hB) _).trans h.turn, fun k hk => by
    rcases h.came k hk with h1 | h1
    · exact .inl h1
    · exact .inr (by omega)⟩
  clear hT hB hp hT1 hN hs1 hF hbase hown hlen hb hX hBe
  go_upto_if 12 with fail
  go_cut [2] (fun lv ww => LS w1 base v lv (ps ++ hereL s.f d q) ww)
  case first =>
    as_aux_lemma =>
      rcases hf : s.f d q with _ | vv
      · rw [hf] at n2
        have HE : Hid (ps ++ hereL s.f d q = ps) := by show ps ++ hereL s.f d q = ps; unfold hereL; rw [hf]; simp
        simp only [Option.isSome_none] at n2
        clear hf n3
        go_wp2_with fail
        go_meet
        case rel => rw [HE.out]; exact ⟨HOW1.out, Turn.refl _ _, fun k hk => .inl hk⟩
      · rw [hf] at n2 n3
        have HE : Hid (ps ++ hereL s.f d q = ps ++ [⟨X, d, vv⟩]) := by show ps ++ hereL s.f d q = ps ++ [⟨X, d, vv⟩]; unfold hereL; rw [hf, HX.out]
        simp only [Option.isSome_some, Option.getD_some] at n2 n3
        have hown : OwnR w1.drew base v ps := HOW1.out
        have hlen : ps.length ≤ 1000000 := by have := HLEN.out; simp only [List.length_append] at this; omega
        have hbase : base ≤ w1.drew.heap.size := by show base ≤ w1.heap.size; have := HS1.out; omega
        clear hf
        go_upto_region 2 with fail
        go_region_held_law (fun W => W.cell? ⟨B, 0, none⟩ = some (.int .i64 X) ∧ W.cell? ⟨B, 1, none⟩ = some (.int .i64 (d : Int)) ∧ W.cell? ⟨b, 3, none⟩ = some (.int .i64 vv)) (with_reducible first | assumption | go_keep) (first
          | (refine step_append_pr rfl (.tmp 13) (.tmp 20) rfl base v ps rfl hown ⟨X, d, vv⟩ rfl hlen hbase ?_; intro g cap w4 own4 grow4 at4; have hp4 : PairAt w4 B (ka d q) d := HP.out.keepB (grown_blk hown grow4 HP.out.lt (.inr (fun e => by have := (HOW.out.block B e).2; have := HBE.out; omega))); have hS4 : w4.cell? ⟨B, 0, none⟩ = some (.int .i64 X) ∧ w4.cell? ⟨B, 1, none⟩ = some (.int .i64 (d : Int)) ∧ w4.cell? ⟨b, 3, none⟩ = some (.int .i64 vv) := ⟨by rw [← HX.out]; exact hp4.1, hp4.2.1, (World.cell?_of_block (w := w1) (a := ⟨b, 3, none⟩) (grown_blk hown grow4 (cell_lt n3) (.inl HBF.out))).trans n3⟩; simp only [List.getElem_toArray, List.getElem_cons_succ, List.getElem_cons_zero, Act.put, List.setIfInBounds_toArray, List.set_cons_zero, List.set_cons_succ]))
        have HO : Hid (LS w1 base v (.slice (some ⟨g, 0, none⟩) (ps.length + 1) cap) (ps ++ [⟨X, d, vv⟩]) w4) :=
          ⟨own4, Turn.drewN' (Turn.grownR grow4 (F := fun k => v.ownBlock = some k) (fun k hk => .inl hk)), fun k hk => by
            have hgk : g = k := by simpa [Value.ownBlock] using hk
            subst hgk
            rcases at4 with h | h
            · exact .inl h
            · exact .inr (by show w1.heap.size ≤ g; rw [h]; exact Nat.le_succ _)⟩
        clear hS4 hp4 own4 grow4 at4 hown
        go_wp2_with fail
        go_meet
        case rel => rw [HE.out]; exact HO.out
  case rest =>
    have hS0 := hcut
    have hTc := HT.out.keep (w' := wc) (fun k hk => hS0.turn.block k (by have := HF.out k hk; have := HS1.out; omega) (fun e => by have := (HOW.out.block k e).1; have := HF.out k hk; omega))
    have hNc := hTc.node d q b HBb.out
    have m0 := hNc.c0
    have m1 := hNc.c1
    obtain ⟨kv0, hkv0⟩ : ∃ kv, kv = ptrO (blk (d + 1) (2 * q + 0)) := ⟨_, rfl⟩
    obtain ⟨kv1, hkv1⟩ : ∃ kv, kv = ptrO (blk (d + 1) (2 * q + 1)) := ⟨_, rfl⟩
    rw [show blk (d + 1) (2 * q) = blk (d + 1) (2 * q + 0) from rfl, ← hkv0] at m0
    rw [← hkv1] at m1
    have HKV0 : Hid (kv0 = ptrO (blk (d + 1) (2 * q + 0))) := hkv0
    have HKV1 : Hid (kv1 = ptrO (blk (d + 1) (2 * q + 1))) := hkv1
    clear hkv0 hkv1
    have hi0 := index_kid0
    have hi1 := index_kid1
    have HSC : Hid (LS w1 base v u2 (ps ++ hereL s.f d q) wc) := hS0
    clear hcut hTc hNc n0 n1 n2 n3 a0 a1 hS0
    go_upto_region 4 with fail
    go_loopw [2, 26] (fun lv cv wr => ∃ k : Nat, k ≤ 2 ∧ cv = .int .i64 (k : Int) ∧ LS w1 base v lv (if k = 0 then ps ++ hereL s.f d q else if k = 1 then ps ++ hereL s.f d q ++ K 0 else ps ++ hereL s.f d q ++ K 0 ++ K 1) wr) (fun _ cv _ => (2 - intOf cv).toNat)
    case atStart => exact ⟨0, by omega, rfl, by simpa using HSC.out⟩
    case round =>
      obtain ⟨k, hk, rfl, hS⟩ := hrel
      rcases (by omega : k = 0 ∨ k = 1 ∨ k = 2) with rfl | rfl | rfl
      · as_aux_lemma =>
          have hpre : LS w1 base v u2 (ps ++ hereL s.f d q) wr := hS
          rcases hx : blk (d + 1) (2 * q + 0) with _ | c
          · have hz := hKn 0 (by omega) hx
            have HZ : Hid (LS w1 base v u2 (ps ++ hereL s.f d q ++ K 0) wr) := by rw [hz, List.append_nil]; exact hpre
            have HKI : Hid (blk (d + 1) (2 * q + 0) = none) := hx
            have hnk : kv0 = .pointer none := by rw [HKV0.out, hx]; rfl
            rw [hnk]
            clear hS hpre hz hx hnk
            go_wp2_with fail
            go_roundw
            case rel => exact ⟨1, by omega, rfl, HZ.out⟩
            case measure => simp [intOf]
          · have hnk : kv0 = .pointer (some ⟨c, 0, none⟩) := by rw [HKV0.out, hx]; rfl
            rw [hnk]
            have hTr := HT.out.keep (w' := wr) (fun k hk => hS.turn.block k (by have := HF.out k hk; have := HS1.out; omega) (fun e => by have := (HOW.out.block k e).1; have := HF.out k hk; omega))
            have hPr : PairAt wr B (ka d q) d := HP.out.keepB (hS.turn.block B (by have := HS1.out; omega) (fun e => by have := (HOW.out.block B e).2; have := HBE.out; omega))
            obtain ⟨p0, p1, _, _⟩ := hPr
            have hdl : d < 32 := by have := (HT.out.rng _ _ c hx).1; omega
            have hhf := fun W => half_any d q 0 W hdl HQ.out (by omega)
            rw [HX.out] at p0
            simp only [HX.out] at hhf
            have hih : ∀ W, Below wr.heap.size wr W → Calls Tryd.prog 29 #[.pointer (some ⟨c, 0, none⟩), .agg #[.int .i64 (ka (d + 1) (2 * q + 0)), .int .i64 ((d + 1 : Nat) : Int)], u2] W (LstR base (ps ++ hereL s.f d q ++ K 0) u2 W) := fun W hW => ih 0 (by omega) c W u2 _ hx (hTr.keep (fun k hk => hW.block k (by have := HF.out k hk; have := HS1.out; have := hS.turn.size; omega))) (by have := hS.turn.size; have := hW.size; have := HS1.out; omega) (hpre.own.below hW) (by have := HLEN.out; simp only [List.length_append] at this ⊢; omega)
            generalize ka (d + 1) (2 * q + 0) = Y at hhf hih
            have HSW : Hid (LS w1 base v u2 (ps ++ hereL s.f d q) wr) := hpre
            clear hS hpre hTr hnk
            go_wp2_with (first
              | (go_at_call 37; refine (hhf _).mono ?_; rintro e w5 ⟨rfl, bw5⟩)
              | (go_at_call 29; refine (hih _ bw5).mono ?_; rintro e w6 ⟨v6, rfl, own6, turn6, came6⟩))
            have HZ : Hid (LS w1 base v v6 (ps ++ hereL s.f d q ++ K 0) w6) := by
              refine ⟨own6, (HSW.out.turn.trans (Turn.of_below bw5 _)).andThen turn6 (fun i hi => ?_), fun k hk => ?_⟩
              · rcases HSW.out.came i hi with h | h
                · exact .inl h
                · exact .inr h
              · rcases came6 k hk with h | h
                · exact HSW.out.came k h
                · exact .inr (by have := bw5.size; have := HSW.out.turn.size; omega)
            clear own6 turn6 came6 bw5 hhf hih
            go_roundw
            case rel => exact ⟨1, by omega, rfl, HZ.out⟩
            case measure => simp [intOf]
      · as_aux_lemma =>
          have hpre : LS w1 base v u2 (ps ++ hereL s.f d q ++ K 0) wr := hS
          rcases hx : blk (d + 1) (2 * q + 1) with _ | c
          · have hz := hKn 1 (by omega) hx
            have HZ : Hid (LS w1 base v u2 (ps ++ hereL s.f d q ++ K 0 ++ K 1) wr) := by rw [hz, List.append_nil]; exact hpre
            have HKI : Hid (blk (d + 1) (2 * q + 1) = none) := hx
            have hnk : kv1 = .pointer none := by rw [HKV1.out, hx]; rfl
            rw [hnk]
            clear hS hpre hz hx hnk
            go_wp2_with fail
            go_roundw
            case rel => exact ⟨2, by omega, rfl, HZ.out⟩
            case measure => simp [intOf]
          · have hnk : kv1 = .pointer (some ⟨c, 0, none⟩) := by rw [HKV1.out, hx]; rfl
            rw [hnk]
            have hTr := HT.out.keep (w' := wr) (fun k hk => hS.turn.block k (by have := HF.out k hk; have := HS1.out; omega) (fun e => by have := (HOW.out.block k e).1; have := HF.out k hk; omega))
            have hPr : PairAt wr B (ka d q) d := HP.out.keepB (hS.turn.block B (by have := HS1.out; omega) (fun e => by have := (HOW.out.block B e).2; have := HBE.out; omega))
            obtain ⟨p0, p1, _, _⟩ := hPr
            have hdl : d < 32 := by have := (HT.out.rng _ _ c hx).1; omega
            have hhf := fun W => half_any d q 1 W hdl HQ.out (by omega)
            rw [HX.out] at p0
            simp only [HX.out] at hhf
            have hih : ∀ W, Below wr.heap.size wr W → Calls Tryd.prog 29 #[.pointer (some ⟨c, 0, none⟩), .agg #[.int .i64 (ka (d + 1) (2 * q + 1)), .int .i64 ((d + 1 : Nat) : Int)], u2] W (LstR base (ps ++ hereL s.f d q ++ K 0 ++ K 1) u2 W) := fun W hW => ih 1 (by omega) c W u2 _ hx (hTr.keep (fun k hk => hW.block k (by have := HF.out k hk; have := HS1.out; have := hS.turn.size; omega))) (by have := hS.turn.size; have := hW.size; have := HS1.out; omega) (hpre.own.below hW) (by have := HLEN.out; simp only [List.length_append] at this ⊢; omega)
            generalize ka (d + 1) (2 * q + 1) = Y at hhf hih
            have HSW : Hid (LS w1 base v u2 (ps ++ hereL s.f d q ++ K 0) wr) := hpre
            clear hS hpre hTr hnk
            go_wp2_with (first
              | (go_at_call 37; refine (hhf _).mono ?_; rintro e w5 ⟨rfl, bw5⟩)
              | (go_at_call 29; refine (hih _ bw5).mono ?_; rintro e w6 ⟨v6, rfl, own6, turn6, came6⟩))
            have HZ : Hid (LS w1 base v v6 (ps ++ hereL s.f d q ++ K 0 ++ K 1) w6) := by
              refine ⟨own6, (HSW.out.turn.trans (Turn.of_below bw5 _)).andThen turn6 (fun i hi => ?_), fun k hk => ?_⟩
              · rcases HSW.out.came i hi with h | h
                · exact .inl h
                · exact .inr h
              · rcases came6 k hk with h | h
                · exact HSW.out.came k h
                · exact .inr (by have := bw5.size; have := HSW.out.turn.size; omega)
            clear own6 turn6 came6 bw5 hhf hih
            go_roundw
            case rel => exact ⟨2, by omega, rfl, HZ.out⟩
            case measure => simp [intOf]
      · as_aux_lemma =>
          have HZ : Hid (LstR base (ps ++ hereL s.f d q ++ K 0 ++ K 1) v w (.returned u2) wr) := HL.out u2 wr hS
          clear hS
          go_wp2_with fail
          go_ret
          exact HZ.out
end Go.Proofs.YtdpnmhfhjcebbaaDoor
