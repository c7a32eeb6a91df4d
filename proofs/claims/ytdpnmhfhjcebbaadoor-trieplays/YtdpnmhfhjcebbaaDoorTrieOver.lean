/- What over of package trie returns: the pairs on the way to a prefix. -/
import Derived.Test.YtdpnmhfhjcebbaaDoorTrieFind
import Derived.Test.YtdpnmhfhjcebbaaDoorOwnR
namespace Go.Proofs.YtdpnmhfhjcebbaaDoor
open Go.RowKit
set_option linter.unusedVariables false
set_option maxRecDepth 4000

/-- A row of pairs of the call's own; what was there is as it was. -/
def Lists (ps : List Pr) (w : World) (e : Ending) (w' : World) : Prop := ∃ v, e = .returned v ∧ OwnR w' w.heap.size v ps ∧ Below w.heap.size w w'
def ovP (f : Vf) (a : Int) (n : Nat) : List Pr := (List.range n).flatMap fun d => hereL f d (kq a d)
theorem ovP_succ (f : Vf) (a : Int) (n : Nat) : ovP f a (n + 1) = ovP f a n ++ hereL f n (kq a n) := by
  unfold ovP; rw [List.range_succ, List.flatMap_append]; simp
theorem ovP_len (f : Vf) (a : Int) (n : Nat) : (ovP f a n).length ≤ n := by
  induction n with
  | zero => simp [ovP]
  | succ n ih => rw [ovP_succ, List.length_append]; have := hereL_len f n (kq a n); omega
theorem ovP_stop {f : Vf} {a : Int} {d : Nat} : ∀ {n : Nat}, d ≤ n → (∀ e, d ≤ e → e < n → f e (kq a e) = none) → ovP f a n = ovP f a d
  | n, hd, h => by
    induction n with
    | zero => obtain rfl : d = 0 := by omega
              rfl
    | succ n ih =>
      by_cases he : d = n + 1
      · rw [he]
      · rw [ovP_succ, ih (by omega) (fun e h1 h2 => h e h1 (by omega))]
        unfold hereL
        rw [h n (by omega) (by omega)]; simp
/-- A block that is neither the row's nor new. -/
theorem grown_blk {w w' : World} {v : Value} {base : Nat} {ps : List Pr} {o : Obj} (hown : OwnR w base v ps) (hg : (w.alloc o).grownBy w' v.ownBlock) {b : Nat} (hlt : b < w.heap.size) (hb : b < base ∨ v.ownBlock ≠ some b) : w'.heap[b]? = w.heap[b]? := by
  have bw : Below w.heap.size w (w.alloc o) := (Below.refl _ _).alloc (Nat.le_refl _) _
  rw [hg.block b (Nat.lt_of_lt_of_le hlt bw.size) (fun e => by
    rcases hb with h | h
    · have := (hown.block b e.symm).1; omega
    · exact h e.symm), bw.block b hlt]
theorem PairAt.keepB {w w' : World} {b : Nat} {x y : Int} (h : PairAt w b x y) (hb : w'.heap[b]? = w.heap[b]?) : PairAt w' b x y :=
  ⟨(World.cell?_of_block (w := w) (a := ⟨b, 0, none⟩) hb).trans h.1, (World.cell?_of_block (w := w) (a := ⟨b, 1, none⟩) hb).trans h.2.1, (World.frozen?_of_block (w := w) (a := ⟨b, 0, none⟩) hb).trans h.2.2.1, (World.frozen?_of_block (w := w) (a := ⟨b, 1, none⟩) hb).trans h.2.2.2⟩
/-- What append of one pair turns: the row's own block alone. -/
theorem Turn.grownR {w w' : World} {v : Value} {o : Obj} (hg : (w.alloc o).grownBy w' v.ownBlock) {F : Nat → Prop} (hF : ∀ k, v.ownBlock = some k → F k ∨ w.heap.size ≤ k) : Turn F w w' :=
  (Turn.of_below ((Below.refl _ _).alloc (Nat.le_refl _) _) F).andThen (G := fun k => v.ownBlock = some k) (Turn.of_grown hg (fun g e => e)) hF
/-- What holds at each step down: w2 is the world with both boxes, the second one is 'at'. -/
structure OvS (w2 : World) (B : Nat) (x y : Int) (v : Value) (ps : List Pr) (wr : World) : Prop where
  own : OwnR wr (B + 2) v ps
  at_ : PairAt wr (B + 1) x y
  turn : Turn (fun k => k = B + 1) w2 wr
set_option maxHeartbeats 16000000 in
theorem over_raw (a : Int) (l : Nat) (tb : Nat) (F : Nat → Prop) (blk : Bk) (s : Tv) (w : World) (h0 : 0 ≤ a) (h1 : a ≤ 4294967295) (hl : l ≤ 32) (hT : TrIn w F tb blk s) (hF : ∀ k, F k → k < w.heap.size) :
    Calls Tryd.prog 31 #[.pointer (some ⟨tb, 0, none⟩), .agg #[.int .i64 a, .int .i64 (l : Int)]] w (Lists (ovP s.f a (l + 1)) w) := by
  have hB : Below w.heap.size w ((w.alloc (.cells #[.int .i64 a, .int .i64 (l : Int)] 25)).alloc (.cells #[.int .i64 0, .int .i64 0] 25)) := ((Below.refl _ _).alloc (Nat.le_refl _) _).alloc (by simp) _
  have hp : PairAt ((w.alloc (.cells #[.int .i64 a, .int .i64 (l : Int)] 25)).alloc (.cells #[.int .i64 0, .int .i64 0] 25)) w.heap.size a l := (PairAt.new w a l 25).alloc _
  have hq : PairAt ((w.alloc (.cells #[.int .i64 a, .int .i64 (l : Int)] 25)).alloc (.cells #[.int .i64 0, .int .i64 0] 25)) (w.heap.size + 1) 0 0 := by
    have h := PairAt.new (w.alloc (.cells #[.int .i64 a, .int .i64 (l : Int)] 25)) 0 0 25
    simpa using h
  have hs2 : ((w.alloc (.cells #[.int .i64 a, .int .i64 (l : Int)] 25)).alloc (.cells #[.int .i64 0, .int .i64 0] 25)).heap.size = w.heap.size + 2 := by simp
  go_enter Tryd.func31, Tryd.ntmps31
  go_upto_region 3 with fail
  generalize (w.alloc (.cells #[.int .i64 a, .int .i64 (l : Int)] 25)).alloc (.cells #[.int .i64 0, .int .i64 0] 25) = w2 at hB hp hq hs2 ⊢
  obtain ⟨B, hBe⟩ : ∃ B, w.heap.size = B := ⟨_, rfl⟩
  rw [hBe] at hB hp hq hs2 ⊢
  have HB : Hid (Below B w w2) := hB
  have HP : Hid (PairAt w2 B a l) := hp
  have HT : Hid (TrIn w2 F tb blk s) := hT.keep (fun k hk => hB.block k (by rw [← hBe]; exact hF k hk))
  have HF : Hid (∀ k, F k → k < B) := by rw [← hBe]; exact hF
  have HS2 : Hid (w2.heap.size = B + 2) := hs2
  have HBE : Hid (w.heap.size = B) := hBe
  have HL : Hid (∀ v wr, OvS w2 B (ka l (kq a l)) l v (ovP s.f a (l + 1)) wr → Lists (ovP s.f a (l + 1)) w (.returned v) wr) := fun v wr h => ⟨v, rfl, by rw [HBE.out]; exact h.own.base (by omega), by
    rw [HBE.out]; exact Turn.below hB (by omega) h.turn (fun k hk => by omega)⟩
  clear hB hp hT hF hs2 hBe
  go_loopw [0, 5] (fun nv lv wr => ∃ (d b : Nat), d ≤ l ∧ nv = .pointer (some ⟨b, 0, none⟩) ∧ blk d (kq a d) = some b ∧ OvS w2 B (ka d (kq a d)) d lv (ovP s.f a d) wr) (fun _ _ wr => match wr.cell? ⟨B + 1, 1, none⟩ with | some (.int _ x) => (l - x).toNat | _ => 0)
  case atStart =>
    refine ⟨0, tb, by omega, rfl, by rw [kq_zero h0 h1]; exact HT.out.root, ⟨?_, ?_, Turn.refl _ _⟩⟩
    · exact OwnR.nil _ _
    · rw [kq_zero h0 h1]; simpa [ka] using hq
  case round =>
    obtain ⟨d, b, hd, rfl, hb, hS⟩ := hrel
    have hTr := HT.out.keep (w' := wr) (fun k hk => hS.turn.block k (by have := HF.out k hk; have := HS2.out; omega) (fun e => by have := HF.out k hk; omega))
    have hN := hTr.node d _ b hb
    have hPr : PairAt wr B a l := HP.out.keepB (hS.turn.block B (by have := HS2.out; omega) (by omega))
    obtain ⟨X, hX⟩ : ∃ X, ka d (kq a d) = X := ⟨_, rfl⟩
    rw [hX] at hS
    have HX : Hid (ka d (kq a d) = X) := hX
    have n2 := hN.c2
    have n3 := hN.c3
    have HBb : Hid (blk d (kq a d) = some b) := hb
    have HS : Hid (OvS w2 B X d u5 (ovP s.f a d) wr) := hS
    have a0 := hS.at_.1
    have a1 := hS.at_.2.1
    have HBF : Hid (b < B) := HF.out b (hTr.own _ _ b hb)
    clear hN hPr hTr hS hb hX
    go_upto_if 12 with fail
    go_cut [5] (fun lv ww => OvS w2 B X d lv (ovP s.f a (d + 1)) ww)
    case first =>
      as_aux_lemma =>
        rcases hf : s.f d (kq a d) with _ | vv
        · rw [hf] at n2
          have HE : Hid (ovP s.f a (d + 1) = ovP s.f a d) := by show ovP s.f a (d + 1) = ovP s.f a d; rw [ovP_succ]; unfold hereL; rw [hf]; simp
          simp only [Option.isSome_none] at n2
          clear hf n3
          go_wp2_with fail
          go_meet
          case rel => rw [HE.out]; exact HS.out
        · rw [hf] at n2 n3
          have HE : Hid (ovP s.f a (d + 1) = ovP s.f a d ++ [⟨X, d, vv⟩]) := by show ovP s.f a (d + 1) = ovP s.f a d ++ [⟨X, d, vv⟩]; rw [ovP_succ]; unfold hereL; rw [hf, HX.out]
          simp only [Option.isSome_some, Option.getD_some] at n2 n3
          have hown : OwnR wr.drew (B + 2) u5 (ovP s.f a d) := HS.out.own
          have hlen : (ovP s.f a d).length ≤ 1000000 := by have := ovP_len s.f a d; omega
          have hbase : B + 2 ≤ wr.drew.heap.size := by show B + 2 ≤ wr.heap.size; have := HS.out.turn.size; have := HS2.out; omega
          clear hf
          go_upto_region 4 with fail
          go_region_held_law (fun W => W.cell? ⟨B + 1, 0, none⟩ = some (.int .i64 X) ∧ W.cell? ⟨B + 1, 1, none⟩ = some (.int .i64 (d : Int)) ∧ W.cell? ⟨b, 3, none⟩ = some (.int .i64 vv)) (with_reducible first | assumption | go_keep) (first
            | (refine step_append_pr rfl (.tmp 13) (.tmp 20) rfl (B + 2) u5 (ovP s.f a d) rfl hown ⟨X, d, vv⟩ rfl hlen hbase ?_; intro g cap w4 own4 grow4 at4; have hp4 : PairAt w4 (B + 1) X d := HS.out.at_.keepB (grown_blk hown grow4 HS.out.at_.lt (.inl (by omega))); have hS4 : w4.cell? ⟨B + 1, 0, none⟩ = some (.int .i64 X) ∧ w4.cell? ⟨B + 1, 1, none⟩ = some (.int .i64 (d : Int)) ∧ w4.cell? ⟨b, 3, none⟩ = some (.int .i64 vv) := ⟨hp4.1, hp4.2.1, (World.cell?_of_block (w := wr) (a := ⟨b, 3, none⟩) (grown_blk hown grow4 (cell_lt n3) (.inl (show b < B + 2 by have := HBF.out; omega)))).trans n3⟩; simp only [List.getElem_toArray, List.getElem_cons_succ, List.getElem_cons_zero, Act.put, List.setIfInBounds_toArray, List.set_cons_zero, List.set_cons_succ]))
          have HO : Hid (OvS w2 B X d (.slice (some ⟨g, 0, none⟩) ((ovP s.f a d).length + 1) cap) (ovP s.f a d ++ [⟨X, d, vv⟩]) w4) :=
            ⟨own4, hp4, (HS.out.turn.drewN 1).andThen (Turn.grownR grow4 (F := fun k => B + 2 ≤ k) (fun k hk => .inl (hown.block k hk).1)) (fun i hi => .inr (by have := HS2.out; omega))⟩
          clear hS4 hp4 own4 grow4 at4 hown
          go_wp2_with fail
          go_meet
          case rel => rw [HE.out]; exact HO.out
    case rest =>
      have hS := hcut
      have HSC : Hid (OvS w2 B X d u5 (ovP s.f a (d + 1)) wc) := hS
      have hTr := HT.out.keep (w' := wc) (fun k hk => hS.turn.block k (by have := HF.out k hk; have := HS2.out; omega) (fun e => by have := HF.out k hk; omega))
      have hPr : PairAt wc B a l := HP.out.keepB (hS.turn.block B (by have := HS2.out; omega) (by omega))
      obtain ⟨p0, p1, _, _⟩ := hPr
      have a0 := hS.at_.1
      have a1 := hS.at_.2.1
      by_cases hdl : d < l
      · have i1 : ¬ (d : Int) = (l : Int) := by omega
        have i2 : ((d : Int) == (l : Int)) = false := by simpa using i1
        obtain ⟨i, hk, hi2⟩ : ∃ i, kbit a d = i ∧ i < 2 := ⟨_, rfl, kbit_lt a d⟩
        clear hcut n2 n3 i1
        rcases (by omega : i = 0 ∨ i = 1) with hi | hi
        · subst hi
          have hbt := fun W => bit_val W h0 h1 (show d < 32 by omega) hk
          have hst := hTr.step (show d < 32 by omega) HBb.out hk
          have hq2 : kq a (d + 1) = 2 * kq a d + 0 := by rw [kq_succ a (show d < 32 by omega), hk]
          rcases hx : blk (d + 1) (kq a (d + 1)) with _ | c
          · rw [hx] at hst
            unfold ptrO at hst
            have hE : ovP s.f a (l + 1) = ovP s.f a (d + 1) := ovP_stop (by omega) (fun e he1 he2 => by
              rcases hf : s.f e (kq a e) with _ | vv
              · rfl
              · obtain ⟨z, hz⟩ := HT.out.has e _ (by rw [hf]; simp)
                rw [HT.out.none_below hx he1 (kq_up a he1 (by omega))] at hz; cases hz)
            have HZ : Hid (Lists (ovP s.f a (l + 1)) w (.returned u5) wc) := ⟨u5, rfl, by rw [HBE.out, hE]; exact HSC.out.own.base (by omega), by rw [HBE.out]; exact Turn.below HB.out (by have := HS2.out; omega) HSC.out.turn (fun k hk => by omega)⟩
            clear hTr hk hx hE hq2 hS
            go_wp2_with (go_at_call 35; refine (hbt _).mono ?_; rintro e wc ⟨rfl, rfl⟩)
            go_ret
            exact HZ.out
          · rw [hx] at hst
            unfold ptrO at hst
            obtain ⟨Y, hY⟩ : ∃ Y, ka (d + 1) (kq a (d + 1)) = Y := ⟨_, rfl⟩
            have hhf : ∀ W, Calls Tryd.prog 37 #[.agg #[.int .i64 X, .int .i64 (d : Int)], .int .i64 (0 : Int)] W fun e w' => e = .returned (.agg #[.int .i64 Y, .int .i64 ((d : Int) + 1)]) ∧ Below W.heap.size W w' := fun W => by
              have h := half_any d (kq a d) 0 W (by omega) (kq_lt h0 h1 (by omega)) (by omega)
              rw [← hq2, hY, HX.out, show ((d + 1 : Nat) : Int) = (d : Int) + 1 by push_cast; rfl] at h
              exact h
            have HY : Hid (ka (d + 1) (kq a (d + 1)) = Y) := hY
            have HXC : Hid (blk (d + 1) (kq a (d + 1)) = some c) := hx
            have hbc : b < wc.heap.size := cell_lt hst
            have ha2 := hS.at_.2.2.1
            have ha3 := hS.at_.2.2.2
            clear hTr hk hx hq2 hY hS
            go_upto_region 10 with (go_at_call 35; refine (hbt _).mono ?_; rintro e wc ⟨rfl, rfl⟩)
            go_region_with (go_at_call 37; refine (hhf _).mono ?_; rintro e w5 ⟨rfl, bw5⟩; have bw5 : Below wc.heap.size wc w5 := ⟨bw5.os, bw5.tape, bw5.output, bw5.size, bw5.block⟩; have hp5 := HSC.out.at_.keepB (bw5.block _ HSC.out.at_.lt); obtain ⟨e0, e1, e2, e3⟩ := id hp5; have e4 : w5.cell? ⟨b, 0, none⟩ = some (.pointer (some ⟨c, 0, none⟩)) := by rw [bw5.cell (p := ⟨b, 0, none⟩) hbc]; exact hst)
            all_goals
              have hp6 := (hp5.set0 Y).set1 ((d : Int) + 1)
              have on6 : Only (B + 1) w5 ((w5.setCell ⟨B + 1, 0, none⟩ (.int .i64 Y)).setCell ⟨B + 1, 1, none⟩ (.int .i64 ((d : Int) + 1))) := ((Only.refl _ _).setCell 0 _).setCell 1 _
              obtain ⟨w6, hw6⟩ : ∃ w6, (w5.setCell ⟨B + 1, 0, none⟩ (.int .i64 Y)).setCell ⟨B + 1, 1, none⟩ (.int .i64 ((d : Int) + 1)) = w6 := ⟨_, rfl⟩
              rw [hw6] at hp6 on6 ⊢
              have HO : Hid (OvS w2 B Y ((d : Int) + 1) u5 (ovP s.f a (d + 1)) w6) := ⟨(HSC.out.own.below bw5).blk (fun k hk => on6.block k (fun e => by have := (HSC.out.own.block k hk).1; omega)), hp6, (HSC.out.turn.trans (Turn.of_below bw5 _)).trans (Turn.of_only on6 rfl)⟩
              have HM0 : Hid (wr.cell? ⟨B + 1, 1, none⟩ = some (.int .i64 (d : Int))) := HS.out.at_.2.1
              have HM1 : Hid (w6.cell? ⟨B + 1, 1, none⟩ = some (.int .i64 ((d : Int) + 1))) := hp6.2.1
              clear hp5 hp6 on6 hw6 bw5 e0 e1 e2 e3 e4 hbt hhf hst ha2 ha3
              go_wp2_with fail
              go_roundw
              case rel => exact ⟨d + 1, c, by omega, rfl, HXC.out, by rw [HY.out]; have := HO.out; exact (by simpa using this)⟩
              case measure => rw [HM0.out, HM1.out]; simp; omega
        · subst hi
          have hbt := fun W => bit_val W h0 h1 (show d < 32 by omega) hk
          have hst := hTr.step (show d < 32 by omega) HBb.out hk
          have hq2 : kq a (d + 1) = 2 * kq a d + 1 := by rw [kq_succ a (show d < 32 by omega), hk]
          rcases hx : blk (d + 1) (kq a (d + 1)) with _ | c
          · rw [hx] at hst
            unfold ptrO at hst
            have hE : ovP s.f a (l + 1) = ovP s.f a (d + 1) := ovP_stop (by omega) (fun e he1 he2 => by
              rcases hf : s.f e (kq a e) with _ | vv
              · rfl
              · obtain ⟨z, hz⟩ := HT.out.has e _ (by rw [hf]; simp)
                rw [HT.out.none_below hx he1 (kq_up a he1 (by omega))] at hz; cases hz)
            have HZ : Hid (Lists (ovP s.f a (l + 1)) w (.returned u5) wc) := ⟨u5, rfl, by rw [HBE.out, hE]; exact HSC.out.own.base (by omega), by rw [HBE.out]; exact Turn.below HB.out (by have := HS2.out; omega) HSC.out.turn (fun k hk => by omega)⟩
            clear hTr hk hx hE hq2 hS
            go_wp2_with (go_at_call 35; refine (hbt _).mono ?_; rintro e wc ⟨rfl, rfl⟩)
            go_ret
            exact HZ.out
          · rw [hx] at hst
            unfold ptrO at hst
            obtain ⟨Y, hY⟩ : ∃ Y, ka (d + 1) (kq a (d + 1)) = Y := ⟨_, rfl⟩
            have hhf : ∀ W, Calls Tryd.prog 37 #[.agg #[.int .i64 X, .int .i64 (d : Int)], .int .i64 (1 : Int)] W fun e w' => e = .returned (.agg #[.int .i64 Y, .int .i64 ((d : Int) + 1)]) ∧ Below W.heap.size W w' := fun W => by
              have h := half_any d (kq a d) 1 W (by omega) (kq_lt h0 h1 (by omega)) (by omega)
              rw [← hq2, hY, HX.out, show ((d + 1 : Nat) : Int) = (d : Int) + 1 by push_cast; rfl] at h
              exact h
            have HY : Hid (ka (d + 1) (kq a (d + 1)) = Y) := hY
            have HXC : Hid (blk (d + 1) (kq a (d + 1)) = some c) := hx
            have hbc : b < wc.heap.size := cell_lt hst
            have ha2 := hS.at_.2.2.1
            have ha3 := hS.at_.2.2.2
            clear hTr hk hx hq2 hY hS
            go_upto_region 10 with (go_at_call 35; refine (hbt _).mono ?_; rintro e wc ⟨rfl, rfl⟩)
            go_region_with (go_at_call 37; refine (hhf _).mono ?_; rintro e w5 ⟨rfl, bw5⟩; have bw5 : Below wc.heap.size wc w5 := ⟨bw5.os, bw5.tape, bw5.output, bw5.size, bw5.block⟩; have hp5 := HSC.out.at_.keepB (bw5.block _ HSC.out.at_.lt); obtain ⟨e0, e1, e2, e3⟩ := id hp5; have e4 : w5.cell? ⟨b, 1, none⟩ = some (.pointer (some ⟨c, 0, none⟩)) := by rw [bw5.cell (p := ⟨b, 1, none⟩) hbc]; exact hst)
            all_goals
              have hp6 := (hp5.set0 Y).set1 ((d : Int) + 1)
              have on6 : Only (B + 1) w5 ((w5.setCell ⟨B + 1, 0, none⟩ (.int .i64 Y)).setCell ⟨B + 1, 1, none⟩ (.int .i64 ((d : Int) + 1))) := ((Only.refl _ _).setCell 0 _).setCell 1 _
              obtain ⟨w6, hw6⟩ : ∃ w6, (w5.setCell ⟨B + 1, 0, none⟩ (.int .i64 Y)).setCell ⟨B + 1, 1, none⟩ (.int .i64 ((d : Int) + 1)) = w6 := ⟨_, rfl⟩
              rw [hw6] at hp6 on6 ⊢
              have HO : Hid (OvS w2 B Y ((d : Int) + 1) u5 (ovP s.f a (d + 1)) w6) := ⟨(HSC.out.own.below bw5).blk (fun k hk => on6.block k (fun e => by have := (HSC.out.own.block k hk).1; omega)), hp6, (HSC.out.turn.trans (Turn.of_below bw5 _)).trans (Turn.of_only on6 rfl)⟩
              have HM0 : Hid (wr.cell? ⟨B + 1, 1, none⟩ = some (.int .i64 (d : Int))) := HS.out.at_.2.1
              have HM1 : Hid (w6.cell? ⟨B + 1, 1, none⟩ = some (.int .i64 ((d : Int) + 1))) := hp6.2.1
              clear hp5 hp6 on6 hw6 bw5 e0 e1 e2 e3 e4 hbt hhf hst ha2 ha3
              go_wp2_with fail
              go_roundw
              case rel => exact ⟨d + 1, c, by omega, rfl, HXC.out, by rw [HY.out]; have := HO.out; exact (by simpa using this)⟩
              case measure => rw [HM0.out, HM1.out]; simp; omega
      · have hdl' : d = l := by omega
        subst hdl'
        have HZ : Hid (Lists (ovP s.f a (d + 1)) w (.returned u5) wc) := HL.out u5 wc (by rw [HX.out]; exact HSC.out)
        clear hTr hcut hS n2 n3
        go_wp2_with fail
        go_ret
        exact HZ.out
end Go.Proofs.YtdpnmhfhjcebbaaDoor
