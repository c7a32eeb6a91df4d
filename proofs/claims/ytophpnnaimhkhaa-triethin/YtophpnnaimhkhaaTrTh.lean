/- The law TrieThin of package portlaw2 returns true, for every list of pairs and every address; the walk of its text. -/
import Derived.Test.YtophpnnaimhkhaaTrieThn
import Derived.Test.YtophpnnaimhkhaaRefNum
import Derived.Test.YtophpnnaimhkhaaQuietX
namespace Go.Proofs.Ytophpnnaimhkhaa
open Go.RowKit
set_option linter.unusedVariables false

/-! ### one prefix -/
theorem one_fact : (putV newV 16777216 8 5).2 = (true, 0) ∧ findE (putV newV 16777216 8 5).1 16777217 = 0 ∧ (findV (putV newV 16777216 8 5).1 16777217).v = 5 := by
  have hp : prefE 16777216 8 = 0 := by decide
  obtain ⟨h1, h2, h3, h4⟩ := put_then (s := newV) (a := 16777216) (l := 8) (v := 5) (x := 0) OkV.new hp (by decide)
  have hn : atV newV 16777216 8 = none := rfl
  rw [hn] at h2
  have hok := OkV.new.put 16777216 8 5
  obtain ⟨f1, f2, f3⟩ := put_found (x := 16777217) hok hp h4 (by decide)
  refine ⟨Prod.ext h2 h1, f1, ?_⟩
  obtain ⟨d, v, hd, hf, he, _⟩ := find_has hok f1
  rw [he]
  show v = 5
  rw [h3] at hf
  unfold setV at hf
  split at hf
  · simpa using hf.symm
  · cases hf
/-- A row of pairs, put one by one into a trie. -/
theorem puts_one {F0 : Nat → Prop} {w0 wr : World} {tb k : Nat} {ps : List Pr} (hS : TS F0 w0 wr tb (stV (ps.take k))) (hF : ∀ k, F0 k → k < w0.heap.size) (hk : k < ps.length) (h0 : (putV (stV (ps.take k)) ps[k].a ps[k].l ps[k].v).2.2 = 0) {q : Pr} (hq : ps[k] = q) :
    Calls Try.prog 6 #[.pointer (some ⟨tb, 0, none⟩), .agg #[.int .i64 q.a, .int .i64 q.l], .int .i64 q.v] wr.drew fun e w' => ∃ bb : Bool, e = .returned (.tuple #[.bool bb, .nilIface]) ∧ TS F0 w0 w' tb (stV (ps.take (k + 1))) := by
  subst hq
  refine (hS.drew.put hF _ _ _).mono ?_
  rintro e w' ⟨rfl, h2⟩
  rw [h0]
  exact ⟨_, rfl, by rw [stV_take hk]; exact h2⟩
theorem TrieAt.find {w : World} {F : Nat → Prop} {tb : Nat} {s : Tv} (h : TrieAt w F tb s) (hF : ∀ k, F k → k < w.heap.size) (x : Int) :
    Calls Try.prog 7 #[.pointer (some ⟨tb, 0, none⟩), .int .i64 x] w fun e w' => e = .returned (.tuple #[.agg #[.int .i64 (findV s x).a, .int .i64 (findV s x).l, .int .i64 (findV s x).v], errT (findE s x)]) ∧ Below w.heap.size w w' := find_any F tb s x w h hF
set_option maxRecDepth 100000 in
set_option maxHeartbeats 40000000 in
theorem thin_walk (v : Value) (ps : List Pr) (x : Int) (w : World) {q1 q2 : Prop} (hv : Prs w v ps) (h1 : q1) (h2 : q2) :
    Calls Try.prog 3 #[v, .int .i64 x] w fun e w' => e = .returned (.bool true) ∧ Below w.heap.size w w' := by
  obtain ⟨ao, co, hve⟩ := hv.len
  obtain ⟨N, hN⟩ : ∃ N, ps.length = N := ⟨_, rfl⟩
  rw [hN] at hve
  subst hve
  have hnw := newTrie_any w
  have HV : Hid (Prs w (.slice ao N co) ps) := hv
  have HN : Hid (ps.length = N) := hN
  clear hv hN h1 h2
  go_enter Try.func3, Try.ntmps3
  go_upto_region 2 with (go_at_call 5; refine hnw.mono ?_; rintro e w1 ⟨rfl, hT1, b1, hs1⟩; have HS1 : Hid (w1.heap.size = w.heap.size + 1) := hs1; clear hs1)
  obtain ⟨B, hBe⟩ : ∃ B, w.heap.size = B := ⟨_, rfl⟩
  rw [hBe] at hT1 b1 ⊢
  have HBE : Hid (w.heap.size = B) := hBe
  have hT1' : TS (fun k => k = B) w1 w1 B newV := ⟨hT1.mono (fun k hk => .inl hk), Turn.refl _ _⟩
  have hF1 : ∀ k, k = B → k < w1.heap.size := fun k hk => by have := HS1.out; omega
  have hput := hT1'.put hF1 16777216 8 5
  rw [one_fact.1] at hput
  simp only at hput
  rw [show errT 0 = .nilIface from rfl] at hput
  have HF1 : Hid (∀ k, k = B → k < w1.heap.size) := hF1
  have HB1 : Hid (Below B w w1) := b1
  clear hnw hT1 hT1' hF1 b1 hBe
  go_upto_region 3 with (go_at_call 6; refine hput.mono ?_; rintro e w2 ⟨rfl, hT2⟩)
  have hfd := hT2.find HF1.out 16777217
  rw [one_fact.2.1, one_fact.2.2] at hfd
  rw [show errT 0 = .nilIface from rfl] at hfd
  obtain ⟨qa, hqa⟩ : ∃ qa, (findV (putV newV 16777216 8 5).1 16777217).a = qa := ⟨_, rfl⟩
  obtain ⟨ql, hql⟩ : ∃ ql, (findV (putV newV 16777216 8 5).1 16777217).l = ql := ⟨_, rfl⟩
  rw [hqa, hql] at hfd
  have HB2 : Hid (Below B w w2) := Turn.below HB1.out (by have := HS1.out; have := HBE.out; omega) hT2.turn (fun k hk => by omega)
  clear hput hT2 hqa hql
  go_upto_region 4 with (go_at_call 7; refine hfd.mono ?_; rintro e w3 ⟨rfl, b3, _⟩)
  have hx4 := TriAt.new w3 ⟨qa, ql, 5⟩
  have bw4 : Below w3.heap.size w3 (w3.alloc (.cells #[.int .i64 qa, .int .i64 ql, .int .i64 5] 32)) := (Below.refl _ _).alloc (Nat.le_refl _) _
  simp only at hx4
  obtain ⟨w4, hw4⟩ : ∃ w4, w3.alloc (.cells #[.int .i64 qa, .int .i64 ql, .int .i64 5] 32) = w4 := ⟨_, rfl⟩
  rw [hw4] at hx4 bw4 ⊢
  obtain ⟨g4, hg4⟩ : ∃ g4, w3.heap.size = g4 := ⟨_, rfl⟩
  rw [hg4] at hx4 ⊢
  obtain ⟨y0, y1, y2⟩ := hx4.cells
  simp only at y0 y1 y2
  have hsz2 : B ≤ w2.heap.size := by have := HB2.out.size; have := HBE.out; omega
  have HB4 : Hid (Below B w w4) := HB2.out.trans ((b3.trans (bw4.mono b3.size)).mono hsz2)
  have HV4 : Hid (Prs w4 (.slice ao N co) ps) := by
    refine HV.out.below ?_
    rw [HBE.out]; exact HB4.out
  have hth := thin_any (.slice ao N co) ps w4 HV4.out
  unfold Thins at hth
  clear hfd hw4 hg4 hx4 bw4 b3 hsz2
  by_cases hE : ¬ thinE ps = 0
  · as_aux_lemma =>
      have hev : errT (thinE ps) = .iface 51 (.int .i64 (thinE ps)) := by unfold errT; rw [if_neg hE]
      rw [hev] at hth
      generalize thinE ps = n at hth
      clear hev hE
      go_upto_region 7 with (go_at_call 8; refine hth.mono ?_; rintro e w5 ⟨v5, rfl, _, b5⟩)
      have HZ : Hid (Below B w w5) := HB4.out.trans (b5.mono (by have := HB4.out.size; have := HBE.out; omega))
      clear hth b5
      go_wp2_with fail
      go_ret
      exact ⟨rfl, by rw [HBE.out]; exact HZ.out⟩
  have hE := Classical.not_not.1 hE
  rw [if_pos hE, hE, show errT 0 = .nilIface from rfl] at hth
  obtain ⟨T, hT⟩ : ∃ T, thinL ps = T := ⟨_, rfl⟩
  obtain ⟨t1, t2, t3⟩ := thin_state hE
  obtain ⟨t4, t5⟩ := thin_again hE
  have hfind := find_thin hE x
  obtain ⟨e1, e2⟩ := thinE_zero hE
  rw [hT] at hth t1 t2 t4 t5 hfind
  have HT1 : Hid (T.length ≤ N) := by show T.length ≤ N; rw [← HN.out]; exact t1
  have HT2 : Hid (∀ k (hk : k < T.length), (putV (stV (T.take k)) T[k].a T[k].l T[k].v).2.2 = 0) := by subst hT; exact t2
  have HT4 : Hid (thinE T = 0 ∧ thinL T = T) := ⟨t4, t5⟩
  have HFT : Hid ((findE (stV ps) x = 0 ↔ findE (stV T) x = 0) ∧ (findV (stV ps) x).v = (findV (stV T) x).v) := hfind
  have HE2 : Hid (∀ k (hk : k < ps.length), (putV (stV (ps.take k)) ps[k].a ps[k].l ps[k].v).2.2 = 0) := e2
  clear hE hT t1 t2 t3 t4 t5 hfind e1 e2
  go_upto_region 9 with (go_at_call 8; refine hth.mono ?_; rintro e w5 ⟨v5, rfl, own5, b5⟩; obtain ⟨aT, cT, hv5⟩ := own5.len; subst hv5)
  obtain ⟨M, hM⟩ : ∃ M, T.length = M := ⟨_, rfl⟩
  rw [hM] at own5 HT1 ⊢
  have HM : Hid (T.length = M) := hM
  have HB5 : Hid (Below B w w5 ∧ w4.heap.size ≤ w5.heap.size ∧ B ≤ w4.heap.size) := ⟨HB4.out.trans (b5.mono (by have := HB4.out.size; have := HBE.out; omega)), b5.size, by have := HB4.out.size; have := HBE.out; omega⟩
  have HOW5 : Hid (OwnR w5 w4.heap.size (.slice aT M cT) T) := own5
  have hn6 := newTrie_any w5
  clear hth own5 b5 y0 y1 y2 hM
  go_upto_region 10 with (go_at_call 5; refine hn6.mono ?_; rintro e w6 ⟨rfl, hX6, b6, hs6⟩; have HS6 : Hid (w6.heap.size = w5.heap.size + 1) := hs6; clear hs6)
  have hn7 := newTrie_any w6
  clear hn6
  go_upto_region 12 with (go_at_call 5; refine hn7.mono ?_; rintro e w7 ⟨rfl, hY7, b7, hs7⟩; have HS7 : Hid (w7.heap.size = w6.heap.size + 1) := hs7; clear hs7)
  obtain ⟨tx, htx⟩ : ∃ tx, w5.heap.size = tx := ⟨_, rfl⟩
  obtain ⟨ty, hty⟩ : ∃ ty, w6.heap.size = ty := ⟨_, rfl⟩
  rw [htx] at hX6 b6
  rw [hty] at hY7 b7
  rw [htx, hty]
  have HSZ : Hid (w5.heap.size = tx ∧ ty = tx + 1 ∧ w7.heap.size = tx + 2 ∧ B ≤ w4.heap.size ∧ w4.heap.size ≤ tx ∧ w.heap.size = B) := ⟨htx, by have := HS6.out; omega, by have := HS7.out; have := HS6.out; omega, HB5.out.2.2, by have := HB5.out; omega, HBE.out⟩
  have b57 : Below tx w5 w7 := b6.trans (b7.mono (by have := HSZ.out; omega))
  have HX7 : Hid (TS (fun k => k = tx) w7 w7 tx newV) := ⟨(hX6.keep (fun k hk => b7.block k (by have := HSZ.out; omega))).mono (fun k hk => .inl hk), Turn.refl _ _⟩
  have HFX : Hid (∀ k, k = tx → k < w7.heap.size) := fun k hk => by have := HSZ.out; omega
  have HY7 : Hid (TrieAt w7 (fun k => k = ty) ty newV) := hY7
  have HB7 : Hid (Below B w w7) := HB5.out.1.trans (b57.mono (by have := HSZ.out; omega))
  have HOW7 : Hid (OwnR w7 w4.heap.size (.slice aT M cT) T) := HOW5.out.blk (fun k hk => b57.block k (by have := (HOW5.out.block k hk).2; have := HSZ.out; omega))
  have HOWk : Hid (∀ k, (Value.slice aT M cT).ownBlock = some k → k < tx) := fun k hk => by have := (HOW5.out.block k hk).2; have := HSZ.out; omega
  clear hn7 hX6 b6 hY7 b7 b57 htx hty HS6 HS7
  go_loopw [14] (fun i wr => ∃ k : Nat, k ≤ N ∧ i = .int .i64 (k : Int) ∧ TS (fun k => k = tx) w7 wr tx (stV (ps.take k))) (fun i _ => ((N : Int) - intOf i).toNat)
  case atStart => exact ⟨0, by omega, rfl, by rw [List.take_zero]; exact HX7.out⟩
  case round =>
    obtain ⟨k, hk, rfl, hS⟩ := hrel
    have HBR : Hid (Below B w wr) := Turn.below HB7.out (by have := HSZ.out; omega) hS.turn (fun k hk => by have := HSZ.out; omega)
    by_cases hkn : k < N
    · as_aux_lemma =>
        have i1 : (k : Int) < (N : Int) := by omega
        have i3 : (0 : Int) ≤ (k : Int) := by omega
        have hkp : k < ps.length := by have := HN.out; omega
        obtain ⟨b1, o1, e1, hb1, hl1, hx1, hc1⟩ := HV.out.shape (by omega)
        subst e1
        have hb1' : b1 < B := by have := HSZ.out; omega
        have hx1' : co ≤ 9223372036854775807 := by unfold maxLen at hx1; omega
        obtain ⟨q, hq⟩ : ∃ q, ps[k] = q := ⟨_, rfl⟩
        have hput := puts_one hS HFX.out hkp (HE2.out k hkp) hq
        have hc2 := (hc1 k hkp).keep (HBR.out.block b1 hb1')
        rw [hq] at hc2
        have hS0 : wr.cell? ⟨b1, o1 + k * 3, none⟩ = some (.int .i64 q.a) ∧ wr.cell? ⟨b1, o1 + k * 3 + 1, none⟩ = some (.int .i64 q.l) ∧ wr.cell? ⟨b1, o1 + k * 3 + 2, none⟩ = some (.int .i64 q.v) := hc2
        have HX0 : Hid (PrCells wr b1 (o1 + k * 3) q) := hc2
        have HTR : Hid (Turn (fun k => k = tx) w7 wr) := hS.turn
        clear hc1 hx1 hS hkp hc2 hq
        go_upto_region 14 with fail
        go_region_held3 (fun W => W.cell? ⟨b1, o1 + k * 3, none⟩ = some (.int .i64 q.a) ∧ W.cell? ⟨b1, o1 + k * 3 + 1, none⟩ = some (.int .i64 q.l) ∧ W.cell? ⟨b1, o1 + k * 3 + 2, none⟩ = some (.int .i64 q.v)) (with_reducible first | assumption | go_keep) (first
          | (go_at_call 6; refine hput.mono ?_; rintro e w5 ⟨bb, rfl, hS5⟩; have hc5 : w5.cell? ⟨b1, o1 + k * 3, none⟩ = some (.int .i64 q.a) ∧ w5.cell? ⟨b1, o1 + k * 3 + 1, none⟩ = some (.int .i64 q.l) ∧ w5.cell? ⟨b1, o1 + k * 3 + 2, none⟩ = some (.int .i64 q.v) := HX0.out.keep ((hS5.turn.block b1 (by have := HSZ.out; omega) (by have := HSZ.out; omega)).trans (HTR.out.block b1 (by have := HSZ.out; omega) (by have := HSZ.out; omega)).symm)))
        clear hc5 hS0 hput
        go_wp2_with fail
        go_roundw
        case rel => exact ⟨k + 1, by omega, by go_num, hS5⟩
        case measure => simp [intOf]; omega
    have hkn' : k = N := by omega
    subst hkn'
    have i1 : ¬ (k : Int) < (k : Int) := by omega
    have hall : ps.take k = ps := by rw [← HN.out]; exact List.take_length
    rw [hall] at hS
    obtain ⟨hXr, hFXr⟩ := hS.rebase HFX.out (Below.refl wr.heap.size wr)
    obtain ⟨Gx, hGx⟩ : ∃ G, Plus (fun k => k = tx) w7 wr = G := ⟨_, rfl⟩
    have hGy : ∀ k, Plus (fun k => k = tx) w7 wr k → k = tx ∨ tx + 2 ≤ k := fun k hk => by
      have := HSZ.out
      rcases hk with h | h
      · exact .inl h
      · exact .inr (by omega)
    rw [hGx] at hXr hFXr hGy
    have HXA : Hid (TrieAt wr Gx tx (stV ps)) := hXr.trie.mono (fun k hk => by
      rcases hk with h | h
      · exact h
      · omega)
    have HGX : Hid (∀ k, Gx k → (k = tx ∨ tx + 2 ≤ k) ∧ k < wr.heap.size) := fun k hk => ⟨hGy k hk, hFXr k hk⟩
    have HYA : Hid (TS (fun k => k = ty) wr wr ty newV) := ⟨(HY7.out.keep (fun k hk => hS.turn.block k (by have := HSZ.out; omega) (by have := HSZ.out; omega))).mono (fun k hk => .inl hk), Turn.refl _ _⟩
    have hsA := hS.turn.size
    have HSA : Hid (tx + 2 ≤ wr.heap.size) := by show tx + 2 ≤ wr.heap.size; have := HSZ.out; omega
    have HFY : Hid (∀ k, k = ty → k < wr.heap.size) := fun k hk => by have := HSZ.out; have := HSA.out; omega
    have HOWA : Hid (OwnR wr w4.heap.size (.slice aT M cT) T) := HOW7.out.blk (fun k hk => hS.turn.block k (by have := HOWk.out k hk; have := HSZ.out; omega) (by have := HOWk.out k hk; omega))
    clear hS hXr hFXr hGx hGy hsA hall hkn hk
    go_upto_region 18 with fail
    obtain ⟨wA, hwA⟩ : ∃ wA, wA = wr := ⟨_, rfl⟩
    subst hwA
    go_loopw [17] (fun i wB => ∃ j : Nat, j ≤ M ∧ i = .int .i64 (j : Int) ∧ TS (fun k => k = ty) wA wB ty (stV (T.take j))) (fun i _ => ((M : Int) - intOf i).toNat)
    case atStart => exact ⟨0, by omega, rfl, by rw [List.take_zero]; exact HYA.out⟩
    case round =>
      obtain ⟨j, hj, rfl, hS⟩ := hrel
      by_cases hjm : j < M
      · as_aux_lemma =>
          have i2 : (j : Int) < (M : Int) := by omega
          have i3 : (0 : Int) ≤ (j : Int) := by omega
          have hjl : j < T.length := by have := HM.out; omega
          obtain ⟨gL, capL, hvL, hgL1, hgL2, hlL, hxL⟩ := HOWA.out.shape (by omega)
          simp only [Value.slice.injEq] at hvL
          obtain ⟨hv1, hv2, hv3⟩ := hvL
          subst hv1 hv3
          have hcL : cT ≤ 9223372036854775807 := by unfold maxLen at hxL; omega
          have hcM : M ≤ cT := by omega
          have hgx : gL < tx := HOWk.out gL rfl
          obtain ⟨q, hq⟩ : ∃ q, T[j] = q := ⟨_, rfl⟩
          have hcel : PrCells wA gL (j * 3) q := by rw [← hq]; exact HOWA.out.cells j hjl
          have hput := puts_one hS HFY.out hjl (HT2.out j hjl) hq
          have hc2 := hcel.keep (hS.turn.block gL (by have := HSA.out; omega) (by have := HSZ.out; omega))
          have hS0 : wr.cell? ⟨gL, j * 3, none⟩ = some (.int .i64 q.a) ∧ wr.cell? ⟨gL, j * 3 + 1, none⟩ = some (.int .i64 q.l) ∧ wr.cell? ⟨gL, j * 3 + 2, none⟩ = some (.int .i64 q.v) := hc2
          have HX0 : Hid (PrCells wr gL (j * 3) q) := hc2
          have HTR : Hid (Turn (fun k => k = ty) wA wr) := hS.turn
          have HGL : Hid (gL < tx) := hgx
          clear hcel hS hjl hc2 hq hv2 hlL hxL hgL1 hgL2 hgx
          go_upto_region 20 with fail
          go_region_held3 (fun W => W.cell? ⟨gL, j * 3, none⟩ = some (.int .i64 q.a) ∧ W.cell? ⟨gL, j * 3 + 1, none⟩ = some (.int .i64 q.l) ∧ W.cell? ⟨gL, j * 3 + 2, none⟩ = some (.int .i64 q.v)) (with_reducible first | assumption | go_keep) (first
            | (go_at_call 6; refine hput.mono ?_; rintro e w5 ⟨bb, rfl, hS5⟩; have hc5 : w5.cell? ⟨gL, j * 3, none⟩ = some (.int .i64 q.a) ∧ w5.cell? ⟨gL, j * 3 + 1, none⟩ = some (.int .i64 q.l) ∧ w5.cell? ⟨gL, j * 3 + 2, none⟩ = some (.int .i64 q.v) := HX0.out.keep ((hS5.turn.block gL (by have := HGL.out; have := HSA.out; omega) (by have := HGL.out; have := HSZ.out; omega)).trans (HTR.out.block gL (by have := HGL.out; have := HSA.out; omega) (by have := HGL.out; have := HSZ.out; omega)).symm)))
          clear hc5 hS0 hput
          go_wp2_with fail
          go_roundw
          case rel => exact ⟨j + 1, by omega, by go_num, hS5⟩
          case measure => simp [intOf]; omega
      have hjm' : j = M := by omega
      subst hjm'
      have i2 : ¬ (j : Int) < (j : Int) := by omega
      have hall : T.take j = T := by rw [← HM.out]; exact List.take_length
      rw [hall] at hS
      have hXB : TrieAt wr Gx tx (stV ps) := HXA.out.keep (fun k hk => hS.turn.block k (HGX.out k hk).2 (by have := HGX.out k hk; have := HSZ.out; omega))
      have hsB := hS.turn.size
      have hfx := hXB.find (fun k hk => by have := (HGX.out k hk).2; omega) x
      obtain ⟨q1, hq1⟩ : ∃ q, findV (stV ps) x = q := ⟨_, rfl⟩
      obtain ⟨r1, hr1⟩ : ∃ r, errT (findE (stV ps) x) = r := ⟨_, rfl⟩
      rw [hq1, hr1] at hfx
      have HQ1 : Hid (findV (stV ps) x = q1) := hq1
      have HR1 : Hid (errT (findE (stV ps) x) = r1) := hr1
      have HYB : Hid (TS (fun k => k = ty) wA wr ty (stV T)) := hS
      have HBB : Hid (Below B w wr ∧ B ≤ wr.heap.size) := ⟨Turn.below HBR.out (by have := HSZ.out; have := HSA.out; omega) hS.turn (fun k hk => by have := HSZ.out; omega), by have := HSZ.out; have := HSA.out; omega⟩
      have HOWB : Hid (OwnR wr w4.heap.size (.slice aT j cT) T) := HOWA.out.blk (fun k hk => hS.turn.block k (by have := HOWk.out k hk; have := HSA.out; omega) (by have := HOWk.out k hk; have := HSZ.out; omega))
      clear hS hXB hsB hall hjm hj hq1 hr1
      go_upto_region 24 with (go_at_call 7; refine hfx.mono ?_; rintro e w10 ⟨rfl, b10⟩)
      have bw11 : Below w10.heap.size w10 (w10.alloc (.cells #[.int .i64 q1.a, .int .i64 q1.l, .int .i64 q1.v] 32)) := (Below.refl _ _).alloc (Nat.le_refl _) _
      have hx11 := TriAt.new w10 q1
      obtain ⟨w11, hw11⟩ : ∃ w11, w10.alloc (.cells #[.int .i64 q1.a, .int .i64 q1.l, .int .i64 q1.v] 32) = w11 := ⟨_, rfl⟩
      rw [hw11] at bw11 hx11 ⊢
      obtain ⟨g11, hg11⟩ : ∃ g11, w10.heap.size = g11 := ⟨_, rfl⟩
      rw [hg11] at hx11 ⊢
      have b11 : Below wr.heap.size wr w11 := b10.trans (bw11.mono b10.size)
      have hY11 := HYB.out.below HFY.out b11
      have hfy := hY11.find HFY.out x
      obtain ⟨q2, hq2⟩ : ∃ q, findV (stV T) x = q := ⟨_, rfl⟩
      obtain ⟨r2, hr2⟩ : ∃ r, errT (findE (stV T) x) = r := ⟨_, rfl⟩
      rw [hq2, hr2] at hfy
      have HQ2 : Hid (findV (stV T) x = q2) := hq2
      have HR2 : Hid (errT (findE (stV T) x) = r2) := hr2
      have HX11 : Hid (TriAt w11 g11 q1) := hx11
      have HB11 : Hid (Below wr.heap.size wr w11) := b11
      clear hfx b10 bw11 hx11 hw11 hg11 b11 hY11 hq2 hr2
      go_upto_region 25 with (go_at_call 7; refine hfy.mono ?_; rintro e w12 ⟨rfl, b12, _⟩)
      have bw13 : Below w12.heap.size w12 (w12.alloc (.cells #[.int .i64 q2.a, .int .i64 q2.l, .int .i64 q2.v] 32)) := (Below.refl _ _).alloc (Nat.le_refl _) _
      have hx13 := TriAt.new w12 q2
      obtain ⟨w13, hw13⟩ : ∃ w13, w12.alloc (.cells #[.int .i64 q2.a, .int .i64 q2.l, .int .i64 q2.v] 32) = w13 := ⟨_, rfl⟩
      rw [hw13] at bw13 hx13 ⊢
      obtain ⟨g13, hg13⟩ : ∃ g13, w12.heap.size = g13 := ⟨_, rfl⟩
      rw [hg13] at hx13 ⊢
      have b13 : Below w11.heap.size w11 w13 := b12.trans (bw13.mono b12.size)
      have HX13 : Hid (TriAt w13 g11 q1 ∧ TriAt w13 g13 q2) := ⟨HX11.out.keep (b13.block g11 HX11.out.lt), hx13⟩
      have b013 : Below wr.heap.size wr w13 := HB11.out.trans (b13.mono HB11.out.size)
      have HOW13 : Hid (OwnR w13 w4.heap.size (.slice aT j cT) T) := HOWB.out.below b013
      have HBB13 : Hid (Below B w w13) := HBB.out.1.trans (b013.mono HBB.out.2)
      have hth := thin_any (.slice aT j cT) T w13 HOW13.out.prs
      unfold Thins at hth
      rw [if_pos HT4.out.1, HT4.out.1, HT4.out.2, show errT 0 = .nilIface from rfl] at hth
      clear hfy b12 bw13 hx13 hw13 hg13 b13 b013
      go_upto_region 26 with (go_at_call 8; refine hth.mono ?_; rintro e w14 ⟨v14, rfl, own14, b14⟩)
      have hsm := samePrs v14 (.slice aT j cT) T w14 own14.prs (HOW13.out.below b14).prs
      clear hth own14
      go_upto_region 27 with (go_at_call 9; refine hsm.mono ?_; rintro e w15 ⟨rfl, b15⟩)
      have b1315 : Below w13.heap.size w13 w15 := b14.trans (b15.mono b14.size)
      have HX15 : Hid (TriAt w15 g11 q1 ∧ TriAt w15 g13 q2) := ⟨HX13.out.1.keep (b1315.block g11 HX13.out.1.lt), HX13.out.2.keep (b1315.block g13 HX13.out.2.lt)⟩
      have HBB15 : Hid (Below B w w15) := HBB13.out.trans (b1315.mono (by have := HBB13.out.size; have := HSZ.out; omega))
      have hqv : q1.v = q2.v := by rw [← HQ1.out, ← HQ2.out]; exact HFT.out.2
      obtain ⟨x0, x1, x2⟩ := HX15.out.1.cells
      obtain ⟨z0, z1, z2⟩ := HX15.out.2.cells
      rw [← hqv] at z2
      have hjk : ¬ (k : Int) < (j : Int) := by have := HT1.out; omega
      clear hsm b14 b15 b1315 hqv
      rcases Decidable.em (findE (stV ps) x = 0) with hf | hf
      · have hr := HR1.out
        rw [hf, show errT 0 = .nilIface from rfl] at hr
        have hrr := HR2.out
        rw [HFT.out.1.1 hf, show errT 0 = .nilIface from rfl] at hrr
        subst hr hrr
        have HF0 : Hid (findE (stV ps) x = 0) := hf
        clear hf
        go_big_quiet (fail)
        go_upto_region 30 with fail
        have HW : Hid (Below w15.heap.size w15 (w15.drewN nq)) := ⟨rfl, rfl, rfl, Nat.le_refl _, fun _ _ => rfl⟩
        obtain ⟨w16, hw16⟩ : ∃ w16, w15.drewN nq = w16 := ⟨_, rfl⟩
        rw [hw16] at HW ⊢
        have HBB16 : Hid (Below B w w16 ∧ B ≤ w16.heap.size) := ⟨HBB15.out.trans (HW.out.mono (by have := HBB15.out.size; have := HSZ.out; omega)), by have := HBB15.out.size; have := HW.out.size; have := HSZ.out; omega⟩
        have HX16 : Hid (TriAt w16 g11 q1) := HX15.out.1.keep (HW.out.block g11 HX15.out.1.lt)
        have HMO : Hid (∀ m (hm : m < ps.length), hasB ps[m].a ps[m].l x = true → ¬ q1.l < ps[m].l) := fun m hm hh => by
          rw [← HQ1.out]
          exact find_most HF0.out hh (stV_mem HE2.out ps[m] (List.getElem_mem hm))
        have HHB : Hid (hasB q1.a q1.l x = true) := by
          obtain ⟨_, _, _, _, _, h⟩ := find_has (stV_ok ps).1 HF0.out
          rw [HQ1.out] at h; exact h
        clear hw16 x0 x1 x2 z0 z1 z2 hjk
        go_loopw [27] (fun i wr => ∃ m : Nat, m ≤ k ∧ i = .int .i64 (m : Int) ∧ Below w16.heap.size w16 wr) (fun i _ => ((k : Int) - intOf i).toNat)
        case atStart => exact ⟨0, by omega, rfl, Below.refl _ _⟩
        case round =>
          obtain ⟨m, hm, rfl, bm⟩ := hrel
          by_cases hmk : m < k
          · have i4 : (m : Int) < (k : Int) := by omega
            have i5 : (0 : Int) ≤ (m : Int) := by omega
            have hmp : m < ps.length := by have := HN.out; omega
            obtain ⟨b1, o1, e1, hb1, hl1, hx1, hc1⟩ := HV.out.shape (by omega)
            subst e1
            have hb1' : b1 < B := by have := HSZ.out; omega
            have hx1' : co ≤ 9223372036854775807 := by unfold maxLen at hx1; omega
            obtain ⟨q, hq⟩ : ∃ q, ps[m] = q := ⟨_, rfl⟩
            have HBM : Hid (Below B w wr) := HBB16.out.1.trans (bm.mono HBB16.out.2)
            have hc2 := (hc1 m hmp).keep (HBM.out.block b1 hb1')
            rw [hq] at hc2
            have hp2 := (HX16.out.keep (bm.block g11 HX16.out.lt)).cells.2.1
            have hmo := HMO.out m hmp
            rw [hq] at hmo
            have hha := fun W => refHas_any q.a q.l x W
            have hhs := hha wr.drew
            have hS0 : wr.cell? ⟨b1, o1 + m * 3, none⟩ = some (.int .i64 q.a) ∧ wr.cell? ⟨b1, o1 + m * 3 + 1, none⟩ = some (.int .i64 q.l) ∧ wr.cell? ⟨g11, 1, none⟩ = some (.int .i64 q1.l) := ⟨hc2.1, hc2.2.1, hp2⟩
            have hlt11 : g11 < wr.heap.size := by have := HX16.out.lt; have := bm.size; omega
            have hltb : b1 < wr.heap.size := by have := HBB16.out.2; have := bm.size; omega
            have HBm : Hid (Below w16.heap.size w16 wr) := bm
            clear hc1 hx1 hq hmp hp2 bm
            rcases hhb : hasB q.a q.l x with _ | _
            · as_aux_lemma =>
                rw [hhb] at hha
                have hhs := hha
                clear hhb hmo hha
                go_upto_region 32 with fail
                have hx0 := Ext.cell hS0.1
                have hx1 := Ext.cell hS0.2.1
                have hx2 := Ext.cell hS0.2.2
                have hcl := Ext.call (w := wr) hhs
                refine wp_region_ext (by kernel_rfl) (by kernel_rfl) ?_
                repeat (go_big_quiet_step ((go_at_call 10; exact hcl _)))
                refine wpQuiet_nil ?_
                rintro _ ⟨u, rfl⟩
                have HO : Hid (Below w16.heap.size w16 u.W) := HBm.out.trans (u.h.mono HBm.out.size)
                obtain ⟨w20, hw20⟩ : ∃ w20, u.W = w20 := ⟨_, rfl⟩
                rw [hw20] at HO ⊢
                clear hw20 hx0 hx1 hx2 hcl hhs hS0 hc2
                go_wp2_with fail
                go_roundw
                case rel => exact ⟨m + 1, by omega, by go_num, HO.out⟩
                case measure => simp [intOf]; omega
            · as_aux_lemma =>
                rw [hhb] at hhs
                have hmo2 := hmo hhb
                clear hhb hmo
                go_upto_region 32 with fail
                go_region_held3 (fun W => W.cell? ⟨b1, o1 + m * 3, none⟩ = some (.int .i64 q.a) ∧ W.cell? ⟨b1, o1 + m * 3 + 1, none⟩ = some (.int .i64 q.l) ∧ W.cell? ⟨g11, 1, none⟩ = some (.int .i64 q1.l)) (with_reducible first | assumption | go_keep) (first
                  | (go_at_call 10; refine hhs.mono ?_; rintro e w20 ⟨rfl, b20⟩; have b20 := drew_below b20; have hc5 : w20.cell? ⟨b1, o1 + m * 3, none⟩ = some (.int .i64 q.a) ∧ w20.cell? ⟨b1, o1 + m * 3 + 1, none⟩ = some (.int .i64 q.l) ∧ w20.cell? ⟨g11, 1, none⟩ = some (.int .i64 q1.l) := ⟨(World.cell?_of_block (w := wr) (a := ⟨b1, o1 + m * 3, none⟩) (b20.block b1 hltb)).trans hS0.1, (World.cell?_of_block (w := wr) (a := ⟨b1, o1 + m * 3 + 1, none⟩) (b20.block b1 hltb)).trans hS0.2.1, (World.cell?_of_block (w := wr) (a := ⟨g11, 1, none⟩) (b20.block g11 hlt11)).trans hS0.2.2⟩))
                have HO : Hid (Below w16.heap.size w16 w20) := HBm.out.trans (b20.mono HBm.out.size)
                clear b20 hhs hS0 hc5 hc2
                go_wp2_with fail
                go_roundw
                case rel => exact ⟨m + 1, by omega, by go_num, HO.out⟩
                case measure => simp [intOf]; omega
          · have hmk' : m = k := by omega
            subst hmk'
            have i4 : ¬ (m : Int) < (m : Int) := by omega
            have hhs := refHas_any q1.a q1.l x wr
            rw [HHB.out] at hhs
            obtain ⟨x0, x1, x2⟩ := (HX16.out.keep (bm.block g11 HX16.out.lt)).cells
            have HBM : Hid (Below B w wr ∧ B ≤ wr.heap.size) := ⟨HBB16.out.1.trans (bm.mono HBB16.out.2), by have := HBB16.out.2; have := bm.size; omega⟩
            clear bm
            go_wp2_with (go_at_call 10; refine hhs.mono ?_; rintro e w20 ⟨rfl, b20⟩)
            go_ret
            exact ⟨rfl, by rw [HBE.out]; exact HBM.out.1.trans (b20.mono HBM.out.2)⟩
      · have hr := HR1.out
        unfold errT at hr
        rw [if_neg hf] at hr
        have hrr := HR2.out
        unfold errT at hrr
        rw [if_neg (fun h => hf (HFT.out.1.2 h))] at hrr
        subst hr hrr
        clear hf
        go_big_quiet (fail)
        go_upto_region 30 with fail
        have HBB16 : Hid (Below B w (w15.drewN nq)) := ⟨HBB15.out.os, HBB15.out.tape, HBB15.out.output, HBB15.out.size, HBB15.out.block⟩
        obtain ⟨w16, hw16⟩ : ∃ w16, w15.drewN nq = w16 := ⟨_, rfl⟩
        rw [hw16] at HBB16 ⊢
        clear hw16 x0 x1 x2 z0 z1 z2 hjk
        rcases Nat.eq_zero_or_pos k with hk0 | hk0
        · subst hk0
          refine wp_loop_rounds 1 ?_
          rw [rounds_succ]
          go_wp2_with fail
          go_ret
          exact ⟨rfl, by rw [HBE.out]; exact HBB16.out⟩
        · have i4 : (0 : Int) < (k : Int) := by omega
          refine wp_loop_rounds 1 ?_
          rw [rounds_succ]
          go_wp2_with fail
          go_ret
          exact ⟨rfl, by rw [HBE.out]; exact HBB16.out⟩
end Go.Proofs.Ytophpnnaimhkhaa
