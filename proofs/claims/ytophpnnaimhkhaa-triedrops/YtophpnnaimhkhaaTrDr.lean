/- The law TrieDrops of package portlaw4 returns true, for every list of pairs, prefix, address and value; the walk of its text. -/
import Derived.Test.YtophpnnaimhkhaaTrTS
namespace Go.Proofs.Ytophpnnaimhkhaa
open Go.RowKit
set_option linter.unusedVariables false

set_option maxRecDepth 100000 in
set_option maxHeartbeats 40000000 in
theorem drops_walk (v : Value) (ps : List Pr) (a l x vv : Int) (w : World) {q1 q2 q3 q4 q5 : Prop} (hv : Prs w v ps) (h1 : q1) (h2 : q2) (h3 : q3) (h4 : q4) (h5 : q5) :
    Calls Try.prog 4 #[v, .agg #[.int .i64 a, .int .i64 l], .int .i64 x, .int .i64 vv] w fun e w' => e = .returned (.bool true) ∧ Below w.heap.size w w' := by
  have hB : Below w.heap.size w (w.alloc (.cells #[.int .i64 a, .int .i64 l] 30)) := (Below.refl _ _).alloc (Nat.le_refl _) _
  have hp := PairAt.new w a l 30
  obtain ⟨ao, co, hve⟩ := hv.len
  obtain ⟨N, hN⟩ : ∃ N, ps.length = N := ⟨_, rfl⟩
  rw [hN] at hve
  subst hve
  have hnw := newTrie_any (w.alloc (.cells #[.int .i64 a, .int .i64 l] 30))
  have hs1 : (w.alloc (.cells #[.int .i64 a, .int .i64 l] 30)).heap.size = w.heap.size + 1 := by simp
  rw [hs1] at hnw
  have HV : Hid (Prs w (.slice ao N co) ps) := hv
  have HN : Hid (ps.length = N) := hN
  have HB1 : Hid (Below w.heap.size w (w.alloc (.cells #[.int .i64 a, .int .i64 l] 30))) := hB
  have HP1 : Hid (PairAt (w.alloc (.cells #[.int .i64 a, .int .i64 l] 30)) w.heap.size a l) := hp
  have HS1 : Hid ((w.alloc (.cells #[.int .i64 a, .int .i64 l] 30)).heap.size = w.heap.size + 1) := hs1
  clear hB hp hv hN hs1 h1 h2 h3 h4 h5
  go_enter Try.func4, Try.ntmps4
  go_upto_region 3 with (go_at_call 5; refine hnw.mono ?_; rintro e w2 ⟨rfl, hT2, b2, hs2⟩; have HS2 : Hid (w2.heap.size = w.heap.size + 1 + 1) := hs2; clear hs2)
  obtain ⟨B, hBe⟩ : ∃ B, w.heap.size = B := ⟨_, rfl⟩
  obtain ⟨tb, htb⟩ : ∃ tb, B + 1 = tb := ⟨_, rfl⟩
  rw [hBe, htb] at hT2 b2
  rw [hBe, htb]
  have HBE : Hid (w.heap.size = B) := hBe
  have HTB : Hid (B + 1 = tb) := htb
  have HSZ : Hid (w2.heap.size = B + 2 ∧ tb = B + 1 ∧ w.heap.size = B) := ⟨by have := HS2.out; omega, htb.symm, hBe⟩
  have HF : Hid (∀ k, k = tb → k < w2.heap.size) := fun k hk => by have := HSZ.out; omega
  have HB2 : Hid (Below B w w2) := by
    have h1 := HB1.out
    rw [hBe] at h1
    exact h1.trans (b2.mono (by omega))
  have HP2 : Hid (PairAt w2 B a l) := by
    have h1 := HP1.out
    rw [hBe] at h1
    exact h1.keepB (b2.block B (by omega))
  have HT2 : Hid (TS (fun k => k = tb) w2 w2 tb newV) := ⟨hT2.mono (fun k hk => .inl hk), Turn.refl _ _⟩
  clear hnw hT2 b2 hBe htb HS2 HS1 HB1 HP1
  go_loopw [10] (fun i wr => ∃ k : Nat, k ≤ N ∧ k ≤ 199 ∧ i = .int .i64 (k : Int) ∧ TS (fun k => k = tb) w2 wr tb (stV (ps.take k))) (fun i _ => ((N : Int) - intOf i).toNat)
  case atStart => exact ⟨0, by omega, by omega, rfl, by rw [List.take_zero]; exact HT2.out⟩
  case round =>
    obtain ⟨k, hk, hk9, rfl, hS⟩ := hrel
    have HBR : Hid (Below B w wr) := Turn.below HB2.out (by have := HSZ.out; omega) hS.turn (fun k hk => by have := HSZ.out; omega)
    by_cases hkc : k < N ∧ k < 199
    · as_aux_lemma =>
        obtain ⟨hkn, hk8⟩ := hkc
        have i1 : (k : Int) < (N : Int) := by omega
        have i2 : (k : Int) < 199 := by omega
        have i3 : (0 : Int) ≤ (k : Int) := by omega
        have hkp : k < ps.length := by have := HN.out; omega
        obtain ⟨b1, o1, e1, hb1, hl1, hx1, hc1⟩ := HV.out.shape (by omega)
        subst e1
        have hb1' : b1 < B := by have := HSZ.out; omega
        obtain ⟨x0, x1, x2⟩ := (hc1 k hkp).keep (HBR.out.block b1 hb1')
        have hx1' : co ≤ 9223372036854775807 := by unfold maxLen at hx1; omega
        have hput : Calls Try.prog 6 #[.pointer (some ⟨tb, 0, none⟩), .agg #[.int .i64 (ps[k]).a, .int .i64 (ps[k]).l], .int .i64 (ps[k]).v] wr.drew fun e w' => ∃ (bb : Bool) (ev : Value), e = .returned (.tuple #[.bool bb, ev]) ∧ TS (fun k => k = tb) w2 w' tb (stV (ps.take (k + 1))) := by
          have h0 := hS.drew
          refine (h0.put HF.out (ps[k]).a (ps[k]).l (ps[k]).v).mono ?_
          rintro e w' ⟨rfl, h2⟩
          exact ⟨_, _, rfl, by rw [stV_take hkp]; exact h2⟩
        generalize ps[k] = q at x0 x1 x2 hput
        have HTR : Hid (Turn (fun k => k = tb) w2 wr) := hS.turn
        clear hc1 hx1 hS hkp
        go_upto_region 5 with fail
        have hS0 : wr.cell? ⟨b1, o1 + k * 3, none⟩ = some (.int .i64 q.a) ∧ wr.cell? ⟨b1, o1 + k * 3 + 1, none⟩ = some (.int .i64 q.l) ∧ wr.cell? ⟨b1, o1 + k * 3 + 2, none⟩ = some (.int .i64 q.v) := ⟨x0, x1, x2⟩
        have HX0 : Hid (PrCells wr b1 (o1 + k * 3) q) := hS0
        go_region_held3 (fun W => W.cell? ⟨b1, o1 + k * 3, none⟩ = some (.int .i64 q.a) ∧ W.cell? ⟨b1, o1 + k * 3 + 1, none⟩ = some (.int .i64 q.l) ∧ W.cell? ⟨b1, o1 + k * 3 + 2, none⟩ = some (.int .i64 q.v)) (with_reducible first | assumption | go_keep) (first
          | (go_at_call 6; refine hput.mono ?_; rintro e w5 ⟨bb, ev, rfl, hS5⟩; have hc5 : w5.cell? ⟨b1, o1 + k * 3, none⟩ = some (.int .i64 q.a) ∧ w5.cell? ⟨b1, o1 + k * 3 + 1, none⟩ = some (.int .i64 q.l) ∧ w5.cell? ⟨b1, o1 + k * 3 + 2, none⟩ = some (.int .i64 q.v) := HX0.out.keep ((hS5.turn.block b1 (by have := HSZ.out; omega) (by have := HSZ.out; omega)).trans (HTR.out.block b1 (by have := HSZ.out; omega) (by have := HSZ.out; omega)).symm)))
        clear hc5 hS0 x0 x1 x2 hput
        go_wp2_with fail
        go_roundw
        case rel => exact ⟨k + 1, by omega, by omega, by go_num, hS5⟩
        case measure => simp [intOf]; omega
    · have hok := stV_ok (ps.take k)
      obtain ⟨s, hs⟩ : ∃ s, stV (ps.take k) = s := ⟨_, rfl⟩
      rw [hs] at hS hok
      have HOK : Hid (OkV s) := hok.1
      have HM : Hid (s.many ≤ 199) := by
        have h1 := hok.2
        have h2 : (ps.take k).length ≤ 199 := by rw [List.length_take]; omega
        show s.many ≤ 199
        omega
      have HTS : Hid (TS (fun k => k = tb) w2 wr tb s) := hS
      have HKC : Hid (¬ (k < N ∧ k < 199)) := hkc
      clear hS hs hok hkc
      go_upto_region 3 with fail
      go_cut [35] (fun x ww => x = .bool false ∧ ww = wr)
      case first =>
        as_aux_lemma =>
          by_cases i1 : (k : Int) < (N : Int)
          · have i2 : ¬ (k : Int) < 199 := by have := HKC.out; omega
            go_wp2_with fail
            go_meet
            case rel => exact ⟨rfl, rfl⟩
          · go_wp2_with fail
            go_meet
            case rel => exact ⟨rfl, rfl⟩
      case rest =>
        obtain ⟨hx, hy⟩ := hcut
        subst hx hy
        have hpc : PairAt wc B a l := HP2.out.keepB (HTS.out.turn.block B (by have := HSZ.out; omega) (by have := HSZ.out; omega))
        obtain ⟨p0, p1, _, _⟩ := id hpc
        have HPC : Hid (PairAt wc B a l) := hpc
        clear hpc
        by_cases hpe : ¬ prefE a l = 0
        · as_aux_lemma =>
            have hck := check_bad a l wc hpe
            have HPE : Hid (¬ prefE a l = 0) := hpe
            have hput : ∀ w5, Below wc.heap.size wc w5 → Calls Try.prog 6 #[.pointer (some ⟨tb, 0, none⟩), .agg #[.int .i64 a, .int .i64 l], .int .i64 vv] w5 fun e w' => e = .returned (.tuple #[.bool false, .iface 51 (.int .i64 (prefE a l))]) ∧ Below B w w' := fun w5 hb => by
              have h0 := HTS.out.below HF.out hb
              have e : putV s a l vv = (s, false, prefE a l) := by unfold putV; rw [if_pos HPE.out]
              refine (h0.put HF.out a l vv).mono ?_
              rintro e' w' ⟨rfl, h2⟩
              rw [e] at h2 ⊢
              refine ⟨by unfold errT; rw [if_neg HPE.out], Turn.below HB2.out (by have := HSZ.out; omega) h2.turn (fun k hk => by have := HSZ.out; omega)⟩
            generalize prefE a l = n at hck hput
            clear hpe
            go_upto_region 7 with (go_at_call 11; refine hck.mono ?_; rintro e w5 ⟨rfl, b5⟩)
            have hp5 := HPC.out.keepB (b5.block B HPC.out.lt)
            obtain ⟨p0, p1, _, _⟩ := id hp5
            have hput5 := hput w5 b5
            clear hput hck hp5
            go_wp2_with (go_at_call 6; refine hput5.mono ?_; rintro e w6 ⟨rfl, b6⟩)
            go_ret
            exact ⟨rfl, by rw [HBE.out]; exact b6⟩
        have hpe := Classical.not_not.1 hpe
        have hck := check_ok a l wc hpe
        have HPE : Hid (prefE a l = 0) := hpe
        clear hpe
        go_upto_region 9 with (go_at_call 11; refine hck.mono ?_; rintro e w5 ⟨rfl, b5⟩)
        have hT5 := HTS.out.below HF.out b5
        have hp5 := HPC.out.keepB (b5.block B HPC.out.lt)
        have hal := hT5.all HF.out
        clear hck b5 p0 p1
        go_upto_region 10 with (go_at_call 12; refine hal.mono ?_; rintro e w6 ⟨va, rfl, own6, b6, hT6⟩)
        have hG5 : ∀ k, Plus (fun k => k = tb) w2 w5 k → k < w5.heap.size := hT5.lt HF.out
        have hG5b : ∀ k, Plus (fun k => k = tb) w2 w5 k → ¬ k = B := fun k hk e => by have := HSZ.out; rcases hk with h | h <;> omega
        obtain ⟨hT6, hF6⟩ := hT5.rebase HF.out b6
        have hbel5 : Below B w w5 := Turn.below HB2.out (by have := HSZ.out; omega) hT5.turn (fun k hk => by have := HSZ.out; omega)
        have hBG5 : ∀ k, Plus (fun k => k = tb) w2 w5 k → B ≤ k := fun k hk => by have := HSZ.out; rcases hk with h | h <;> omega
        obtain ⟨G5, hG5e⟩ : ∃ G5, Plus (fun k => k = tb) w2 w5 = G5 := ⟨_, rfl⟩
        rw [hG5e] at hG5 hG5b hT6 hF6 hBG5
        have HG5 : Hid (∀ k, G5 k → k < w5.heap.size ∧ ¬ k = B ∧ B ≤ k) := fun k hk => ⟨hG5 k hk, hG5b k hk, hBG5 k hk⟩
        have HOW : Hid (OwnR w6 w5.heap.size va (allV s)) := own6
        have HP6 : Hid (PairAt w6 B a l) := hp5.keepB (b6.block B hp5.lt)
        have HBE6 : Hid (Below B w w6 ∧ w5.heap.size ≤ w6.heap.size) := ⟨hbel5.trans (b6.mono (by have := hbel5.size; have := HSZ.out; omega)), b6.size⟩
        have hfd := hT6.find hF6 x
        obtain ⟨q1, hq1⟩ : ∃ q, findV s x = q := ⟨_, rfl⟩
        obtain ⟨r1, hr1⟩ : ∃ r, errT (findE s x) = r := ⟨_, rfl⟩
        rw [hq1, hr1] at hfd
        have HQ1 : Hid (findV s x = q1) := hq1
        have HR1 : Hid (errT (findE s x) = r1) := hr1
        have HT6 : Hid (TS G5 w6 w6 tb s) := hT6
        have HF6 : Hid (∀ k, G5 k → k < w6.heap.size) := hF6
        clear hal hT5 hp5 hG5 hG5b hBG5 hT6 hF6 hbel5 b6 own6 hG5e hq1 hr1
        go_upto_region 11 with (go_at_call 7; refine hfd.mono ?_; rintro e w7 ⟨rfl, b7, _⟩)
        have bw8 : Below w7.heap.size w7 (w7.alloc (.cells #[.int .i64 q1.a, .int .i64 q1.l, .int .i64 q1.v] 32)) := (Below.refl _ _).alloc (Nat.le_refl _) _
        have hx8 := TriAt.new w7 q1
        obtain ⟨w8, hw8⟩ : ∃ w8, w7.alloc (.cells #[.int .i64 q1.a, .int .i64 q1.l, .int .i64 q1.v] 32) = w8 := ⟨_, rfl⟩
        rw [hw8] at bw8 hx8 ⊢
        obtain ⟨g8, hg8⟩ : ∃ g8, w7.heap.size = g8 := ⟨_, rfl⟩
        rw [hg8] at hx8 ⊢
        have b8 : Below w6.heap.size w6 w8 := b7.trans (bw8.mono b7.size)
        obtain ⟨hT8, hF8⟩ := HT6.out.rebase0 HF6.out b8
        have HP8 : Hid (PairAt w8 B a l) := HP6.out.keepB (b8.block B HP6.out.lt)
        have HX8 : Hid (TriAt w8 g8 q1 ∧ ¬ G5 g8) := ⟨hx8, fun h => by have := HG5.out g8 h; have := HBE6.out.2; have := b7.size; omega⟩
        have HOW8 : Hid (OwnR w8 w5.heap.size va (allV s)) := HOW.out.below b8
        have HBE8 : Hid (Below B w w8) := HBE6.out.1.trans (b8.mono (by have := HBE6.out.1.size; have := HSZ.out; omega))
        have HT8 : Hid (TS G5 w8 w8 tb s) := hT8
        have HF8 : Hid (∀ k, G5 k → k < w8.heap.size) := hF8
        obtain ⟨p0, p1, _, _⟩ := id HP8.out
        have hput := HT8.out.put HF8.out a l vv
        obtain ⟨e1, e2, e3, e4⟩ := put_then (v := vv) (x := x) HOK.out HPE.out HM.out
        rw [e1, e2] at hput
        have hok1 := HOK.out.put a l vv
        obtain ⟨s1, hs1⟩ : ∃ s1, (putV s a l vv).1 = s1 := ⟨_, rfl⟩
        rw [hs1] at hput e3 e4 hok1
        obtain ⟨fr, hfr⟩ : ∃ fr, decide (atV s a l = none) = fr := ⟨_, rfl⟩
        rw [hfr, show errT 0 = .nilIface from rfl] at hput
        have HFR : Hid (decide (atV s a l = none) = fr) := hfr
        have HE3 : Hid (s1.f = setV s.f l.toNat (kq a l.toNat) (some vv)) := e3
        have HE4 : Hid (atV s1 a l = some vv) := e4
        have HOK1 : Hid (OkV s1) := hok1
        clear hfd b7 bw8 hx8 hw8 hg8 b8 hT8 hF8 e1 e2 e3 e4 hok1 hs1 hfr
        go_upto_region 12 with (go_at_call 6; refine hput.mono ?_; rintro e w9 ⟨rfl, hT9⟩)
        have hfd := hT9.find HF8.out x
        obtain ⟨q2, hq2⟩ : ∃ q, findV s1 x = q := ⟨_, rfl⟩
        obtain ⟨r2, hr2⟩ : ∃ r, errT (findE s1 x) = r := ⟨_, rfl⟩
        rw [hq2, hr2] at hfd
        have HQ2 : Hid (findV s1 x = q2) := hq2
        have HR2 : Hid (errT (findE s1 x) = r2) := hr2
        have HT9 : Hid (TS G5 w8 w9 tb s1) := hT9
        clear hput p0 p1 hT9 hq2 hr2
        go_upto_region 13 with (go_at_call 7; refine hfd.mono ?_; rintro e w10 ⟨rfl, b10, _⟩)
        have bw11 : Below w10.heap.size w10 (w10.alloc (.cells #[.int .i64 q2.a, .int .i64 q2.l, .int .i64 q2.v] 32)) := (Below.refl _ _).alloc (Nat.le_refl _) _
        have hx11 := TriAt.new w10 q2
        obtain ⟨w11, hw11⟩ : ∃ w11, w10.alloc (.cells #[.int .i64 q2.a, .int .i64 q2.l, .int .i64 q2.v] 32) = w11 := ⟨_, rfl⟩
        rw [hw11] at bw11 hx11 ⊢
        obtain ⟨g11, hg11⟩ : ∃ g11, w10.heap.size = g11 := ⟨_, rfl⟩
        rw [hg11] at hx11 ⊢
        have b11 : Below w9.heap.size w9 w11 := b10.trans (bw11.mono b10.size)
        obtain ⟨hT11, hF11⟩ := HT9.out.rebase HF8.out b11
        have k911 : ∀ k, k < w8.heap.size → ¬ G5 k → w11.heap[k]? = w8.heap[k]? := fun k hk hg => (b11.block k (by have := HT9.out.turn.size; omega)).trans (HT9.out.turn.block k hk hg)
        have hnG : ∀ k, k < w8.heap.size → ¬ G5 k → ¬ Plus G5 w8 w9 k := fun k hk hg h => by
          rcases h with h | h
          · exact hg h
          · omega
        have h9le := HT9.out.turn.size
        have HG9 : Hid (∀ k, Plus G5 w8 w9 k → k < w9.heap.size ∧ B ≤ k) := fun k hk => by
          rcases hk with h | h
          · have h1 := HG5.out k h
            have h2 := HF8.out k h
            exact ⟨by omega, h1.2.2⟩
          · exact ⟨h.2, by have := HBE8.out.size; have := HP8.out.lt; omega⟩
        have HP11 : Hid (PairAt w11 B a l ∧ ¬ Plus G5 w8 w9 B) := ⟨HP8.out.keepB (k911 B HP8.out.lt (fun h => (HG5.out B h).2.1 rfl)), hnG B HP8.out.lt (fun h => (HG5.out B h).2.1 rfl)⟩
        have HX11 : Hid (TriAt w11 g8 q1 ∧ ¬ Plus G5 w8 w9 g8) := ⟨HX8.out.1.keep (k911 g8 HX8.out.1.lt HX8.out.2), hnG g8 HX8.out.1.lt HX8.out.2⟩
        have HOW11 : Hid (OwnR w11 w5.heap.size va (allV s) ∧ ∀ k, va.ownBlock = some k → ¬ Plus G5 w8 w9 k) := by
          have hk : ∀ k, va.ownBlock = some k → k < w8.heap.size ∧ ¬ G5 k := fun k hk => ⟨(HOW8.out.block k hk).2, fun h => by have := (HG5.out k h).1; have := (HOW8.out.block k hk).1; omega⟩
          exact ⟨HOW8.out.blk (fun k h => k911 k (hk k h).1 (hk k h).2), fun k h => hnG k (hk k h).1 (hk k h).2⟩
        have HY11 : Hid (TriAt w11 g11 q2 ∧ ¬ Plus G5 w8 w9 g11) := ⟨hx11, fun h => by have := (HG9.out g11 h).1; have := b10.size; omega⟩
        obtain ⟨G9, hG9⟩ : ∃ G9, Plus G5 w8 w9 = G9 := ⟨_, rfl⟩
        rw [hG9] at HG9 HP11 HX11 HOW11 HY11 hT11 hF11
        have HT11 : Hid (TS G9 w11 w11 tb s1) := hT11
        have HF11 : Hid (∀ k, G9 k → k < w11.heap.size) := hF11
        have HBE11 : Hid (Below B w w11) := (Turn.below HBE8.out (by have := HP8.out.lt; omega) HT9.out.turn (fun k hk => (HG5.out k hk).2.2)).trans (b11.mono (by have := HP8.out.lt; omega))
        obtain ⟨p0, p1, _, _⟩ := id HP11.out.1
        have hdr := HT11.out.drop HF11.out a l
        rw [drop_then HPE.out HE4.out] at hdr
        simp only at hdr
        rw [show errT 0 = .nilIface from rfl] at hdr
        have HDT : Hid (∀ m, dropV ⟨setV s1.f l.toNat (kq a l.toNat) none, m⟩ a l = (⟨setV s1.f l.toNat (kq a l.toNat) none, m⟩, false, 0)) := fun m => drop_twice m HPE.out
        obtain ⟨s2, hs2⟩ : ∃ s2, (⟨setV s1.f l.toNat (kq a l.toNat) none, s1.many - 1⟩ : Tv) = s2 := ⟨_, rfl⟩
        rw [hs2] at hdr
        have HD2 : Hid (dropV s2 a l = (s2, false, 0)) := by rw [← hs2]; exact HDT.out _
        have HS2F : Hid (s2.f = setV s1.f l.toNat (kq a l.toNat) none) := by rw [← hs2]; rfl
        clear hfd b10 bw11 hx11 hw11 hg11 b11 hT11 hF11 k911 hnG h9le hG9 hs2 HDT
        go_upto_region 14 with (go_at_call 13; refine hdr.mono ?_; rintro e w12 ⟨rfl, hT12⟩)
        have hp12 := HP11.out.1.keepB (hT12.turn.block B HP11.out.1.lt HP11.out.2)
        obtain ⟨p0, p1, _, _⟩ := id hp12
        have hdr := hT12.drop HF11.out a l
        rw [HD2.out] at hdr
        simp only at hdr
        rw [show errT 0 = .nilIface from rfl] at hdr
        clear hp12 hT12
        go_upto_region 15 with (go_at_call 13; refine hdr.mono ?_; rintro e w13 ⟨rfl, hT13⟩)
        have hp13 := HP11.out.1.keepB (hT13.turn.block B HP11.out.1.lt HP11.out.2)
        obtain ⟨p0, p1, _, _⟩ := id hp13
        have HT13 : Hid (TS G9 w11 w13 tb s2) := hT13
        have HP13 : Hid (PairAt w13 B a l) := hp13
        have hhs := has_any a l x w13
        clear hdr hp13 hT13
        go_upto_region 17 with fail
        go_cut [138] (fun bb ww => bb = .bool false ∧ Below w13.heap.size w13 ww)
        case first =>
          as_aux_lemma =>
            have hy13 : TriAt w13 g11 q2 := HY11.out.1.keep (HT13.out.turn.block g11 HY11.out.1.lt HY11.out.2)
            rcases hhb : hasB a l x with _ | _
            · rw [hhb] at hhs
              clear hhb
              go_wp2_with (go_at_call 14; refine hhs.mono ?_; rintro e w14 ⟨rfl, b14⟩)
              go_meet
              case rel => exact ⟨rfl, b14⟩
            · rw [hhb] at hhs
              obtain ⟨f1, f2, f3⟩ := put_found HOK1.out HPE.out HE4.out hhb
              rw [HQ2.out] at f2 f3
              have hr2 := HR2.out
              rw [f1, show errT 0 = .nilIface from rfl] at hr2
              subst hr2
              have hgd := Try.prefGuard
              have heq := Try.prefEql q2.a q2.l a l
              have HY : Hid (TriAt w13 g11 q2) := hy13
              have HF2 : Hid (¬ q2.l < l) := f2
              clear hhb f1 hy13
              by_cases c1 : q2.a = a ∧ q2.l = l
              · have e1 := f3 c1.1 c1.2
                have t1 : (q2.a == a && q2.l == l) = true := by simp [c1.1, c1.2]
                have t2 : (q2.v != vv) = false := by simp [e1]
                rw [t1] at heq
                clear c1 f3 e1 t1
                go_wp2_with (go_at_call 14; refine hhs.mono ?_; rintro e w14 ⟨rfl, b14⟩; obtain ⟨y0, y1, y2⟩ := (HY.out.keep (b14.block g11 HY.out.lt)).cells; obtain ⟨p0, p1, _, _⟩ := HP13.out.keepB (b14.block B HP13.out.lt))
                go_meet
                case rel => exact ⟨by first | rfl | exact congrArg Value.bool (decide_eq_false (by have := HF2.out; omega)), b14⟩
              · have t1 : (q2.a == a && q2.l == l) = false := by
                  rw [Bool.and_eq_false_iff, beq_eq_false_iff_ne, beq_eq_false_iff_ne]
                  by_cases h : q2.a = a
                  · exact .inr (fun h2 => c1 ⟨h, h2⟩)
                  · exact .inl h
                rw [t1] at heq
                clear c1 f3 t1
                go_wp2_with (go_at_call 14; refine hhs.mono ?_; rintro e w14 ⟨rfl, b14⟩; obtain ⟨y0, y1, y2⟩ := (HY.out.keep (b14.block g11 HY.out.lt)).cells; obtain ⟨p0, p1, _, _⟩ := HP13.out.keepB (b14.block B HP13.out.lt))
                go_meet
                case rel => exact ⟨by first | rfl | exact congrArg Value.bool (decide_eq_false (by have := HF2.out; omega)), b14⟩
        case rest =>
          obtain ⟨hx, b14⟩ := hcut
          subst hx
          have HT14 : Hid (TS G9 w11 wc tb s2) := HT13.out.below HF11.out b14
          have HBE14 : Hid (Below B w wc) := Turn.below HBE11.out (by have := HP11.out.1.lt; omega) HT14.out.turn (fun k hk => (HG9.out k hk).2)
          clear b14 hhs p0 p1
          rcases fr with _ | _
          · go_wp2_with fail
            go_ret
            exact ⟨rfl, by rw [HBE.out]; exact HBE14.out⟩
          have hsf : s2.f = s.f := by
            have hn : atV s a l = none := of_decide_eq_true HFR.out
            rw [HS2F.out, HE3.out, setV_setV]
            exact setV_self hn
          have hfd := HT14.out.find HF11.out x
          have e1 : findV s2 x = q1 := by rw [← HQ1.out]; unfold findV; rw [hsf]
          have e2 : errT (findE s2 x) = r1 := by rw [← HR1.out]; unfold findE; rw [hsf]
          have HAL : Hid (allV s2 = allV s) := by show allV s2 = allV s; unfold allV; rw [hsf]
          rw [e1, e2] at hfd
          clear e1 e2 hsf
          go_upto_region 22 with (go_at_call 7; refine hfd.mono ?_; rintro e w15 ⟨rfl, b15, hT15⟩)
          have bw16 : Below w15.heap.size w15 (w15.alloc (.cells #[.int .i64 q1.a, .int .i64 q1.l, .int .i64 q1.v] 32)) := (Below.refl _ _).alloc (Nat.le_refl _) _
          have hz16 := TriAt.new w15 q1
          obtain ⟨w16, hw16⟩ : ∃ w16, w15.alloc (.cells #[.int .i64 q1.a, .int .i64 q1.l, .int .i64 q1.v] 32) = w16 := ⟨_, rfl⟩
          rw [hw16] at bw16 hz16 ⊢
          obtain ⟨g16, hg16⟩ : ∃ g16, w15.heap.size = g16 := ⟨_, rfl⟩
          rw [hg16] at hz16 ⊢
          have hT16 := hT15.below HF11.out bw16
          have hal := hT16.all HF11.out
          rw [HAL.out] at hal
          have HOW16 : Hid (OwnR w16 w5.heap.size va (allV s)) := HOW11.out.1.blk (fun k hk => hT16.turn.block k (HOW11.out.1.block k hk).2 (HOW11.out.2 k hk))
          have HX16 : Hid (TriAt w16 g8 q1) := HX11.out.1.keep (hT16.turn.block g8 HX11.out.1.lt HX11.out.2)
          have HZ16 : Hid (TriAt w16 g16 q1) := hz16
          have HB16 : Hid (Below B w w16) := Turn.below HBE11.out (by have := HP11.out.1.lt; omega) hT16.turn (fun k hk => (HG9.out k hk).2)
          have hsm : ∀ vz w17, OwnR w17 w16.heap.size vz (allV s) → Below w16.heap.size w16 w17 → Calls Try.prog 9 #[vz, va] w17 fun e w' => e = .returned (.bool true) ∧ Below w17.heap.size w17 w' := fun vz w17 ho hb => samePrs vz va (allV s) w17 ho.prs (HOW16.out.below hb).prs
          clear hfd b15 bw16 hz16 hw16 hg16 hT16 hT15
          go_upto_region 23 with (first
            | (go_at_call 12; refine hal.mono ?_; rintro e w17 ⟨vz, rfl, own17, b17, _⟩)
            | (go_at_call 9; refine (hsm vz w17 own17 b17).mono ?_; rintro e w18 ⟨rfl, b18⟩))
          have b1618 : Below w16.heap.size w16 w18 := b17.trans (b18.mono b17.size)
          have HZB : Hid (Below B w w18) := HB16.out.trans (b1618.mono (by have := HB16.out.size; have := HSZ.out; omega))
          obtain ⟨x0, x1, x2⟩ := (HX16.out.keep (b1618.block g8 HX16.out.lt)).cells
          obtain ⟨z0, z1, z2⟩ := (HZ16.out.keep (b1618.block g16 HZ16.out.lt)).cells
          have hgd := Try.prGuard
          have heq := Try.prEql q1.a q1.l q1.v
          clear hal hsm own17 b17 b18 b1618
          rcases Decidable.em (findE s x = 0) with hf | hf
          · have hr := HR1.out
            rw [hf, show errT 0 = .nilIface from rfl] at hr
            subst hr
            clear hf
            go_region
            all_goals
              go_wp2_with fail
              go_ret
              exact ⟨rfl, by rw [HBE.out]; exact HZB.out.drew⟩
          · have hr := HR1.out
            unfold errT at hr
            rw [if_neg hf] at hr
            subst hr
            clear hf
            go_region
            all_goals
              go_wp2_with fail
              go_ret
              exact ⟨rfl, by rw [HBE.out]; exact HZB.out.drew⟩
end Go.Proofs.Ytophpnnaimhkhaa
