/- What repeats and Thin of package trie return. -/
import Derived.Test.YtdpnmhfhjcebbaaDoorTrTS
namespace Go.Proofs.YtdpnmhfhjcebbaaDoor
open Go.RowKit
set_option linter.unusedVariables false
set_option maxRecDepth 4000

theorem rep_list {f : Vf} {x : Pr} {L : List Pr} (h : ovL f x.a x.l.toNat = L) : repB f x = (decide (1 < L.length) && ((L.getD (L.length - 2) zeroR).v == x.v)) := by
  unfold repB
  rw [h]
  by_cases h1 : 1 < L.length
  · have e : L.dropLast.getLast? = some (L.getD (L.length - 2) zeroR) := by
      rw [List.getLast?_eq_getElem?, List.length_dropLast, List.getElem?_dropLast, if_pos (by omega), List.getD_eq_getElem?_getD, List.getElem?_eq_getElem (by omega)]
      have e2 : L.length - 1 - 1 = L.length - 2 := by omega
      have e3 : L[L.length - 2]? = some (L[L.length - 2]'(by omega)) := List.getElem?_eq_getElem (by omega)
      simp [e2, e3]
    rw [e, decide_eq_true h1]; rfl
  · have e : L.dropLast.getLast? = none := by
      rw [List.getLast?_eq_none_iff]
      rw [← List.length_eq_zero_iff, List.length_dropLast]; omega
    rw [e, decide_eq_false h1]; rfl
set_option maxHeartbeats 8000000 in
theorem repeats_any (F : Nat → Prop) (tb : Nat) (s : Tv) (x : Pr) (w : World) (h : TrieAt w F tb s) (hF : ∀ k, F k → k < w.heap.size) (hp : prefE x.a x.l = 0) :
    Calls Tryd.prog 32 #[.pointer (some ⟨tb, 0, none⟩), .agg #[.int .i64 x.a, .int .i64 x.l, .int .i64 x.v]] w fun e w' => e = .returned (.bool (repB s.f x)) ∧ Below w.heap.size w w' := by
  obtain ⟨n, hn, hn32, hp', _⟩ := prefE_nat hp
  obtain ⟨hA, hL, _⟩ := prefE_zero hp
  obtain ⟨h0, h1⟩ := hA
  have hB : Below w.heap.size w (w.alloc (.cells #[.int .i64 x.a, .int .i64 x.l, .int .i64 x.v] 34)) := (Below.refl _ _).alloc (Nat.le_refl _) _
  have ht := TriAt.new w x
  obtain ⟨_, _, blk, hT⟩ := h
  obtain ⟨L, hLe⟩ : ∃ L, ovL s.f x.a x.l.toNat = L := ⟨_, rfl⟩
  have hrp := rep_list hLe
  have hlen : L.length ≤ 33 := by
    rw [← hLe]
    have := ovL_len s.f x.a x.l.toNat
    omega
  have hov := over_raw x.a n tb F blk s (w.alloc (.cells #[.int .i64 x.a, .int .i64 x.l, .int .i64 x.v] 34)).drew h0 h1 hn32 ((hT.below hF hB).keep (w' := (w.alloc (.cells #[.int .i64 x.a, .int .i64 x.l, .int .i64 x.v] 34)).drew) (fun _ _ => rfl)) (fun k hk => by show k < (w.alloc (.cells #[.int .i64 x.a, .int .i64 x.l, .int .i64 x.v] 34)).heap.size; have := hF k hk; have := hB.size; omega)
  rw [← ovL_ovP] at hov
  have e1 : ovL s.f x.a n = L := by rw [← hLe, hn, Int.toNat_natCast]
  rw [e1, ← hn] at hov
  obtain ⟨R, hR⟩ : ∃ R, repB s.f x = R := ⟨_, rfl⟩
  rw [hR]
  rw [hR] at hrp
  have HR : Hid (R = (decide (1 < L.length) && ((L.getD (L.length - 2) zeroR).v == x.v))) := hrp
  have HB : Hid (Below w.heap.size w (w.alloc (.cells #[.int .i64 x.a, .int .i64 x.l, .int .i64 x.v] 34))) := hB
  have HT : Hid (TriAt (w.alloc (.cells #[.int .i64 x.a, .int .i64 x.l, .int .i64 x.v] 34)) w.heap.size x) := ht
  clear hR hT hF hLe hrp e1 hp hp' hn hL hB ht
  go_enter Tryd.func32, Tryd.ntmps32
  go_upto_region 1 with fail
  go_region_with (go_at_call 31; refine hov.mono ?_; rintro e w3 ⟨v3, rfl, own3, b3⟩)
  have b3' := drew_below b3
  have HZB : Hid (Below w.heap.size w w3) := HB.out.trans (b3'.mono HB.out.size)
  have ht3 := HT.out.keep (b3'.block _ HT.out.lt)
  have x2 := ht3.cells.2.2
  rcases Nat.lt_or_ge 1 L.length with h2 | h2
  · obtain ⟨g, cap, hv, hg1, hg2, hl, hx⟩ := own3.shape (by omega)
    subst hv
    have hcell := (own3.cells (L.length - 2) (by omega)).2.2
    have hq : (L.getD (L.length - 2) zeroR) = L[L.length - 2]'(by omega) := by rw [List.getD_eq_getElem?_getD, List.getElem?_eq_getElem (by omega), Option.getD_some]
    have HR2 : Hid (((L[L.length - 2]'(by omega)).v == x.v) = R) := by
      show ((L[L.length - 2]'(by omega)).v == x.v) = R
      rw [HR.out, hq, decide_eq_true h2]; rfl
    generalize L[L.length - 2]'(by omega) = q at hcell HR2
    obtain ⟨m, hm⟩ : ∃ m, L.length = m + 2 := ⟨L.length - 2, by omega⟩
    rw [hm] at hl hlen ⊢
    rw [hm, Nat.add_sub_cancel] at hcell
    have hcap : cap ≤ 9223372036854775807 := by unfold maxLen at hx; omega
    have hmc : m < cap := by omega
    clear own3 b3 b3' ht3 hov hq hm hx h2 HR
    simp only [List.getElem_toArray, List.getElem_cons_succ, List.getElem_cons_zero, Act.put, List.setIfInBounds_toArray, List.set_cons_zero, List.set_cons_succ]
    go_upto_region 3 with fail
    obtain ⟨la, hla⟩ : ∃ la : Int, (m : Int) + 2 - 1 = la := ⟨_, rfl⟩
    rw [hla]
    have t1 : (0 : Int) < la := by omega
    have t2 : la - 1 = (m : Int) := by omega
    have t3 : la ≤ 32 := by omega
    have t4 : (m : Int) < (m : Int) + 2 := by omega
    have t5 : (0 : Int) ≤ (m : Int) := by omega
    clear hla
    go_big_quiet (fail)
    go_wp2_with fail
    go_ret
    exact ⟨congrArg (fun b => Ending.returned (.bool b)) HR2.out, ⟨HZB.out.os, HZB.out.tape, HZB.out.output, HZB.out.size, HZB.out.block⟩⟩
  · have HR2 : Hid (false = R) := by
      show false = R
      rw [HR.out, decide_eq_false (by omega)]; rfl
    obtain ⟨av, cv, hv⟩ := own3.len
    subst hv
    obtain ⟨N, hN⟩ : ∃ N, L.length = N := ⟨_, rfl⟩
    rw [hN] at h2 ⊢
    have i1 : ¬ (0 : Int) < (N : Int) - 1 := by omega
    clear own3 b3 b3' ht3 hov hN HR hlen
    simp only [List.getElem_toArray, List.getElem_cons_succ, List.getElem_cons_zero, Act.put, List.setIfInBounds_toArray, List.set_cons_zero, List.set_cons_succ]
    go_upto_region 3 with fail
    obtain ⟨la, hla⟩ : ∃ la : Int, (N : Int) - 1 = la := ⟨_, rfl⟩
    rw [hla]
    have t1 : ¬ (0 : Int) < la := by omega
    clear hla i1
    go_big_quiet (fail)
    go_wp2_with fail
    go_ret
    exact ⟨congrArg (fun b => Ending.returned (.bool b)) HR2.out, ⟨HZB.out.os, HZB.out.tape, HZB.out.output, HZB.out.size, HZB.out.block⟩⟩
/-- What Thin returns. -/
def Thins (ps : List Pr) (w : World) (e : Ending) (w' : World) : Prop :=
  ∃ v, e = .returned (.tuple #[v, errT (thinE ps)]) ∧ OwnR w' w.heap.size v (if thinE ps = 0 then thinL ps else []) ∧ Below w.heap.size w w'
theorem thins_no {ps : List Pr} {w w' : World} {n : Int} (hn : thinE ps = n) (h0 : ¬ n = 0) (hb : Below w.heap.size w w') : Thins ps w (.returned (.tuple #[.slice none 0 0, .iface 64 (.int .i64 n)])) w' := by
  refine ⟨.slice none 0 0, ?_, ?_, hb⟩
  · rw [hn]; unfold errT; rw [if_neg h0]
  · rw [if_neg (by rw [hn]; exact h0)]; exact OwnR.nil _ _
set_option maxHeartbeats 16000000 in
theorem thin_any (v : Value) (ps : List Pr) (w : World) (hv : Prs w v ps) :
    Calls Tryd.prog 20 #[v] w (Thins ps w) := by
  obtain ⟨ao, co, hve⟩ := hv.len
  obtain ⟨N, hN⟩ : ∃ N, ps.length = N := ⟨_, rfl⟩
  rw [hN] at hve
  subst hve
  have HV : Hid (Prs w (.slice ao N co) ps) := hv
  have HN : Hid (ps.length = N) := hN
  clear hv hN
  by_cases hbig : 200 < N
  · have i1 : (200 : Int) < (N : Int) := by omega
    have hE : thinE ps = 4 := by unfold thinE; rw [if_pos (by rw [HN.out]; exact hbig)]
    have HZ : Hid (Thins ps w (.returned (.tuple #[.slice none 0 0, .iface 64 (.int .i64 4)])) w) := thins_no hE (by decide) (Below.refl _ _)
    clear hE hbig
    go_enter Tryd.func20, Tryd.ntmps20
    go_wp2_with fail
    go_ret2
    exact HZ.out
  have i1 : ¬ (200 : Int) < (N : Int) := by omega
  have hnw := newTrie_any w
  go_enter Tryd.func20, Tryd.ntmps20
  go_upto_region 5 with (go_at_call 4; refine hnw.mono ?_; rintro e w1 ⟨rfl, hT1, b1, hs1⟩; have HS1 : Hid (w1.heap.size = w.heap.size + 1) := hs1; clear hs1)
  obtain ⟨tb, htb⟩ : ∃ tb, w.heap.size = tb := ⟨_, rfl⟩
  rw [htb] at hT1 b1 ⊢
  have HTB : Hid (w.heap.size = tb ∧ w1.heap.size = tb + 1) := ⟨htb, by have := HS1.out; omega⟩
  have HF : Hid (∀ k, k = tb → k < w1.heap.size) := fun k hk => by have := HTB.out; omega
  have HB1 : Hid (Below tb w w1) := b1
  have HT1 : Hid (TS (fun k => k = tb) w1 w1 tb newV) := ⟨hT1.mono (fun k hk => .inl hk), Turn.refl _ _⟩
  clear hnw hT1 b1 htb HS1 i1
  go_loopw [19] (fun i wr => ∃ k : Nat, k ≤ N ∧ i = .int .i64 (k : Int) ∧ TS (fun k => k = tb) w1 wr tb (stV (ps.take k)) ∧ Hid (∀ j (hj : j < ps.length), j < k → (putV (stV (ps.take j)) ps[j].a ps[j].l ps[j].v).2.2 = 0)) (fun i _ => ((N : Int) - intOf i).toNat)
  case atStart => exact ⟨0, by omega, rfl, by rw [List.take_zero]; exact HT1.out, fun j hj hk => by omega⟩
  case round =>
    obtain ⟨k, hk, rfl, hS, HJ⟩ := hrel
    have HBR : Hid (Below tb w wr) := Turn.below HB1.out (by have := HTB.out; omega) hS.turn (fun k hk => by omega)
    by_cases hkn : k < N
    · as_aux_lemma =>
        have j1 : (k : Int) < (N : Int) := by omega
        have j2 : (0 : Int) ≤ (k : Int) := by omega
        have hkp : k < ps.length := by have := HN.out; omega
        obtain ⟨b1, o1, e1, hb1, hl1, hx1, hc1⟩ := HV.out.shape (by omega)
        subst e1
        have hb1' : b1 < tb := by have := HTB.out; omega
        obtain ⟨x0, x1, x2⟩ := (hc1 k hkp).keep (HBR.out.block b1 hb1')
        have hx1' : co ≤ 9223372036854775807 := by unfold maxLen at hx1; omega
        obtain ⟨q, hq⟩ : ∃ q, ps[k] = q := ⟨_, rfl⟩
        rw [hq] at x0 x1 x2
        have hput : ∀ W, Below wr.heap.size wr W → Calls Tryd.prog 6 #[.pointer (some ⟨tb, 0, none⟩), .agg #[.int .i64 q.a, .int .i64 q.l], .int .i64 q.v] W fun e w' => e = .returned (.tuple #[.bool (putV (stV (ps.take k)) q.a q.l q.v).2.1, errT (putV (stV (ps.take k)) q.a q.l q.v).2.2]) ∧ TS (fun k => k = tb) w1 w' tb (stV (ps.take (k + 1))) := fun W hW => by
          have h0 := hS.below HF.out hW
          refine (h0.put HF.out q.a q.l q.v).mono ?_
          rintro e w' ⟨rfl, h2⟩
          exact ⟨rfl, by rw [stV_take hkp, hq]; exact h2⟩
        have HQ : Hid (ps[k] = q) := hq
        obtain ⟨er, her⟩ : ∃ er, (putV (stV (ps.take k)) q.a q.l q.v).2.2 = er := ⟨_, rfl⟩
        obtain ⟨bb, hbb⟩ : ∃ bb, (putV (stV (ps.take k)) q.a q.l q.v).2.1 = bb := ⟨_, rfl⟩
        simp only [her, hbb] at hput
        have HER : Hid ((putV (stV (ps.take k)) ps[k].a ps[k].l ps[k].v).2.2 = er) := by rw [hq]; exact her
        have HB200 : Hid (¬ 200 < ps.length) := by rw [HN.out]; exact hbig
        clear hc1 hx1 hS hq her hbb
        go_upto_region 7 with fail
        have bw2 : Below wr.heap.size wr (wr.alloc (.cells #[.int .i64 q.a, .int .i64 q.l, .int .i64 q.v] 34)) := (Below.refl _ _).alloc (Nat.le_refl _) _
        have ht2 := TriAt.new wr q
        have hput2 := hput _ bw2
        obtain ⟨w2, hw2⟩ : ∃ w2, wr.alloc (.cells #[.int .i64 q.a, .int .i64 q.l, .int .i64 q.v] 34) = w2 := ⟨_, rfl⟩
        rw [hw2] at bw2 ht2 hput2 ⊢
        obtain ⟨g2, hg2⟩ : ∃ g2, wr.heap.size = g2 := ⟨_, rfl⟩
        rw [hg2] at ht2 ⊢
        obtain ⟨y0, y1, y2⟩ := ht2.cells
        clear hput hw2 hg2 bw2 ht2 x0 x1 x2
        go_upto_region 8 with (go_at_call 6; refine hput2.mono ?_; rintro e w3 ⟨rfl, hT3⟩)
        by_cases h0 : er = 0
        · subst h0
          rw [show errT 0 = .nilIface from rfl]
          have HT3 : Hid (TS (fun k => k = tb) w1 w3 tb (stV (ps.take (k + 1)))) := hT3
          have HJ2 : Hid (∀ j (hj : j < ps.length), j < k + 1 → (putV (stV (ps.take j)) ps[j].a ps[j].l ps[j].v).2.2 = 0) := fun j hj hjk => by
            by_cases he : j = k
            · subst he; exact HER.out
            · exact HJ.out j hj (by omega)
          clear hput2 hT3 y0 y1 y2
          go_wp2_with fail
          go_roundw
          case rel => exact ⟨k + 1, by omega, by go_num, HT3.out, HJ2⟩
          case measure => simp [intOf]; omega
        · have hE : thinE ps = er := by
            unfold thinE
            rw [if_neg HB200.out]
            have h := firstE_take (s := newV) (l := ps) (n := firstE newV ps) rfl k hkp (fun j hj => HJ.out j (by omega) hj) (by rw [show (putV ((ps.take k).foldl (fun s x => (putV s x.a x.l x.v).1) newV) ps[k].a ps[k].l ps[k].v).2.2 = er from HER.out]; exact h0)
            rw [← h]; exact HER.out
          have HZ : Hid (Thins ps w (.returned (.tuple #[.slice none 0 0, .iface 64 (.int .i64 er)])) w3) := thins_no hE h0 (by rw [HTB.out.1]; exact Turn.below HB1.out (by have := HTB.out; omega) hT3.turn (fun k hk => by omega))
          have hev : errT er = .iface 64 (.int .i64 er) := by unfold errT; rw [if_neg h0]
          rw [hev]
          clear hput2 hT3 y0 y1 y2 hE hev h0
          go_wp2_with fail
          go_ret2
          exact HZ.out
    · have hkn' : k = N := by omega
      subst hkn'
      have j1 : ¬ (k : Int) < (k : Int) := by omega
      have hall : ps.take k = ps := by rw [← HN.out]; exact List.take_length
      rw [hall] at hS
      have hE : thinE ps = 0 := thinE_of (by rw [HN.out]; omega) (fun j hj => HJ.out j hj (by have := HN.out; omega))
      have hal := hS.all HF.out
      have HE : Hid (thinE ps = 0) := hE
      have HOK : Hid (OkV (stV ps)) := (stV_ok ps).1
      have HSZ : Hid (tb + 1 ≤ wr.heap.size) := by show tb + 1 ≤ wr.heap.size; have := hS.turn.size; have := HTB.out; omega
      have HTL : Hid (thinL ps = (allV (stV ps)).filter fun x => !repB (stV ps).f x) := rfl
      obtain ⟨s, hs⟩ : ∃ s, stV ps = s := ⟨_, rfl⟩
      rw [hs] at hal HOK HTL
      clear hS hall hE hs
      go_upto_region 13 with (go_at_call 12; refine hal.mono ?_; rintro e w5 ⟨vL, rfl, own5, b5, hT5⟩; obtain ⟨aL, cL, hvL⟩ := own5.len; subst hvL)
      obtain ⟨M, hM⟩ : ∃ M, (allV s).length = M := ⟨_, rfl⟩
      rw [hM] at own5 ⊢
      have HM : Hid ((allV s).length = M) := hM
      have HOW : Hid (OwnR w5 wr.heap.size (.slice aL M cL) (allV s)) := own5
      obtain ⟨hT5', hF5⟩ := hT5.rebase HF.out (Below.refl w5.heap.size w5)
      obtain ⟨G, hG⟩ : ∃ G, Plus (fun k => k = tb) w1 w5 = G := ⟨_, rfl⟩
      rw [hG] at hT5' hF5
      have HT5 : Hid (TS G w5 w5 tb s) := hT5'
      have HF5 : Hid (∀ k, G k → k < w5.heap.size) := hF5
      have HB5 : Hid (Below tb w w5) := HBR.out.trans (b5.mono (by have := HSZ.out; omega))
      have HS5 : Hid (wr.heap.size ≤ w5.heap.size) := b5.size
      have hM2 : M ≤ 200 := by rw [← hM]; exact hT5.trie.all_len
      clear hal own5 b5 hT5 hM hT5' hF5 hG
      go_loopw [9, 39] (fun lv i w6 => ∃ j : Nat, j ≤ M ∧ i = .int .i64 (j : Int) ∧ OwnR w6 w5.heap.size lv (((allV s).take j).filter fun x => !repB s.f x) ∧ Below w5.heap.size w5 w6) (fun _ i _ => ((M : Int) - intOf i).toNat)
      case atStart => exact ⟨0, by omega, rfl, by rw [List.take_zero]; exact OwnR.nil _ _, Below.refl _ _⟩
      case round =>
        obtain ⟨j, hj, rfl, own6, b6⟩ := hrel
        by_cases hjm : j < M
        · as_aux_lemma =>
            have k1 : (j : Int) < (M : Int) := by omega
            have k2 : (0 : Int) ≤ (j : Int) := by omega
            have hjl : j < (allV s).length := by have := HM.out; omega
            obtain ⟨gL, capL, hvL, hgL1, hgL2, hlL, hxL⟩ := HOW.out.shape (by omega)
            simp only [Value.slice.injEq] at hvL
            obtain ⟨hv1, hv2, hv3⟩ := hvL
            subst hv1 hv3
            have hcL : cL ≤ 9223372036854775807 := by unfold maxLen at hxL; omega
            have hcM : M ≤ cL := by omega
            have hcel := HOW.out.cells j hjl
            obtain ⟨q, hq⟩ : ∃ q, (allV s)[j] = q := ⟨_, rfl⟩
            rw [hq] at hcel
            have hpq : prefE q.a q.l = 0 := by
              obtain ⟨d, z, v, h1, h2, _, h4⟩ := (mem_all HOK.out).1 (List.getElem_mem hjl)
              rw [← hq, h4]; exact ka_good h1 h2
            obtain ⟨x0, x1, x2⟩ : PrCells wr gL (j * 3) q := (show PrCells w5 gL (j * 3) q from hcel).keep (b6.block gL hgL2)
            have hT6 := HT5.out.trie.mono (G := G) (fun k hk => by
              rcases hk with h | h
              · exact h
              · omega)
            have hrep : ∀ W, Below w5.heap.size w5 W → Calls Tryd.prog 32 #[.pointer (some ⟨tb, 0, none⟩), .agg #[.int .i64 q.a, .int .i64 q.l, .int .i64 q.v]] W fun e w' => e = .returned (.bool (repB s.f q)) ∧ Below W.heap.size W w' := fun W hW => repeats_any G tb s q W (hT6.below HF5.out hW) (fun k hk => Nat.lt_of_lt_of_le (HF5.out k hk) hW.size) hpq
            have HTK : Hid ((((allV s).take (j + 1)).filter fun x => !repB s.f x) = (((allV s).take j).filter fun x => !repB s.f x) ++ (if repB s.f q then [] else [q])) := by
              show (((allV s).take (j + 1)).filter fun x => !repB s.f x) = _
              rw [List.take_succ_eq_append_getElem hjl, List.filter_append, hq]
              rcases hr : repB s.f q with _ | _ <;> simp [hr]
            have hlen : (((allV s).take j).filter fun x => !repB s.f x).length ≤ 1000000 := by
              have h1 := List.length_filter_le (fun x => !repB s.f x) ((allV s).take j)
              rw [List.length_take] at h1
              omega
            obtain ⟨ts, hts⟩ : ∃ ts, (((allV s).take j).filter fun x => !repB s.f x) = ts := ⟨_, rfl⟩
            rw [hts] at own6 hlen HTK
            have HOW6 : Hid (OwnR wr w5.heap.size u9 ts) := own6
            have HB6 : Hid (Below w5.heap.size w5 wr) := b6
            obtain ⟨R, hR⟩ : ∃ R, repB s.f q = R := ⟨_, rfl⟩
            simp only [hR] at hrep
            rw [hR] at HTK
            clear hcel hpq hT6 hq own6 b6 hv2 hlL hxL hgL1 hgL2 hts hR hjl
            go_upto_region 15 with fail
            have bw7 : Below wr.heap.size wr (wr.alloc (.cells #[.int .i64 q.a, .int .i64 q.l, .int .i64 q.v] 34)) := (Below.refl _ _).alloc (Nat.le_refl _) _
            have ht7 := TriAt.new wr q
            obtain ⟨w7, hw7⟩ : ∃ w7, wr.alloc (.cells #[.int .i64 q.a, .int .i64 q.l, .int .i64 q.v] 34) = w7 := ⟨_, rfl⟩
            rw [hw7] at bw7 ht7 ⊢
            obtain ⟨g7, hg7⟩ : ∃ g7, wr.heap.size = g7 := ⟨_, rfl⟩
            rw [hg7] at ht7 ⊢
            obtain ⟨y0, y1, y2⟩ := ht7.cells
            have b57 : Below w5.heap.size w5 w7 := HB6.out.trans (bw7.mono HB6.out.size)
            have hrep7 := hrep w7 b57
            clear hrep hw7 hg7 x0 x1 x2
            rcases R with _ | _
            · go_upto_region 16 with (go_at_call 32; refine hrep7.mono ?_; rintro e w8 ⟨rfl, b8⟩)
              obtain ⟨z0, z1, z2⟩ := (ht7.keep (b8.block g7 ht7.lt)).cells
              have own8 : OwnR w8 w5.heap.size u9 ts := (HOW6.out.below bw7).below b8
              have b58 : Below w5.heap.size w5 w8 := b57.trans (b8.mono b57.size)
              have hbase := b58.size
              clear hrep7 y0 y1 y2 ht7
              go_wp2_with (at_builtin; refine wpList_append_pr rfl (.tmp 47) (.tmp 49) rfl w5.heap.size u9 ts rfl own8 q rfl hlen hbase ?_; intro g cap w9 own9 grow9 at9)
              have HO : Hid (OwnR w9 w5.heap.size (.slice (some ⟨g, 0, none⟩) (ts.length + 1) cap) (((allV s).take (j + 1)).filter fun x => !repB s.f x) ∧ Below w5.heap.size w5 w9) := by
                refine ⟨by rw [HTK.out]; exact own9, ?_⟩
                exact Turn.below b58 hbase (Turn.grownR grow9 (F := fun k => w5.heap.size ≤ k) (fun k hk => .inl (own8.block k hk).1)) (fun k hk => hk)
              clear own9 grow9 at9 own8 b58 b8 hbase b57 bw7 z0 z1 z2
              go_roundw
              case rel => exact ⟨j + 1, by omega, by go_num, HO.out⟩
              case measure => simp [intOf]; omega
            · go_wp2_with (go_at_call 32; refine hrep7.mono ?_; rintro e w8 ⟨rfl, b8⟩)
              have HO : Hid (OwnR w8 w5.heap.size u9 (((allV s).take (j + 1)).filter fun x => !repB s.f x) ∧ Below w5.heap.size w5 w8) := by
                refine ⟨?_, b57.trans (b8.mono b57.size)⟩
                rw [HTK.out]
                simpa using (HOW6.out.below bw7).below b8
              clear hrep7 y0 y1 y2 ht7 b57 bw7 b8
              go_roundw
              case rel => exact ⟨j + 1, by omega, by go_num, HO.out⟩
              case measure => simp [intOf]; omega
        · have hjm' : j = M := by omega
          subst hjm'
          have k1 : ¬ (j : Int) < (j : Int) := by omega
          have HZ : Hid (Thins ps w (.returned (.tuple #[u9, .nilIface])) wr) := by
            refine ⟨u9, by rw [HE.out]; rfl, ?_, ?_⟩
            · rw [if_pos HE.out, HTL.out]
              have e : (allV s).take j = allV s := by rw [← HM.out]; exact List.take_length
              rw [e] at own6
              exact own6.base (by have := HB5.out.size; exact this)
            · rw [HTB.out.1]
              exact HB5.out.trans (b6.mono (by have := HS5.out; have := HSZ.out; omega))
          clear own6 b6
          go_wp2_with fail
          go_ret2
          exact HZ.out
end Go.Proofs.YtdpnmhfhjcebbaaDoor
