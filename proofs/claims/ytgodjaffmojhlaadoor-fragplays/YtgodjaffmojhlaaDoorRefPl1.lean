/- What Time and Tick of the reference's pool return (package portref2): 'tickE', 'tickS'. -/
import Derived.Test.YtgodjaffmojhlaaDoorRefPl0
import Derived.Test.YtgodjaffmojhlaaDoorPoolTick
import Derived.Deep.DeepMust
namespace Go.Proofs.YtgodjaffmojhlaaDoor
open Go.RowKit
set_option linter.unusedVariables false
set_option maxRecDepth 4000

def RTicks (w0 : World) (F : Nat → Prop) (pb : Nat) (s : Po) (now : Int) (w : World) (e : Ending) (w' : World) : Prop :=
  e = .returned (.tuple #[.int .i64 ((s.l.length : Int) - ((tickS s now).l.length : Int)), .int .i64 (tickE s now)]) ∧ RPool w0 w' (Plus F w w') pb (tickS s now) ∧ Turn F w w'
theorem time_any (now : Int) (w : World) : Calls Tryd.prog 13 #[.int .i64 now] w fun e w' => e = .returned (.bool (decide (0 ≤ now) && decide (now ≤ 1000000))) ∧ w' = w := by
  by_cases h1 : 0 ≤ now
  · have h1' : now ≥ 0 := h1
    by_cases h2 : now ≤ 1000000
    · rw [decide_eq_true h1, decide_eq_true h2]
      go_enter Tryd.func13, Tryd.ntmps13
      go_wp2_with fail
      go_ret
      exact ⟨rfl, rfl⟩
    · rw [decide_eq_true h1, decide_eq_false h2]
      go_enter Tryd.func13, Tryd.ntmps13
      go_wp2_with fail
      go_ret
      exact ⟨rfl, rfl⟩
  · have h1' : ¬ now ≥ 0 := h1
    rw [decide_eq_false h1]
    go_enter Tryd.func13, Tryd.ntmps13
    go_wp2_with fail
    go_ret
    exact ⟨rfl, rfl⟩
theorem RPool.plus {w0 w w' : World} {F : Nat → Prop} {pb : Nat} {s : Po} (h : RPool w0 w F pb s) (hF : ∀ k, F k → k < w.heap.size) (hb : Below w.heap.size w w') : RPool w0 w' (Plus F w w') pb s := by
  obtain ⟨lv, rs, h⟩ := h
  have g := h.below hF hb
  exact ⟨lv, rs, g.pool, g.row, g.list, g.slv, g.name, g.all, g.body, g.ok, g.times, .inl g.fpb, fun k e => ⟨.inl (g.frow k e).1, (g.frow k e).2⟩, fun r hr hx k e => ⟨.inl (g.fall r hr hx k e).1, (g.fall r hr hx k e).2⟩, g.apart, fun k hk => by
    rcases hk with hk | hk
    · exact g.new k hk
    · have := h.bel.size; omega, g.bel⟩
set_option maxHeartbeats 4000000 in
theorem rtick_no (w0 : World) (F : Nat → Prop) (pb : Nat) (s : Po) (now : Int) (w : World) (hP : RPool w0 w F pb s) (hF : ∀ k, F k → k < w.heap.size) (hn : ¬ tickE s now = 0) : Calls Tryd.prog 6 #[ptrV pb, .int .i64 now] w (RTicks w0 F pb s now w) := by
  have hS : tickS s now = s := by unfold tickS; rw [if_neg hn]
  have HZ : Hid (RTicks w0 F pb s now w (.returned (.tuple #[.int .i64 0, .int .i64 (tickE s now)])) w) := ⟨by rw [hS, Int.sub_self], by rw [hS]; exact hP.plus hF (Below.refl _ _), Turn.refl _ _⟩
  obtain ⟨lv, rs, h⟩ := hP
  obtain ⟨c0, c1, c2, _, _⟩ := h.cells
  have ht := time_any now w
  generalize hQ : RTicks w0 F pb s now w = Q at HZ ⊢
  unfold ptrV
  by_cases h1 : now < 0 ∨ 1000000 < now
  · have e : tickE s now = 1 := by unfold tickE; rw [if_pos h1]
    have e2 : (decide (0 ≤ now) && decide (now ≤ 1000000)) = false := by
      rcases h1 with h1 | h1
      · rw [decide_eq_false (by omega)]; rfl
      · rw [decide_eq_false (p := now ≤ 1000000) (by omega), Bool.and_false]
    rw [e] at HZ
    rw [e2] at ht
    clear hQ hS h hn h1 e e2 c0 c1 c2
    go_enter Tryd.func6, Tryd.ntmps6
    go_wp2_with (go_at_call 13; go_must (refine ht.mono ?_; rintro e _ ⟨rfl, rfl⟩))
    exact HZ.out
  · have h2 : now < s.now := by
      unfold tickE at hn; rw [if_neg h1] at hn
      by_cases h : now < s.now
      · exact h
      · rw [if_neg h] at hn; exact absurd rfl hn
    have e : tickE s now = 6 := by unfold tickE; rw [if_neg h1, if_pos h2]
    have e2 : (decide (0 ≤ now) && decide (now ≤ 1000000)) = true := by
      rw [decide_eq_true (by omega), decide_eq_true (by omega)]; rfl
    rw [e] at HZ
    rw [e2] at ht
    generalize s.now = sn at c1 h2
    clear hQ hS h hn h1 e e2 c0 c2
    go_enter Tryd.func6, Tryd.ntmps6
    go_wp2_with (go_at_call 13; go_must (refine ht.mono ?_; rintro e _ ⟨rfl, rfl⟩))
    exact HZ.out
def keepR (life now : Int) (r : Rh) : Bool := !oldB life now r.h
set_option maxHeartbeats 8000000 in
theorem rtick_yes (w0 : World) (F : Nat → Prop) (pb : Nat) (s : Po) (now : Int) (w : World) (hP : RPool w0 w F pb s) (hF : ∀ k, F k → k < w.heap.size) (hn : tickE s now = 0) : Calls Tryd.prog 6 #[ptrV pb, .int .i64 now] w (RTicks w0 F pb s now w) := by
  have hnow : ¬ (now < 0 ∨ 1000000 < now) ∧ ¬ now < s.now := by
    unfold tickE at hn
    by_cases h1 : now < 0 ∨ 1000000 < now
    · rw [if_pos h1] at hn; cases hn
    · rw [if_neg h1] at hn
      refine ⟨h1, fun h2 => ?_⟩
      rw [if_pos h2] at hn; cases hn
  obtain ⟨hn1, hn2⟩ := hnow
  have hS : tickS s now = { life := s.life, now := now, l := s.l.filter fun h => !oldB s.life now h } := by unfold tickS; rw [if_pos hn]
  have hok : OkP (tickS s now) := by obtain ⟨_, _, h⟩ := hP; exact h.ok.tick now
  obtain ⟨lv, rs, h⟩ := hP
  obtain ⟨c0, c1, c2, z1, z2⟩ := h.cells
  have ht := time_any now w
  have e2 : (decide (0 ≤ now) && decide (now ≤ 1000000)) = true := by
    rw [decide_eq_true (by omega), decide_eq_true (by omega)]; rfl
  rw [e2] at ht
  clear e2
  obtain ⟨av, cv, hlv⟩ := h.row.len
  subst hlv
  obtain ⟨N, hN⟩ : ∃ N, rs.length = N := ⟨_, rfl⟩
  have HN : Hid (rs.length = N) := hN
  have hNs : s.l.length = N := by rw [← h.list, List.length_map, hN]
  have hN8 : N ≤ 8 := by rw [← hNs]; exact h.ok.few
  rw [hN] at h c2
  have hsl : (tickS s now).l = (rs.filter (keepR s.life now)).map Rh.h := by
    rw [hS]
    show s.l.filter _ = _
    rw [← h.list, List.filter_map]
    rfl
  have HFIN : Hid (∀ v8 wr, OwnH wr (w.setCell ⟨pb, 1, none⟩ (.int .i64 now)).heap.size v8 (rs.filter (keepR s.life now)) → Below (w.setCell ⟨pb, 1, none⟩ (.int .i64 now)).heap.size (w.setCell ⟨pb, 1, none⟩ (.int .i64 now)) wr → RTicks w0 F pb s now w (.returned (.tuple #[.int .i64 ((N : Int) - ((rs.filter (keepR s.life now)).length : Int)), .int .i64 0])) (wr.setCell ⟨pb, 2, none⟩ v8)) := fun v8 wr hown hb => by
    have sz : (w.setCell ⟨pb, 1, none⟩ (.int .i64 now)).heap.size = w.heap.size := by simp [World.setCell]
    have hlt := h.lt
    have hblk : ∀ k, k < w.heap.size → k ≠ pb → (wr.setCell ⟨pb, 2, none⟩ v8).heap[k]? = w.heap[k]? := fun k hk hp => by
      rw [heap_setCell_other wr ⟨pb, 2, none⟩ k v8 hp, hb.block k (by rw [sz]; exact hk), heap_setCell_other w ⟨pb, 1, none⟩ k _ hp]
    have hpo := heap_setCell_same w pb 1 _ _ (.int .i64 now) h.pool
    have hpr : wr.heap[pb]? = (w.setCell ⟨pb, 1, none⟩ (.int .i64 now)).heap[pb]? := hb.block pb (by rw [sz]; exact hlt)
    have hpz := heap_setCell_same wr pb 2 _ _ v8 (hpr.trans hpo)
    have szz : (wr.setCell ⟨pb, 2, none⟩ v8).heap.size = wr.heap.size := by simp [World.setCell]
    have hsw : w.heap.size ≤ wr.heap.size := by have := hb.size; omega
    have hT : Turn F w (wr.setCell ⟨pb, 2, none⟩ v8) := by
      refine ⟨?_, ?_, ?_, by omega, fun k hk hf => hblk k hk (fun e => hf (by subst e; exact h.fpb))⟩
      · exact hb.os
      · exact hb.tape
      · exact hb.output
    refine ⟨by rw [hn, hsl, List.length_map, hNs], ⟨v8, rs.filter (keepR s.life now), ?_⟩, hT⟩
    refine ⟨?_, (hown.blk (fun k hk => heap_setCell_other wr ⟨pb, 2, none⟩ k v8 (fun e => by have := (hown.block k hk).1; subst e; omega))).baseLe (Nat.zero_le _), hsl.symm, fun r hr => h.slv r (List.mem_filter.1 hr).1, fun r hr => h.name r (List.mem_filter.1 hr).1, fun r hr hx => ?_, fun r hr hx => h.body r (List.mem_filter.1 hr).1 hx, hok, ?_, .inl h.fpb, fun k e => ?_, fun r hr hx k e => ?_, h.apart.filter _, fun k hk => ?_, ?_⟩
    · rw [hS]; simpa using hpz
    · obtain ⟨o1, o2⟩ := h.all r (List.mem_filter.1 hr).1 hx
      exact ⟨o1.blk (fun k e => hblk k (o1.block k e).2 (h.fall r (List.mem_filter.1 hr).1 hx k e).2.1), o2⟩
    · rw [hS]; exact ⟨h.times.1, ⟨by show (0 : Int) ≤ now; omega, by show now ≤ 1000000; omega⟩, fun r hr => h.times.2.2 r (List.mem_filter.1 hr).1⟩
    · have := hown.block k e
      exact ⟨.inr ⟨by omega, by omega⟩, by omega⟩
    · obtain ⟨f1, f2, _⟩ := h.fall r (List.mem_filter.1 hr).1 hx k e
      refine ⟨.inl f1, f2, fun e2 => ?_⟩
      have := hown.block k e2
      have := ((h.all r (List.mem_filter.1 hr).1 hx).1.block k e).2
      omega
    · rcases hk with hk | hk
      · exact h.new k hk
      · have := h.bel.size; omega
    · exact Turn.below h.bel h.bel.size hT h.new
  have HC : Hid (∀ k (hk : k < rs.length), ∃ g, av = some ⟨g, 0, none⟩ ∧ N ≤ cv ∧ cv ≤ 9223372036854775807 ∧ g < w.heap.size ∧ HpC (w.setCell ⟨pb, 1, none⟩ (.int .i64 now)) g (k * 11) rs[k]) := fun k hk => by
    obtain ⟨g, cap, hv, _, h2, h3, h4⟩ := h.row.shape (by omega)
    simp only [Value.slice.injEq] at hv
    obtain ⟨rfl, _, rfl⟩ := hv
    unfold maxLen at h4
    refine ⟨g, rfl, by omega, by omega, h2, fun j u hj => ?_⟩
    have := h.row.cells k hk j u hj
    rw [← this]
    exact World.cell?_of_block (heap_setCell_other w ⟨pb, 1, none⟩ g _ (h.frow g rfl).2)
  have HSL : Hid (∀ r ∈ rs, SlV r.fv ∧ SlV r.av) := h.slv
  have HTM : Hid (∀ r ∈ rs, 0 ≤ r.h.began ∧ r.h.began ≤ 1000000) := h.times.2.2
  obtain ⟨hl0, hl1⟩ := h.times.1
  have d0 : (w.setCell ⟨pb, 1, none⟩ (.int .i64 now)).cell? ⟨pb, 0, none⟩ = some (.int .i64 s.life) := by
    rw [cell_of_row _ pb 0 _ _ _ (heap_setCell_same w pb 1 _ _ (.int .i64 now) h.pool)]; rfl
  have d2 : (w.setCell ⟨pb, 1, none⟩ (.int .i64 now)).cell? ⟨pb, 2, none⟩ = some (.slice av N cv) := by
    rw [cell_of_row _ pb 2 _ _ _ (heap_setCell_same w pb 1 _ _ (.int .i64 now) h.pool)]; rfl
  have dz : (w.setCell ⟨pb, 1, none⟩ (.int .i64 now)).frozen? ⟨pb, 2, none⟩ = false := frozen_of_row _ pb 2 _ _ (heap_setCell_same w pb 1 _ _ (.int .i64 now) h.pool)
  have hlt : pb < (w.setCell ⟨pb, 1, none⟩ (.int .i64 now)).heap.size := by have := h.lt; simpa [World.setCell] using this
  have HWZ : Hid (w.heap.size = (w.setCell ⟨pb, 1, none⟩ (.int .i64 now)).heap.size) := by rw [Hid]; simp [World.setCell]
  generalize RTicks w0 F pb s now w = Q at HFIN ⊢
  generalize s.now = sn at c1 hn2
  generalize s.life = life at c0 d0 hl0 hl1 HFIN
  unfold ptrV
  clear hS hok h hN hNs hsl hn c0 c2 hF z2
  go_enter Tryd.func6, Tryd.ntmps6
  go_wp2_with (go_at_call 13; go_must (refine ht.mono ?_; rintro e w' ⟨rfl, hw'⟩; rw [hw']; clear hw'))
  generalize w.setCell ⟨pb, 1, none⟩ (.int .i64 now) = w1 at HFIN HC d0 d2 dz hlt HWZ ⊢
  clear ht z1 c1
  go_loopw [7, 8, 9] (fun v7 v8 v9 wr => ∃ k m : Nat, k ≤ N ∧ m ≤ k ∧ v9 = .int .i64 (k : Int) ∧ v7 = .int .i64 (m : Int) ∧ Hid (m + ((rs.take k).filter (keepR life now)).length = k) ∧ OwnH wr w1.heap.size v8 ((rs.take k).filter (keepR life now)) ∧ Below w1.heap.size w1 wr) (fun _ _ v9 _ => ((N : Int) - intOf v9).toNat)
  case atStart => exact ⟨0, 0, by omega, by omega, rfl, rfl, by rw [Hid]; simp, by rw [List.take_zero]; exact OwnH.nil _ _, Below.refl _ _⟩
  case round =>
    obtain ⟨k, m, hk, hm, rfl, rfl, HM, hown, hb⟩ := hrel
    have q0 := (hb.cell (p := ⟨pb, 0, none⟩) hlt).trans d0
    have q2 := (hb.cell (p := ⟨pb, 2, none⟩) hlt).trans d2
    by_cases hlt' : k < N
    · have i1 : (k : Int) < (N : Int) := by omega
      have i0 : (0 : Int) ≤ (k : Int) := by omega
      have hkl : k < rs.length := by rw [HN.out]; exact hlt'
      obtain ⟨g, hav, hNc, hcc, hg, hC⟩ := HC.out k hkl
      subst hav
      have hCr : HpC wr g (k * 11) rs[k] := fun j u hj => (hb.cell (p := ⟨g, k * 11 + j, none⟩) (by show g < _; have := HWZ.out; omega)).trans (hC j u hj)
      obtain ⟨hbg0, hbg1⟩ := HTM.out rs[k] (List.getElem_mem _)
      have hsl := HSL.out rs[k] (List.getElem_mem _)
      have HTK : Hid (rs.take (k + 1) = rs.take k ++ [rs[k]]) := List.take_succ_eq_append_getElem hkl
      generalize rs[k] = r at hCr hbg0 hbg1 hsl HTK
      have HSLr : Hid (SlV r.fv ∧ SlV r.av) := hsl
      have HKR : Hid (keepR life now r = !decide (life ≤ now - r.h.began)) := rfl
      have HCA := hidR hCr
      have k8 : wr.cell? ⟨g, k * 11 + 8, none⟩ = some (.int .i64 r.h.began) := hCr.all.2.2.2.2.2.2.2.2.1
      obtain ⟨bg, hbg⟩ : ∃ bg, r.h.began = bg := ⟨_, rfl⟩
      rw [hbg] at k8 hbg0 hbg1 HKR
      have HBG := hidR hbg
      have HOW : Hid (OwnH wr w1.heap.size u8 ((rs.take k).filter (keepR life now))) := hown
      have HB : Hid (Below w1.heap.size w1 wr) := hb
      have HBE : Hid (∀ n, Below wr.heap.size wr (wr.drewN n)) := fun n => below_drewN (Below.refl _ _) n
      clear hC hCr hown hb hsl HC HFIN HTM HSL hbg
      go_upto_region 12 with fail
      by_cases hold : life ≤ now - bg
      · as_aux_lemma =>
        have hold' : now - bg ≥ life := hold
        have hF1 : (rs.take (k + 1)).filter (keepR life now) = (rs.take k).filter (keepR life now) := by
          rw [HTK.out, List.filter_append, List.filter_cons, HKR.out, decide_eq_true hold]; simp
        have HO2 := hidR (show ∀ n, OwnH (wr.drewN n) w1.heap.size u8 ((rs.take (k + 1)).filter (keepR life now)) from fun n => by rw [hF1]; exact HOW.out.below (HBE.out n))
        have HM2 := hidR (show (m + 1) + ((rs.take (k + 1)).filter (keepR life now)).length = k + 1 by rw [hF1]; have := HM.out; omega)
        clear hF1 HOW HM HTK HKR
        go_big_quiet (fail)
        go_wp2_with fail
        go_roundw
        case rel => exact ⟨k + 1, m + 1, by omega, by omega, by go_num, by go_num, HM2.out, HO2.out _, HB.out.trans ((HBE.out _).mono HB.out.size)⟩
        case measure => simp [intOf]; omega
      · have hold' : ¬ now - bg ≥ life := hold
        have hF1 : (rs.take (k + 1)).filter (keepR life now) = (rs.take k).filter (keepR life now) ++ [r] := by
          rw [HTK.out, List.filter_append, List.filter_cons, HKR.out, decide_eq_false hold]; simp
        have hlen : ((rs.take k).filter (keepR life now)).length ≤ 100000 := by
          have := List.length_filter_le (keepR life now) (rs.take k)
          rw [List.length_take] at this; omega
        have HF1 := hidR hF1
        have hsz := HB.out.size
        clear HTK HKR hF1
        go_big_quiet (fail)
        go_upto_region 14 with fail
        have hbg := HBG.out
        subst hbg
        obtain ⟨k0, k1, k2, k3, k4, k5, k6, k7, _, k9, k10⟩ := HCA.out.all
        clear HBG HCA hold hold'
        go_wp2_with (at_builtin; go_must (refine wpList_append_hp rfl (.tmp 50) (.tmp 58) rfl w1.heap.size u8 ((rs.take k).filter (keepR life now)) rfl (HOW.out.below ((HBE.out _).alloc (Nat.le_refl _) _)) wr.heap.size r rfl (HpC.new _ r) HSLr.out hlen (by simp; omega) ?_; intro v' W' own' grow' lie'))
        go_roundw
        case rel => exact ⟨k + 1, m, by omega, by omega, by go_num, by go_num, by rw [Hid, HF1.out, List.length_append]; have := HM.out; simp; omega, by rw [HF1.out]; exact own', (((HB.out.trans ((HBE.out _).mono hsz)).alloc (Nat.le_trans hsz (HBE.out _).size) _).grown grow' (Nat.le_trans hsz (by simp)) (fun k hk => (HOW.out.block k hk).1))⟩
        case measure => simp [intOf]; omega
    · as_aux_lemma =>
      have i1 : ¬ (k : Int) < (N : Int) := by omega
      have hTT : rs.take k = rs := List.take_of_length_le (by rw [HN.out]; omega)
      have hkN : k = N := by omega
      have hm2 : (m : Int) = (N : Int) - ((rs.filter (keepR life now)).length : Int) := by
        have := HM.out; rw [hTT] at this; omega
      rw [hTT] at hown
      have HQ := hidR (HFIN.out u8 wr hown hb)
      rw [← hm2] at HQ
      obtain ⟨a8, c8, he8⟩ := hown.len
      obtain ⟨n8, hn8⟩ : ∃ n8, (rs.filter (keepR life now)).length = n8 := ⟨_, rfl⟩
      rw [hn8] at he8
      subst he8
      have qz : wr.frozen? ⟨pb, 2, none⟩ = false := by rw [World.frozen?_of_block (w := w1) (hb.block pb hlt)]; exact dz
      clear hTT hm2 hown hb HFIN HC HM hkN hn8
      go_wp2_with fail
      exact HQ.out
theorem rtick_any (w0 : World) (F : Nat → Prop) (pb : Nat) (s : Po) (now : Int) (w : World) (hP : RPool w0 w F pb s) (hF : ∀ k, F k → k < w.heap.size) : Calls Tryd.prog 6 #[ptrV pb, .int .i64 now] w (RTicks w0 F pb s now w) := by
  by_cases h : tickE s now = 0
  · exact rtick_yes w0 F pb s now w hP hF h
  · exact rtick_no w0 F pb s now w hP hF h
end Go.Proofs.YtgodjaffmojhlaaDoor
