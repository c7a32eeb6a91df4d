/- What Due of package sync's Teller returns: the notes that are due, and when each is due again. -/
import Derived.Test.YtkkefgoidjjehaaDoorSynDu0
import Derived.Test.YtkkefgoidjjehaaDoorSynDu1
import Derived.Test.YtkkefgoidjjehaaDoorSynDu2
namespace Go.Proofs.YtkkefgoidjjehaaDoor
open Go.RowKit Go.Maps
set_option linter.unusedVariables false

set_option maxRecDepth 100000 in
set_option maxHeartbeats 16000000 in
theorem tlDue_any (b m t0 h n now : Nat) (ds : Nat → Nat) (w : World) (k : TlAt w b m t0 h n ds) (hh : h ≤ n) (hn : n ≤ 100) (h0 : t0 ≤ now) (hw : now ≤ 1000) (hdb : ∀ j, ds j ≤ 2000) :
    Calls Tryd.prog 14 #[.pointer (some ⟨b, 0, none⟩), .int .i64 (now : Int)] w fun e w' => ∃ v, e = .returned (.tuple #[v, .nilIface]) ∧ OwnNt w' w.heap.size v ((dueJ h n now ds).map nK) ∧ TlAt w' b m now h n (dsN now ds) ∧ Turn (Bth b m) w w' := by
  obtain ⟨⟨c0, c1, c2, c3⟩, f0, f2⟩ := tl_cells k.1
  have hM := tmv_ok b (t0 : Int) (now : Int) w (by omega) (by omega) (by omega) c0 f0
  have k1 : TlAt (w.setCell ⟨b, 0, none⟩ (.int .i64 (now : Int))) b m now h n ds := ⟨tl_set0 k.1 _, k.2.block (heap_setCell_other w ⟨b, 0, none⟩ m _ k.ne.symm)⟩
  have t1 : Turn (Bth b m) w (w.setCell ⟨b, 0, none⟩ (.int .i64 (now : Int))) := Turn.of_only ((Only.refl _ _).setCell _ _) (.inl rfl)
  obtain ⟨W1, hW1⟩ : ∃ W1, w.setCell ⟨b, 0, none⟩ (.int .i64 (now : Int)) = W1 := ⟨_, rfl⟩
  rw [hW1] at hM k1 t1
  have hf := tlFirst_any b m now h n ds W1 k1 hh (by omega)
  have HK := hidT k
  have HK1 := hidT k1
  have HT1 := hidT t1
  have HDB := hidT hdb
  clear k hW1 c0 c1 c2 c3 f0 f2 k1 t1 hdb
  go_enter Tryd.func14, Tryd.ntmps14
  go_upto_region 6 with (first
    | (go_at_call 25; go_must ((with_reducible refine hM.mono ?_); rintro e W2 ⟨rfl, hW2⟩; rw [hW2]; clear hW2 W2))
    | (go_at_call 26; go_must ((with_reducible refine hf.mono ?_); rintro e W2 ⟨rfl, hW2⟩; rw [hW2]; clear hW2 W2)))
  clear hM hf
  go_loopw [7, 8] (fun v7 v8 wr => ∃ g : Nat, v8 = .int .i64 ((g : Int) + 1) ∧ h ≤ g ∧ g ≤ n ∧ OwnNt wr w.heap.size v7 ((dueJ h g now ds).map nK) ∧ Hid (TlAt wr b m now h n (dsP now g ds)) ∧ Hid (Turn (Bth b m) w wr)) (fun _ v8 _ => (1001 - intOf v8).toNat)
  case atStart =>
    refine ⟨h, rfl, Nat.le_refl _, hh, ?_, ?_, HT1.out.drewN 1⟩
    · have e : dueJ h h now ds = [] := by unfold dueJ; rw [Nat.sub_self]; rfl
      rw [e]
      exact OwnN.nil _ _
    · refine ⟨HK1.out.1, ?_⟩
      rw [← tlL_congr (ds := ds) (fun x hx => by have := (mem_rngL.1 hx).1; unfold dsP; rw [if_neg (by omega)])]
      exact HK1.out.2.block rfl
  case round =>
    clear HK1 HT1
    obtain ⟨g, rfl, hg1, hg2, own, HT, HU⟩ := hrel
    obtain ⟨ao, ca, rfl⟩ := OwnN.len own
    have HOW := hidT own
    clear own
    obtain ⟨LN, hLN⟩ : ∃ LN, ((dueJ h g now ds).map nK).length = LN := ⟨_, rfl⟩
    have HLN : Hid (((dueJ h g now ds).map nK).length = LN) := hLN
    rw [hLN] at HOW
    rw [hLN]
    clear hLN
    obtain ⟨⟨c0, c1, c2, c3⟩, _⟩ := tl_cells HT.out.1
    by_cases hgn : g < n
    · have j1 : (g : Int) + 1 ≤ (n : Int) := by omega
      have j2 : (g : Int) ≤ 100 := by omega
      have hkey : keyOf Tryd.prog 3 (.int .i64 ((g : Int) + 1)) = some (.int .i64 ((g + 1 : Nat) : Int)) := by
        have := keyI (k := g + 1) (by omega)
        rw [show ((g + 1 : Nat) : Int) = (g : Int) + 1 by omega] at this ⊢
        exact this
      have hlook := HT.out.2.look lawI Tryd.underlying70 (zeroUt wr) hkey (tlL_mem (ds := dsP now g ds) (j := g + 1) (mem_rngL.2 ⟨by omega, by omega⟩))
      rw [show dsP now g ds (g + 1) = ds (g + 1) by unfold dsP; rw [if_neg (by omega)]] at hlook
      obtain ⟨N, hN⟩ : ∃ N, nK (g + 1) = N := ⟨_, rfl⟩
      obtain ⟨d, hd⟩ : ∃ d, ds (g + 1) = d := ⟨_, rfl⟩
      have HN := hidT hN
      have HD := hidT hd
      have hdb : d ≤ 2000 := by rw [← hd]; exact HDB.out _
      rw [hN, hd] at hlook
      unfold utV at hlook
      have HKY := hidT hkey
      clear hN hd hkey
      go_upto_region 8 with fail
      refine due_r8 wr b m g d N _ _ _ (by kernel_rfl) c3 hlook _ _ _ _ _ _ _ _ _ _ _ _ _ _ _ _ _ _ _ _ _ _ _ _ _ _ _ _ _ _ _ _ _ _ _ _ _ _ _ _ _ _ _ _ _ _ _ _ _ _ _ _ _ _ _ ?_
      intro W9 u28' u29' u30' u31' u32' u33' u1 b1
      conv =>
        arg 1
        zeta
      try go_step
      obtain ⟨X1, hX1⟩ : ∃ X1, X1 = W9 := ⟨_, rfl⟩
      subst hX1
      have hbw := HT.out.lt
      have hmw := HT.out.2.lt
      obtain ⟨U, hU⟩ : ∃ U, wr.heap.size = U := ⟨_, rfl⟩
      have HUE := hidT hU
      have k1 := HT.out.below b1
      have t1 : Turn (Bth b m) w X1 := HU.out.trans (Turn.of_below b1 _)
      have ow1 : OwnNt X1 w.heap.size (.slice ao LN ca) ((dueJ h g now ds).map nK) := OwnN.below HOW.out b1
      have HWU : Hid (w.heap.size ≤ U) := by rw [← hU]; exact HU.out.size
      have HOU : Hid (∀ k, (Value.slice ao LN ca).ownBlock = some k → w.heap.size ≤ k ∧ k < U) := fun k hk => by rw [← hU]; exact OwnN.block HOW.out k hk
      rw [hU] at u1 hbw hmw
      rw [hU]
      clear hlook c0 c1 c2 c3 b1 hU HT HU HOW
      have r17 := (ut_cells u1).1.2.2.2.2.2.2.2.2.2.2.2.2.2.2.2.2.2
      by_cases hdn : d ≤ now
      · have j3 : ¬ (now : Int) < (d : Int) := by omega
        go_upto_region 10 with fail
        have hle : ((dueJ h g now ds).map nK).length ≤ 1000 := by
          rw [List.length_map]
          unfold dueJ
          exact Nat.le_trans (List.length_filter_le _ _) (by simp; omega)
        have hbase : w.heap.size ≤ X1.heap.size := t1.size
        refine due_r10 X1 U w.heap.size LN ca ao (d : Int) N ((dueJ h g now ds).map nK) _ _ _ (by kernel_rfl) u1 ow1 hle hbase _ _ _ _ _ _ _ _ _ _ _ _ _ _ _ _ _ _ _ _ _ _ _ _ _ _ _ _ _ _ _ _ _ _ _ _ _ _ _ _ _ _ _ _ _ _ _ _ _ _ _ _ _ _ _ ?_
        intro v7 W7 u38' u39' u40' u41' u42' own7 gr7
        conv =>
          arg 1
          zeta
        try go_step
        have hwb := HK.out.lt
        have hwm := HK.out.2.lt
        have ha : ∀ q, q < X1.heap.size → ¬ (Value.slice ao LN ca).ownBlock = some q → W7.heap[q]? = X1.heap[q]? := fun q h1 h2 => by
          rw [gr7.block q (by simp; omega) (fun e => h2 e.symm), Below.heap_alloc _ _ _ h1]
        have u7 : UtAt W7 U N (d : Int) := by
          have hU1 : U < X1.heap.size := (Array.getElem?_eq_some_iff.1 u1).1
          unfold UtAt
          rw [ha U hU1 (fun e => by have := (HOU.out U e).2; omega)]
          exact u1
        have k7 : TlAt W7 b m now h n (dsP now g ds) := k1.blk (ha b k1.lt (fun e => by have := (HOU.out b e).1; omega)) (ha m k1.2.lt (fun e => by have := (HOU.out m e).1; omega))
        have t7 : Turn (Bth b m) w W7 := ⟨gr7.os.trans t1.os, gr7.tape.trans t1.tape, gr7.output.trans t1.output, Nat.le_trans t1.size (Nat.le_trans (by simp) gr7.size), fun q h1 h2 => by
          rw [ha q (by omega) (fun e => by have := (HOU.out q e).1; omega)]
          exact t1.block q h1 h2⟩
        clear ow1 k1 t1 u1 gr7 hle ha r17
        obtain ⟨⟨c0, c1, c2, c3⟩, _⟩ := tl_cells k7.1
        have fz := (ut_cells u7).2
        have r17 := (ut_cells u7).1.2.2.2.2.2.2.2.2.2.2.2.2.2.2.2.2.2
        have hUb : U ≠ b := by omega
        have hn0 : (0 : Int) ≤ (now : Int) := by omega
        have hn1 : (now : Int) ≤ 1000 := by omega
        go_upto_region 12 with fail
        have u8 := ut_set u7 ((now : Int) + 3)
        have o8 : Only U W7 (W7.setCell ⟨U, 17, none⟩ (.int .i64 ((now : Int) + 3))) := (Only.refl _ _).setCell _ _
        obtain ⟨W8, hW8⟩ : ∃ W8, W7.setCell ⟨U, 17, none⟩ (.int .i64 ((now : Int) + 3)) = W8 := ⟨_, rfl⟩
        rw [hW8] at u8 o8
        rw [hW8]
        have k8 := k7.blk (o8.block b (by omega)) (o8.block m (by omega))
        have own8 : OwnNt W8 w.heap.size v7 ((dueJ h g now ds).map nK ++ [N]) := OwnN.blk own7 (fun q hq => o8.block q (fun e => own_not own7 u7 (by decide) (e ▸ hq)))
        have t8 : Turn (Bth b m) w W8 := t7.andThen (Turn.of_only (F := fun i => i = U) o8 rfl) (fun i hi => .inr (by have := HWU.out; rw [hi]; omega))
        clear hW8 k7 own7 t7 c0 c1 c2 c3 fz r17
        obtain ⟨⟨c0, c1, c2, c3⟩, _⟩ := tl_cells k8.1
        obtain ⟨W9, hup, m9, g9⟩ := k8.drew.2.store lawI Tryd.underlying70 (by simp [tlL, rngL_len, maxLen]; omega) HKY.out (.agg #[.int .i64 N.what, .int .i64 N.seq, .int .i64 N.fl.key.kind, .int .i64 N.fl.key.src, .int .i64 N.fl.key.frm, .int .i64 N.fl.key.dst, .int .i64 N.fl.key.too, .int .i64 N.fl.st, .int .i64 N.fl.unt, .int .i64 N.fl.stp, .int .i64 N.fl.h0, .int .i64 N.fl.h1, .int .i64 N.fl.w0, .int .i64 N.fl.w1, .bool N.fl.d0, .bool N.fl.d1, .int .i64 N.fl.num, .int .i64 ((now : Int) + 3)])
        rw [tlL_filter] at m9
        have e9 : dsP now (g + 1) ds (g + 1) = now + 3 := by
          unfold dsP dsN
          rw [if_pos (Nat.le_refl _), HD.out, if_pos hdn]
        have k9 : TlAt W9 b m now h n (dsP now (g + 1) ds) := by
          refine ⟨?_, ?_⟩
          · rw [g9.block b (by simpa using k8.lt) (fun e => k8.ne (by simpa using e))]; exact k8.1
          · refine m9.perm ?_
            have p := tlL_put (ds := dsP now g ds) (ds' := dsP now (g + 1) ds) (rngL_nodup h n) (j := g + 1) (mem_rngL.2 ⟨by omega, by omega⟩) (fun x _ hx => by
              unfold dsP
              by_cases e1 : x ≤ g
              · rw [if_pos e1, if_pos (by omega)]
              · rw [if_neg e1, if_neg (by omega)])
            rw [e9, HN.out] at p
            exact p
        have own9 : OwnNt W9 w.heap.size v7 ((dueJ h (g + 1) now ds).map nK) := by
          rw [due_succ hg1, HD.out, if_pos hdn, List.map_append, List.map_cons, List.map_nil, HN.out]
          refine OwnN.blk own8 (fun q hq => ?_)
          rw [g9.block q (by simpa using (OwnN.block own8 q hq).2) (fun e => by
            have e' : q = m := by simpa using e
            have := (OwnN.block own8 q hq).1
            omega)]
          rfl
        have t9 : Turn (Bth b m) w W9 := (t8.drewN 1).trans (Turn.of_grown g9 (fun i e => .inr (by simpa using e.symm)))
        have HK9 := hidT k9
        have HT9 := hidT t9
        have HO9 := hidT own9
        clear k9 t9 own9 m9 g9 own8 t8 k8 hdn e9
        refine due_r12 W8 W9 b m g U ((now : Int) + 3) N  _ _ (by kernel_rfl) u8 c3 hup _ _ _ _ _ _ _ _ _ _ _ _ _ _ _ _ _ _ _ _ _ _ _ _ _ _ _ _ _ _ _ _ _ _ _ _ _ _ _ _ _ _ _ _ _ _ _ _ _ _ _ _ _ _ ?_
        intro W10 u50' u51' u52' u53' u54' u55' h10
        subst h10
        conv =>
          arg 1
          zeta
        try go_step
        go_wp2_with fail
        go_roundw
        case rel => exact ⟨g + 1, by simp, by omega, by omega, HO9.out, HK9, HT9⟩
        case measure => simp only [intOf]; omega
      · have j3 : (now : Int) < (d : Int) := by omega
        have k9 : TlAt X1 b m now h n (dsP now (g + 1) ds) := by
          refine ⟨k1.1, ?_⟩
          rw [← tlL_congr (ds := dsP now g ds) (fun x hx => ?_)]
          · exact k1.2
          · unfold dsP
            by_cases e1 : x ≤ g
            · rw [if_pos e1, if_pos (by omega)]
            · by_cases e2 : x = g + 1
              · rw [if_neg e1, if_pos (by omega), e2]
                unfold dsN
                rw [HD.out, if_neg hdn]
              · rw [if_neg e1, if_neg (by omega)]
        have ow9 : OwnNt X1 w.heap.size (.slice ao LN ca) ((dueJ h (g + 1) now ds).map nK) := by
          rw [due_succ hg1, HD.out, if_neg hdn, List.append_nil]
          exact ow1
        have HK9 := hidT k9
        have HT9 := hidT t1
        have HO9 := hidT ow9
        clear k9 t1 ow9 ow1 k1 hdn
        go_wp2_with fail
        go_roundw
        case rel => exact ⟨g + 1, by simp, by omega, by omega, HO9.out, HK9, HT9⟩
        case measure => simp only [intOf]; omega
    · obtain rfl : g = n := by omega
      have j1 : ¬ (g : Int) + 1 ≤ (g : Int) := by omega
      have k9 : TlAt wr b m now h g (dsN now ds) := by
        refine ⟨HT.out.1, ?_⟩
        rw [← tlL_congr (ds := dsP now g ds) (fun x hx => by have := (mem_rngL.1 hx).2; unfold dsP; rw [if_pos this])]
        exact HT.out.2
      have HK9 := hidT k9
      clear k9
      go_wp2_with fail
      go_ret2
      exact ⟨_, rfl, HOW.out, HK9.out, HU.out⟩
end Go.Proofs.YtkkefgoidjjehaaDoor
