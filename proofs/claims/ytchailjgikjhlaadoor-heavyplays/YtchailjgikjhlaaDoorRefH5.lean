/- What Top of the reference's counts returns: all of them, the greatest first. -/
import Derived.Test.YtchailjgikjhlaaDoorRefH4
namespace Go.Proofs.YtchailjgikjhlaaDoor
open Go.RowKit Go.Maps
set_option linter.unusedVariables false

theorem ctR_one (k : Ct) : ∀ u ∈ ctRow k, u.oneCell' = true := by
  intro u hu
  simp only [ctRow, List.mem_cons, List.not_mem_nil, or_false] at hu
  rcases hu with rfl | rfl | rfl <;> rfl
theorem ctR_len (k : Ct) : (ctRow k).length = 3 := rfl
theorem wpList_append_cv {w : World} {ops : Array Oper} {rest : List Oper} {o : Oper} {a : Act} {Q : Exit → Act → World → Prop} (hgd : o.guard = none) (s x : Operand)
    (ho : o.op = .call { callee := .builtin .append, args := #[s, x], argTypes := #[30, 30] })
    (base : Nat) (v : Value) (ks : List Ct) (hs : a.eval s = v) (hown : OwnCt w base v ks) (vx : Value) (qs : List Ct) (hx : a.eval x = vx) (hsrc : ViewN ctRow w vx qs)
    (hlen : ks.length + qs.length ≤ 1000000) (hbase : base ≤ w.heap.size)
    (h : ∀ v' w', OwnCt w' base v' (ks ++ qs) → w.grownBy w' v.ownBlock → wpList Tryd.prog ops Q rest (a.put o.dst v') w') : wpList Tryd.prog ops Q (o :: rest) a w := by
  obtain ⟨i0, hi, hz0, hz1, hz2⟩ := info_parts Tryd.infoCount
  exact wpList_append_view (enc := ctRow) hgd s x 30 ho i0 _ 24 Tryd.underlying30 hi hz0 hz1 hz2 rfl (by decide) ctR_len ctR_one hs hown vx qs hx hsrc (by unfold maxLen; omega) (by omega) hbase h
theorem cut_cts {w : World} {base : Nat} {v : Value} {gs : List Ct} (h : OwnCt w base v gs) (j : Nat) (hj : j ≤ gs.length) : ∃ va vb, (∀ X, (Instr.slice 30 v none (some (.int .i64 (j : Int))) none).run Tryd.prog X = .ok va X) ∧ (∀ X, (Instr.slice 30 v (some (.int .i64 (j : Int))) none none).run Tryd.prog X = .ok vb X) ∧ ViewN ctRow w va (gs.take j) ∧ ViewN ctRow w vb (gs.drop j) := by
  have ht : Tryd.prog.underlying 30 = some (.slice (Tryd.prog.elem 30)) := by kernel_rfl
  have he : Tryd.prog.elem 30 = 37 := by kernel_rfl
  obtain ⟨i0, hi, hz0, hz1, hz2⟩ := info_parts Tryd.infoCount
  have hsz : ∀ X, (sizeOf (Tryd.prog.elem 30)).run Tryd.prog X = .ok 3 X := fun X => by rw [he]; simp [sizeOf, typeInfo, hi, hz1]
  have hv := OwnN.view h
  obtain ⟨_, h2⟩ := h
  rcases h2 with ⟨rfl, h0⟩ | ⟨g, cap, cur, rfl, hbg, hg, hl, hm, _, _⟩
  · have e1 : gs = [] := List.length_eq_zero_iff.1 h0
    subst e1
    have hj0 : j = 0 := by simpa using hj
    subst hj0
    refine ⟨.slice none 0 0, .slice none 0 0, fun X => ?_, fun X => ?_, .inl ⟨rfl, _, _, rfl⟩, .inl ⟨rfl, _, _, rfl⟩⟩
    · rw [run_slice_h _ _ _ _ _ ht _ _ (by simp) (by simp), hsz]; rfl
    · rw [run_slice_l _ _ _ _ _ ht _ _ (by simp) (by simp), hsz]; rfl
  · have s1 : ∀ X, (Instr.slice 30 (.slice (some ⟨g, 0, none⟩) gs.length cap) none (some (.int .i64 (j : Int))) none).run Tryd.prog X = .ok (.slice (some ⟨g, 0, none⟩) j cap) X := fun X => by
      rw [run_slice_h _ _ _ _ _ ht _ _ (by omega) (by omega), hsz]
      simp [sliced, Addr.add]
    by_cases hc : cap = j
    · have hb : gs.length = j := by omega
      refine ⟨_, .slice (some ⟨g, 0, none⟩) 0 0, s1, fun X => ?_, ViewN.front ctR_len hv j hj, .inl ⟨by rw [← hb]; simp, _, _, rfl⟩⟩
      rw [run_slice_l _ _ _ _ _ ht _ _ (by omega) (by omega), hsz]
      simp [sliced, hc, hb]
    · refine ⟨_, .slice (some ⟨g, 0 + j * 3, none⟩) (gs.length - j) (cap - j), s1, fun X => ?_, ViewN.front ctR_len hv j hj, ViewN.back ctR_len hv j hj rfl (cap - j) (.inl rfl)⟩
      rw [run_slice_l _ _ _ _ _ ht _ _ (by omega) (by omega), hsz]
      by_cases h0 : j = 0
      · simp [sliced, h0, Addr.add]
      · simp [sliced, hc, Addr.add]
        omega
theorem ViewN.below {α : Type} {enc : α → List Value} {w w' : World} {vx : Value} {qs : List α} (h : ViewN enc w vx qs) (hb : Below w.heap.size w w') : ViewN enc w' vx qs := by
  rcases h with h | ⟨b, off, cap, he, hc⟩
  · exact .inl h
  · refine .inr ⟨b, off, cap, he, fun j u hj => ?_⟩
    have h1 := hc j u hj
    have hlt : b < w.heap.size := by
      rcases Nat.lt_or_ge b w.heap.size with h | h
      · exact h
      · simp [World.cell?, Array.getElem?_eq_none h] at h1
    rw [hb.cell (p := ⟨b, off + j, none⟩) hlt]; exact h1
theorem own_ct {w : World} {base g m cap : Nat} {ks : List Ct} (h : OwnCt w base (.slice (some ⟨g, 0, none⟩) m cap) ks) (i : Nat) (hi : i < ks.length) : w.cell? ⟨g, i * 3, none⟩ = some (.int .i64 ks[i].key) ∧ w.cell? ⟨g, i * 3 + 1, none⟩ = some (.int .i64 ks[i].many) ∧ w.cell? ⟨g, i * 3 + 2, none⟩ = some (.int .i64 ks[i].less) :=
  ⟨OwnN.cell h (fun _ => rfl) i hi 0 _ rfl, OwnN.cell h (fun _ => rfl) i hi 1 _ rfl, OwnN.cell h (fun _ => rfl) i hi 2 _ rfl⟩
/-- Where Top stands. -/
structure ToS (w : World) (h : Hv) (i : Nat) (gs : List Ct) (v : Value) (X : World) : Prop where
  own : OwnCt X w.heap.size v gs
  pm : gs.Perm ((h.l.take i).map (ctOf h.less))
  st : gs.Pairwise LtC
  bel : Below w.heap.size w X
theorem ins_st {gs : List Ct} {c : Ct} (hs : gs.Pairwise LtC) (k : Nat) (hk : k ≤ gs.length) (h1 : ∀ q (hq : q < gs.length), q < k → LtC gs[q] c) (h2 : ∀ h : k < gs.length, LtC c gs[k]) : (gs.take k ++ [c] ++ gs.drop k).Pairwise LtC := by
  have hp := List.pairwise_iff_getElem.1 hs
  rw [List.append_assoc, List.pairwise_append]
  refine ⟨hs.sublist (List.take_sublist _ _), ?_, ?_⟩
  · rw [List.singleton_append, List.pairwise_cons]
    refine ⟨fun d hd => ?_, hs.sublist (List.drop_sublist _ _)⟩
    obtain ⟨q, hq, rfl⟩ := List.getElem_of_mem hd
    rw [List.length_drop] at hq
    rw [List.getElem_drop]
    have hkl : k < gs.length := by omega
    rcases Nat.eq_zero_or_pos q with e | e
    · subst e; exact h2 hkl
    · exact LtC_trans (h2 hkl) (hp k (k + q) hkl (by omega) (by omega))
  · intro x hx y hy
    obtain ⟨q, hq, rfl⟩ := List.getElem_of_mem hx
    rw [List.length_take] at hq
    rw [List.getElem_take]
    have hqk : LtC gs[q] c := h1 q (by omega) (by omega)
    rw [List.singleton_append, List.mem_cons] at hy
    rcases hy with rfl | hy
    · exact hqk
    · obtain ⟨r, hr, rfl⟩ := List.getElem_of_mem hy
      rw [List.length_drop] at hr
      rw [List.getElem_drop]
      exact hp q (k + r) (by omega) (by omega) (by omega)
theorem ToS.ins {w X X' : World} {h : Hv} {i : Nat} {gs : List Ct} {v v' : Value} (s : ToS w h i gs v X) (hi : i < h.l.length) (k : Nat) (hk : k ≤ gs.length) (h1 : ∀ q (hq : q < gs.length), q < k → LtC gs[q] (ctOf h.less h.l[i])) (h2 : ∀ hq : k < gs.length, LtC (ctOf h.less h.l[i]) gs[k])
    (hown : OwnCt X' w.heap.size v' (gs.take k ++ [ctOf h.less h.l[i]] ++ gs.drop k)) (hb : Below w.heap.size w X') : ToS w h (i + 1) (gs.take k ++ [ctOf h.less h.l[i]] ++ gs.drop k) v' X' := by
  refine ⟨hown, ?_, ins_st s.st k hk h1 h2, hb⟩
  rw [List.take_succ_eq_append_getElem hi, List.map_append]
  have e : (gs.take k ++ [ctOf h.less h.l[i]] ++ gs.drop k).Perm (gs ++ [ctOf h.less h.l[i]]) := by
    rw [List.append_assoc]
    refine List.Perm.trans (List.Perm.append_left _ List.perm_append_comm) ?_
    rw [← List.append_assoc, List.take_append_drop]
  exact e.trans (s.pm.append_right _)
set_option maxRecDepth 100000 in
set_option maxHeartbeats 64000000 in
theorem rtop_any (base b : Nat) (h : Hv) (v : Value) (w : World) (k : RfAt w base b h v) (hb : base ≤ w.heap.size) (hl : h.l.length ≤ 1000) (ha : ApC h.l) :
    Calls Tryd.prog 13 #[.pointer (some ⟨b, 0, none⟩)] w fun e w' => ∃ (v' : Value) (qs : List Ct), e = .returned v' ∧ OwnCt w' w.heap.size v' qs ∧ qs.Perm (h.l.map (ctOf h.less)) ∧ qs.Pairwise LtC ∧ Below w.heap.size w w' := by
  obtain ⟨Q, hQ⟩ : ∃ Q : Ending → World → Prop, Q = fun e w' => ∃ (v' : Value) (qs : List Ct), e = .returned v' ∧ OwnCt w' w.heap.size v' qs ∧ qs.Perm (h.l.map (ctOf h.less)) ∧ qs.Pairwise LtC ∧ Below w.heap.size w w' := ⟨_, rfl⟩
  have HQ := hidE hQ
  rw [← hQ]
  clear hQ
  have HK := hidE k
  have HA := hidE ha
  have HLN := hidE hl
  have hblt := k.lt
  have c3 := (rf_cells k.blk).2.2.2
  obtain ⟨a, c, rfl⟩ := k.at
  have HROW := hidE k.row
  obtain ⟨N, hN⟩ : ∃ N, h.l.length = N := ⟨_, rfl⟩
  have HN := hidE hN
  rw [hN] at c3 hl
  have HS0 : Hid (∃ gs, ToS w h 0 gs (.slice none 0 0) w) := ⟨[], OwnN.nil _ _, by simp, List.Pairwise.nil, Below.refl _ _⟩
  clear k ha hN
  go_enter Tryd.func13, Tryd.ntmps13
  go_wp2_with fail
  go_loopw [3, 4] (fun v3 v4 wr => ∃ i : Nat, v4 = .int .i64 (i : Int) ∧ i ≤ N ∧ Hid (∃ gs, ToS w h i gs v3 wr)) (fun _ v4 _ => ((N : Int) - intOf v4).toNat)
  case atStart => exact ⟨0, rfl, Nat.zero_le _, HS0⟩
  case round =>
    clear HS0
    obtain ⟨i, rfl, hi, HS⟩ := hrel
    obtain ⟨gs, hS⟩ := HS.out
    have c3 := (hS.bel.cell (p := ⟨b, 3, none⟩) hblt).trans c3
    by_cases hlt : i < N
    · have hi1 : (i : Int) < (N : Int) := by omega
      have hil : i < h.l.length := by rw [HN.out]; exact hlt
      obtain ⟨g, cap, e, g1, g2, g3, g4, hc⟩ := HROW.out (by omega)
      simp only [Value.slice.injEq, true_and] at e
      obtain ⟨rfl, rfl⟩ := e
      obtain ⟨d0, _, _⟩ := hc i hil
      have d0 := (hS.bel.cell (p := ⟨g, i * 3, none⟩) g2).trans d0
      have hcnt := rcount_any base b h _ h.l[i].1 _ (HK.out.below hS.bel) HLN.out HA.out
      have eg : getC h.l h.l[i].1 = h.l[i].2 := getC_mem HA.out (List.getElem_mem hil)
      rw [eg] at hcnt
      unfold cntV at hcnt
      obtain ⟨ct, hct⟩ : ∃ ct, ctOf h.less h.l[i] = ct := ⟨_, rfl⟩
      have HCT := hidE hct
      have e1 : h.l[i].1 = ct.key := by rw [← hct]; rfl
      have e2 : h.l[i].2 = ct.many := by rw [← hct]; rfl
      have e3 : h.less = ct.less := by rw [← hct]; rfl
      rw [e1, e2, e3] at hcnt
      rw [e1] at d0
      have HSW := hidE hS
      have HIL := hidE hil
      have hgl : gs.length ≤ 1000 := by
        rw [hS.pm.length_eq, List.length_map, List.length_take]
        have := HN.out
        omega
      have HNE : Hid (∀ q (hq : q < gs.length), gs[q].key ≠ ct.key) := fun q hq e => by
        obtain ⟨p, hp, hpe⟩ := List.mem_map.1 (hS.pm.mem_iff.1 (List.getElem_mem hq))
        obtain ⟨r, hr, rfl⟩ := List.getElem_of_mem hp
        rw [List.length_take] at hr
        rw [List.getElem_take] at hpe
        have e5 : gs[q].key = h.l[r].1 := by rw [← hpe]; rfl
        have hap := List.pairwise_iff_getElem.1 HA.out
        exact hap r i (by omega) hil (by omega) (by rw [← e5, e, e1])
      obtain ⟨a3, c3', e4⟩ := OwnN.len hS.own
      subst e4
      clear hc hct e1 e2 e3 hS HS eg
      go_upto_region 6 with (go_at_call 9; go_must (refine hcnt.mono ?_; rintro e W2 ⟨rfl, b2⟩))
      have B3 : Below W2.heap.size W2 (W2.alloc (.cells #[.int .i64 ct.key, .int .i64 ct.many, .int .i64 ct.less] 37)) := (Below.refl _ _).alloc (Nat.le_refl _) _
      have x3 := heap_alloc_new W2 (.cells #[.int .i64 ct.key, .int .i64 ct.many, .int .i64 ct.less] 37)
      have o3 := OwnN.below (OwnN.below HSW.out.own b2) B3
      have b3 := (HSW.out.bel.trans (b2.mono HSW.out.bel.size)).trans (B3.mono (HSW.out.bel.trans (b2.mono HSW.out.bel.size)).size)
      have hlw : w.heap.size ≤ W2.heap.size := (HSW.out.bel.trans (b2.mono HSW.out.bel.size)).size
      obtain ⟨B, hB⟩ : ∃ B, W2.heap.size = B := ⟨_, rfl⟩
      obtain ⟨W3, hW3⟩ : ∃ W3, W2.alloc (.cells #[.int .i64 ct.key, .int .i64 ct.many, .int .i64 ct.less] 37) = W3 := ⟨_, rfl⟩
      rw [hW3] at x3 o3 b3 ⊢
      rw [hB] at x3 hlw ⊢
      have HX3 := hidE x3
      have HO3 := hidE o3
      have HB3 := hidE b3
      clear hW3 hB B3 b2 x3 o3 b3 hcnt d0
      go_upto_block 2 with fail
      go_cut [6] (fun v6 wx => ∃ j : Nat, v6 = .int .i64 (j : Int) ∧ j ≤ gs.length ∧ Hid ((∀ q (hq : q < gs.length), q < j → LtC gs[q] ct) ∧ ∀ hq : j < gs.length, LtC ct gs[j]) ∧ Hid (Below W3.heap.size W3 wx))
      case first =>
        go_wp2_with fail
        go_loopw [6] (fun v6 wx => ∃ j : Nat, v6 = .int .i64 (j : Int) ∧ j ≤ gs.length ∧ Hid (∀ q (hq : q < gs.length), q < j → LtC gs[q] ct) ∧ Hid (Below W3.heap.size W3 wx)) (fun v6 _ => ((gs.length : Int) - intOf v6).toNat)
        case atStart => exact ⟨0, rfl, Nat.zero_le _, (fun q _ h => by omega), Below.refl _ _⟩
        case round =>
          obtain ⟨j, rfl, hj, HL, HBX⟩ := hrel
          obtain ⟨p0, p1, _⟩ := ct_cells ((HBX.out.block _ (blkLt HX3.out)).trans HX3.out)
          have p0 := Ext.cell p0
          have p1 := Ext.cell p1
          by_cases hjl : j < gs.length
          · have hj1 : (j : Int) < (gs.length : Int) := by omega
            have oX := OwnN.below HO3.out HBX.out
            obtain ⟨gg, cg, eg, _, _, l1, l2⟩ := OwnN.shape oX (by omega)
            simp only [Value.slice.injEq, true_and] at eg
            obtain ⟨rfl, rfl⟩ := eg
            obtain ⟨q0, q1, _⟩ := own_ct oX j hjl
            have q0 := Ext.cell q0
            have q1 := Ext.cell q1
            have hne := HNE.out j hjl
            have HAH : Hid (LtC gs[j] ct → ∀ q (hq : q < gs.length), q < j + 1 → LtC gs[q] ct) := fun hlt q hq hqj => by
              rcases Nat.lt_or_ge q j with e | e
              · exact HL.out q hq e
              · have : q = j := by omega
                subst this; exact hlt
            obtain ⟨om, hom⟩ : ∃ z, gs[j].many = z := ⟨_, rfl⟩
            obtain ⟨ok, hok⟩ : ∃ z, gs[j].key = z := ⟨_, rfl⟩
            have HOM : Hid (gs[j].many = om ∧ gs[j].key = ok) := ⟨hom, hok⟩
            rw [hom] at q1
            rw [hok] at q0 hne
            clear oX hom hok
            by_cases h1 : om > ct.many
            · have HNX : Hid (∀ q (hq : q < gs.length), q < j + 1 → LtC gs[q] ct) := HAH.out (by unfold LtC; rw [HOM.out.1]; left; omega)
              have hd : decide (om > ct.many) = true := decide_eq_true h1
              go_upto_region 7 with fail
              refine wp_region_ext (by kernel_rfl) (by kernel_rfl) ?_
              repeat (go_big_quiet_step (fail))
              refine wpQuiet_nil ?_
              rintro _ ⟨u, rfl⟩
              have HBU := hidE (HBX.out.trans (u.h.mono HBX.out.size))
              obtain ⟨WU, hWU⟩ : ∃ X9, u.W = X9 := ⟨_, rfl⟩
              rw [hWU] at HBU
              rw [hWU]
              clear hWU u p0 p1
              clear q0 q1
              go_wp2_with fail
              go_roundw
              case rel => exact ⟨j + 1, by simp, by omega, HNX, HBU⟩
              case measure => simp only [intOf]; omega
            · have hd : decide (om > ct.many) = false := decide_eq_false h1
              by_cases h2 : om = ct.many
              · have hd2 : (om == ct.many) = true := by simpa using h2
                by_cases h3 : ok < ct.key
                · have HNX : Hid (∀ q (hq : q < gs.length), q < j + 1 → LtC gs[q] ct) := HAH.out (by unfold LtC; rw [HOM.out.1, HOM.out.2]; right; omega)
                  have hd3 : decide (ok < ct.key) = true := decide_eq_true h3
                  go_upto_region 7 with fail
                  refine wp_region_ext (by kernel_rfl) (by kernel_rfl) ?_
                  repeat (go_big_quiet_step (fail))
                  refine wpQuiet_nil ?_
                  rintro _ ⟨u, rfl⟩
                  have HBU := hidE (HBX.out.trans (u.h.mono HBX.out.size))
                  obtain ⟨WU, hWU⟩ : ∃ X9, u.W = X9 := ⟨_, rfl⟩
                  rw [hWU] at HBU
                  rw [hWU]
                  clear hWU u p0 p1
                  clear q0 q1
                  go_wp2_with fail
                  go_roundw
                  case rel => exact ⟨j + 1, by simp, by omega, HNX, HBU⟩
                  case measure => simp only [intOf]; omega
                · have HAF : Hid (∀ hq : j < gs.length, LtC ct gs[j]) := fun _ => by unfold LtC; rw [HOM.out.1, HOM.out.2]; right; omega
                  have hd3 : decide (ok < ct.key) = false := decide_eq_false h3
                  go_upto_region 7 with fail
                  refine wp_region_ext (by kernel_rfl) (by kernel_rfl) ?_
                  repeat (go_big_quiet_step (fail))
                  refine wpQuiet_nil ?_
                  rintro _ ⟨u, rfl⟩
                  have HBU := hidE (HBX.out.trans (u.h.mono HBX.out.size))
                  obtain ⟨WU, hWU⟩ : ∃ X9, u.W = X9 := ⟨_, rfl⟩
                  rw [hWU] at HBU
                  rw [hWU]
                  clear hWU u p0 p1
                  clear q0 q1
                  go_wp2_with fail
                  go_meet
                  exact ⟨j, rfl, hj, ⟨HL.out, HAF.out⟩, HBU⟩
              · have HAF : Hid (∀ hq : j < gs.length, LtC ct gs[j]) := fun _ => by unfold LtC; rw [HOM.out.1]; left; omega
                have hd2 : (om == ct.many) = false := by simpa using h2
                go_upto_region 7 with fail
                refine wp_region_ext (by kernel_rfl) (by kernel_rfl) ?_
                repeat (go_big_quiet_step (fail))
                refine wpQuiet_nil ?_
                rintro _ ⟨u, rfl⟩
                have HBU := hidE (HBX.out.trans (u.h.mono HBX.out.size))
                obtain ⟨WU, hWU⟩ : ∃ X9, u.W = X9 := ⟨_, rfl⟩
                rw [hWU] at HBU
                rw [hWU]
                clear hWU u p0 p1
                clear q0 q1
                go_wp2_with fail
                go_meet
                exact ⟨j, rfl, hj, ⟨HL.out, HAF.out⟩, HBU⟩
          · have hj1 : decide ((j : Int) < (gs.length : Int)) = false := decide_eq_false (by omega)
            have HAF : Hid (∀ hq : j < gs.length, LtC ct gs[j]) := fun hq => absurd hq hjl
            go_upto_region 7 with fail
            refine wp_region_ext (by kernel_rfl) (by kernel_rfl) ?_
            repeat (go_big_quiet_step (fail))
            refine wpQuiet_nil ?_
            rintro _ ⟨u, rfl⟩
            have HBU := hidE (HBX.out.trans (u.h.mono HBX.out.size))
            obtain ⟨WU, hWU⟩ : ∃ X9, u.W = X9 := ⟨_, rfl⟩
            rw [hWU] at HBU
            rw [hWU]
            clear hWU u p0 p1
            go_wp2_with fail
            go_meet
            exact ⟨j, rfl, hj, ⟨HL.out, HAF.out⟩, HBU⟩
      case rest =>
        obtain ⟨j, rfl, hj, HLA, HBX⟩ := hcut
        have oT := OwnN.below HO3.out HBX.out
        obtain ⟨va', vb', s1, s2, v1, v2⟩ := cut_cts oT j hj
        have HV2 := hidE v2
        have xT := (HBX.out.block _ (blkLt HX3.out)).trans HX3.out
        obtain ⟨p0, p1, p2⟩ := ct_cells xT
        have htl : (gs.take j).length ≤ 1000 := by rw [List.length_take]; omega
        have htd : (gs.drop j).length ≤ 1000 := by rw [List.length_drop]; omega
        have hl0 : ([] : List Ct).length + (gs.take j).length ≤ 1000000 := by simp only [List.length_nil]; omega
        have HBW := hidE (HB3.out.trans (HBX.out.mono HB3.out.size))
        have hwT := HBW.out.size
        have HXT := hidE xT
        obtain ⟨WT, hWT⟩ : ∃ WT, wc = WT := ⟨_, rfl⟩
        rw [hWT] at HBX HV2 HBW HXT p0 p1 p2 hwT v1
        rw [hWT]
        clear hWT oT xT v2
        have hnl0 : OwnCt WT WT.heap.size (.slice none 0 0) [] := OwnN.nil _ _
        go_upto_region 11 with (first
          | (at_builtin; refine wpList_append_cv rfl (.tmp 63) (.tmp 66) rfl WT.heap.size (.slice none 0 0) [] rfl hnl0 va' (gs.take j) rfl v1 hl0 (Nat.le_refl _) ?_; intro v5 W5 own5 g5)
          | go_in)
        rw [List.nil_append] at own5
        have b5 : Below WT.heap.size WT W5 := ⟨g5.os, g5.tape, g5.output, g5.size, fun q hq => g5.block q hq (by intro e; cases e)⟩
        have hs5 := b5.size
        obtain ⟨p0, p1, p2⟩ := ct_cells ((b5.block _ (blkLt HXT.out)).trans HXT.out)
        have HB5 := hidE b5
        clear s1 v1 g5 b5 hl0 hnl0 HXT HBX
        go_upto_region 12 with (first
          | (at_builtin; refine wpList_append_ct rfl (.tmp 68) (.tmp 70) rfl WT.heap.size v5 (gs.take j) rfl own5 { key := ct.key, many := ct.many, less := ct.less } rfl (by omega) hs5 ?_; intro v6 W6 own6 g6)
          | go_in)
        have bA := HB5.out.alloc HB5.out.size (.cells #[.int .i64 ct.key, .int .i64 ct.many, .int .i64 ct.less] 37)
        have b6 : Below WT.heap.size WT W6 := ⟨g6.os.trans bA.os, g6.tape.trans bA.tape, g6.output.trans bA.output, Nat.le_trans bA.size g6.size, fun q hq => (g6.block q (Nat.lt_of_lt_of_le hq bA.size) (fun e => by have := (OwnN.block own5 q e.symm).1; omega)).trans (bA.block q hq)⟩
        have hs6 := b6.size
        have HB6 := hidE b6
        have vv2 := HV2.out.below b6
        have own6' : OwnCt W6 WT.heap.size v6 (gs.take j ++ [ct]) := own6
        have hl6 : (gs.take j ++ [ct]).length + (gs.drop j).length ≤ 1000000 := by rw [List.length_append]; simp only [List.length_cons, List.length_nil]; omega
        clear own5 own6 g6 bA b6 p0 p1 p2 hs5 HB5
        go_wp2_with (first
          | (at_builtin; refine wpList_append_cv rfl (.tmp 72) (.tmp 75) rfl WT.heap.size v6 (gs.take j ++ [ct]) rfl own6' vb' (gs.drop j) rfl vv2 hl6 hs6 ?_; intro v7 W7 own7 g7)
          | go_in)
        have b7 : Below WT.heap.size WT W7 := ⟨g7.os.trans HB6.out.os, g7.tape.trans HB6.out.tape, g7.output.trans HB6.out.output, Nat.le_trans HB6.out.size g7.size, fun q hq => (g7.block q (Nat.lt_of_lt_of_le hq HB6.out.size) (fun e => by have := (OwnN.block own6' q e.symm).1; omega)).trans (HB6.out.block q hq)⟩
        have HS7 : Hid (∃ gs', ToS w h (i + 1) gs' v7 W7) := by
          refine ⟨_, HSW.out.ins hil j hj (by rw [HCT.out]; exact HLA.out.1) (by rw [HCT.out]; exact HLA.out.2) ?_ (HBW.out.trans (b7.mono HBW.out.size))⟩
          rw [HCT.out]
          exact OwnN.rebase own7 hwT
        clear own7 g7 b7 vv2 own6' s2
        go_roundw
        case rel => exact ⟨i + 1, by simp, by omega, HS7⟩
        case measure => simp only [intOf]; omega
    · have hi1 : ¬ (i : Int) < (N : Int) := by omega
      have ei : i = h.l.length := by rw [HN.out]; omega
      have HFIN : Hid (Q (.returned u3) wr) := by
        show Q _ _
        rw [HQ.out]
        refine ⟨_, gs, rfl, hS.own, ?_, hS.st, hS.bel⟩
        have := hS.pm
        rw [ei, List.take_length] at this
        exact this
      clear hS HS
      go_wp2_with fail
      exact HFIN.out
end Go.Proofs.YtchailjgikjhlaaDoor
