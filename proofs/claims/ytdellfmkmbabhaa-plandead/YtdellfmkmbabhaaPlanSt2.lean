/- What 'starts' returns (package plan): the numbers from which on a rule may fit or not, each once, rising. -/
import Derived.Test.YtdellfmkmbabhaaPlanSt
namespace Go.Proofs.Ytdellfmkmbabhaa
open Go.RowKit
set_option linter.unusedVariables false
set_option maxRecDepth 10000

/-- 'append' of two numbers onto a row of the call's own. -/
theorem wpList_append_int2 {w : World} {ops : Array Oper} {rest : List Oper} {o : Oper} {a : Act} {Q : Exit → Act → World → Prop} (hgd : o.guard = none) (s x : Operand)
    (ho : o.op = .call { callee := .builtin .append, args := #[s, x], argTypes := #[40, 40] })
    (base : Nat) (v : Value) (zs : List Int) (hs : a.eval s = v) (hown : OwnI w base v zs) (y z : Int) (hx : a.eval x = .slice (some ⟨w.heap.size, 0, none⟩) 2 2)
    (hlen : zs.length ≤ 4398046511104) (hbase : base ≤ w.heap.size)
    (h : ∀ v' w', OwnI w' base v' (zs ++ [y, z]) → (w.alloc (.cells #[.int .i64 y, .int .i64 z] 3)).grownBy w' v.ownBlock → (v'.ownBlock = v.ownBlock ∨ v'.ownBlock = some (w.heap.size + 1)) → wpList Try.prog ops Q rest (a.put o.dst v') w') :
    wpList Try.prog ops Q (o :: rest) a (w.alloc (.cells #[.int .i64 y, .int .i64 z] 3)) := by
  obtain ⟨i0, hi, hz0, hz1, hz2⟩ := info_parts Try.infoInt
  refine wpList_append_at hgd s x 40 ho base 3 i0 (.int .i64 0) 1 8 Try.underlying40 hi hz0 hz1 hz2 rfl (by decide) v zs.length (zs.map (Value.int .i64)) hs (OwnI.alloc hown _) ⟨w.heap.size, 0, none⟩ 2 2 [.int .i64 y, .int .i64 z] hx rfl ?_ ?_ (by unfold maxLen; omega) (by omega) (by simp; omega) ?_
  · intro j u hj
    match j, hj with
    | 0, hj => simp at hj; subst hj; simp [Addr.add]
    | 1, hj => simp at hj; subst hj; simp [Addr.add]
  · intro u hu
    rcases (by simpa using hu : u = .int .i64 y ∨ u = .int .i64 z) with rfl | rfl <;> rfl
  · intro v' w' h1 h2 h3
    refine h v' w' ?_ h2 (by simpa using h3)
    unfold OwnI
    rw [List.length_append, List.map_append]; exact h1
def ptsL (l : List Sp) : List Int := l.flatMap fun s => [s.1, s.2 + 1]
theorem ptsL_len (l : List Sp) : (ptsL l).length = l.length * 2 := by
  unfold ptsL
  induction l with
  | nil => rfl
  | cons a l ih => rw [List.flatMap_cons, List.length_append, ih, List.length_cons]; simp; omega
theorem ptsL_take {l : List Sp} {k : Nat} (h : k < l.length) : ptsL (l.take (k + 1)) = ptsL (l.take k) ++ [l[k].1, l[k].2 + 1] := by
  unfold ptsL
  rw [List.take_succ_eq_append_getElem h, List.flatMap_append]; simp
theorem rawE_snoc (lo : Int) (L : List (List Sp)) (ss : List Sp) : rawE lo (L ++ [ss]) = rawE lo L ++ ptsL ss := by
  unfold rawE ptsL
  rw [List.flatMap_append, List.cons_append]; simp
theorem rawE_len (lo : Int) {L : List (List Sp)} (h : ∀ ss ∈ L, ss.length ≤ 10) : (rawE lo L).length ≤ 1 + L.length * 20 := by
  induction L with
  | nil => simp [rawE]
  | cons a L ih =>
    have ih := ih (fun ss hs => h ss (List.mem_cons_of_mem _ hs))
    have ha := h a List.mem_cons_self
    have hp := ptsL_len a
    unfold rawE at ih ⊢
    rw [List.length_cons] at ih ⊢
    rw [List.flatMap_cons, List.length_append, List.length_cons]
    unfold ptsL at hp
    omega
/-- Spans that a row of the call's own does not share a block with. -/
structure SpOff (W : World) (a : Option Addr) (m c : Nat) (l : List Sp) (v : Value) : Prop where
  sp : Spns W (.slice a m c) l
  off : l ≠ [] → ∀ b o, a = some ⟨b, o, none⟩ → v.ownBlock ≠ some b
theorem SpOff.at {W : World} {a : Option Addr} {m c : Nat} {l : List Sp} {v : Value} (h : SpOff W a m c l v) (hl : 0 < l.length) : ∃ b o, a = some ⟨b, o, none⟩ ∧ b < W.heap.size ∧ m ≤ c ∧ c ≤ maxLen ∧ v.ownBlock ≠ some b ∧ ∀ i (h : i < l.length), SpC W b (o + i * 2) l[i] := by
  obtain ⟨b, o, ha, hb, h1, h2, h3⟩ := h.sp.shape hl
  exact ⟨b, o, ha, hb, h1, h2, h.off (List.length_pos_iff.1 hl) b o ha, h3⟩
theorem SpOff.step {W W1 : World} {a : Option Addr} {m c : Nat} {l : List Sp} {v v' : Value} {ob : Option Nat} {o1 o2 : Obj} (h : SpOff W a m c l v) (hv : v.ownBlock = ob) (hg : ((W.alloc o1).alloc o2).grownBy W1 ob) (hw : v'.ownBlock = ob ∨ v'.ownBlock = some (W.heap.size + 1 + 1)) : SpOff W1 a m c l v' := by
  rcases Nat.eq_zero_or_pos l.length with h0 | h0
  · have e : l = [] := List.length_eq_zero_iff.1 h0
    subst e
    refine ⟨?_, fun h => absurd rfl h⟩
    rcases h.sp with ⟨_, h2⟩ | ⟨b, off, len, cap, e, _, _, h4, _⟩
    · exact .inl ⟨rfl, h2⟩
    · obtain ⟨e1, e2, e3⟩ := by simpa using e
      exact .inl ⟨rfl, a, c, by rw [e2, ← h4]; rfl⟩
  · obtain ⟨b, o, ha, hb, h1, h2, h3, h4⟩ := h.at h0
    have blk : W1.heap[b]? = W.heap[b]? := by
      have b1 : Below W.heap.size W ((W.alloc o1).alloc o2) := ((Below.refl _ _).alloc (Nat.le_refl _) _).alloc (by simp) _
      rw [hg.block b (by have := b1.size; omega) (fun e => h3 (by rw [hv, ← e]))]
      exact b1.block b hb
    have hsz : W.heap.size ≤ W1.heap.size := by
      have := hg.size
      simp at this
      omega
    refine ⟨?_, fun _ b' o' ha' => ?_⟩
    · rcases h.sp with ⟨e, _⟩ | ⟨b', off', len, cap, e, k1, k2, k3, k4, k5⟩
      · rw [e] at h0; simp at h0
      · have e' := e
        simp only [Value.slice.injEq] at e'
        obtain ⟨e1, e2, e3⟩ := e'
        rw [ha] at e1
        have e4 := Option.some.inj e1
        simp only [Addr.mk.injEq] at e4
        obtain ⟨rfl, rfl, _⟩ := e4
        exact .inr ⟨b, o, len, cap, e, k1, k2, k3, by omega, fun i hi => (k5 i hi).keep blk⟩
    · rw [ha] at ha'
      have e4 := Option.some.inj ha'
      simp only [Addr.mk.injEq] at e4
      obtain ⟨rfl, rfl, _⟩ := e4
      rcases hw with hw | hw
      · rw [hw, ← hv]; exact h3
      · rw [hw]; intro e; have := Option.some.inj e; omega
/-- What 'starts' returns. -/
def StartsIs (lo : Int) (L : List (List Sp)) (E : List Int) : Prop := E.Pairwise (· < ·) ∧ (∀ x, x ∈ E ↔ x ∈ rawE lo L) ∧ 0 < E.length ∧ E.length ≤ 1000
theorem starts_is (lo : Int) {L : List (List Sp)} (hl : (rawE lo L).length ≤ 1000) : StartsIs lo L (Lib.compact ((rawE lo L).mergeSort fun x y => decide (x ≤ y))) := by
  obtain ⟨s1, s2, s3⟩ := sorted_is (rawE lo L)
  obtain ⟨c1, c2⟩ := compact_is _ s1
  have h1 := Lib.compact_length_le ((rawE lo L).mergeSort fun x y => decide (x ≤ y))
  have hm : lo ∈ Lib.compact ((rawE lo L).mergeSort fun x y => decide (x ≤ y)) := by rw [c2, s2]; exact List.mem_cons_self
  exact ⟨c1, fun x => by rw [c2, s2], List.length_pos_of_mem hm, by omega⟩
set_option maxHeartbeats 16000000 in
theorem starts_any (sd : Nat) (lo : Int) (v : Value) (rs : List Rx) (w : World) (hv : Rls w v rs) (hr : ∀ r ∈ rs.map Prod.fst, ruE r = 0) (hn : rs.length ≤ 20) (fn : Nat) (hfn : Asks fn sd) (eg : ∀ args w, (callFunc fn args).run Try.prog w = .ok (.enter fn args) w) :
    Calls Try.prog 51 #[.int .i64 lo, v, .func (.func fn) #[] #[]] w fun e w' => ∃ v' E, e = .returned v' ∧ OwnI w' w.heap.size v' E ∧ StartsIs lo (askL (rs.map Prod.fst) sd) E ∧ Below w.heap.size w w' := by
  obtain ⟨ao, co, hve⟩ := hv.len
  obtain ⟨N, hN⟩ : ∃ N, rs.length = N := ⟨_, rfl⟩
  rw [hN] at hve hn
  subst hve
  obtain ⟨RS, hRS⟩ : ∃ RS, rs.map Prod.fst = RS := ⟨_, rfl⟩
  rw [hRS] at hr ⊢
  obtain ⟨Q, hQ⟩ : ∃ Q : Ending → World → Prop, Q = fun e w' => ∃ v' E, e = .returned v' ∧ OwnI w' w.heap.size v' E ∧ StartsIs lo (askL RS sd) E ∧ Below w.heap.size w w' := ⟨_, rfl⟩
  have HQ : Hid (∀ v' E w', OwnI w' w.heap.size v' E → StartsIs lo (askL RS sd) E → Below w.heap.size w w' → Q (.returned v') w') := by rw [hQ]; exact fun v' E w' h1 h2 h3 => ⟨v', E, rfl, h1, h2, h3⟩
  rw [← hQ]
  clear hQ
  have b0 : Below w.heap.size w (w.alloc (.cells #[.int .i64 lo] 3)) := (Below.refl _ _).alloc (Nat.le_refl _) _
  have own0 := OwnI.new w lo
  obtain ⟨S, hS⟩ : ∃ S, w.heap.size = S := ⟨_, rfl⟩
  rw [hS] at b0 own0 HQ
  have z0 : S ≤ (w.alloc (.cells #[.int .i64 lo] 3)).heap.size := by rw [← hS]; exact ((Below.refl _ _).alloc (Nat.le_refl _) _ : Below w.heap.size w (w.alloc (.cells #[.int .i64 lo] 3))).size
  have HS := hidE hS
  have HB0 := hidE b0
  have HO0 := hidE own0
  have HV := hidE hv
  have HR := hidE hr
  have HNN := hidE hN
  have HRS := hidE hRS
  have HF := hidE hfn
  have hLL : ∀ k, ∀ ss ∈ askL (RS.take k) sd, ss.length ≤ 10 := fun k ss hs => by
    unfold askL at hs
    obtain ⟨r, hr', rfl⟩ := List.mem_map.1 hs
    exact (ask_in (hr r (List.mem_of_mem_take hr')) sd).1
  have HRL := hidE (fun k (hk : k ≤ N) => show (rawE lo (askL (RS.take k) sd)).length ≤ 401 by
    have := rawE_len lo (hLL k)
    have h2 : (askL (RS.take k) sd).length ≤ 20 := by unfold askL; rw [List.length_map, List.length_take]; omega
    omega)
  clear hv hr hN hRS b0 own0 hS hfn hLL
  go_enter Try.func51, Try.ntmps51
  go_upto_region 2 with fail
  rw [HS.out]
  obtain ⟨W0, hW0⟩ : ∃ W0, w.alloc (.cells #[.int .i64 lo] 3) = W0 := ⟨_, rfl⟩
  rw [hW0] at HB0 HO0 z0 ⊢
  clear hW0
  go_upto_region 3 with fail
  go_loopw [7, 9, 11, 16] (fun f _ _ i wr => ∃ k : Nat, k ≤ N ∧ i = .int .i64 (k : Int) ∧ Hid (OwnI wr S f (rawE lo (askL (RS.take k) sd))) ∧ Hid (Below S w wr) ∧ Hid (S ≤ wr.heap.size)) (fun _ _ _ i _ => ((N : Int) - intOf i).toNat)
  case atStart => exact ⟨0, by omega, rfl, HO0.out, HB0.out, z0⟩
  case round =>
    clear HB0 HO0
    obtain ⟨k, hk, rfl, HO, HB, HZ⟩ := hrel
    by_cases hkn : k < N
    · have j1 : (k : Int) < (N : Int) := by omega
      have j2 : (0 : Int) ≤ (k : Int) := by omega
      have hkl : k < rs.length := by have := HNN.out; omega
      have hkR : k < RS.length := by rw [← HRS.out, List.length_map]; exact hkl
      obtain ⟨b1, o1, e1, hb1, hl1, hx1, hc1⟩ := HV.out.shape (by omega)
      subst e1
      have hx1' : co ≤ 9223372036854775807 := by unfold maxLen at hx1; omega
      have hC0 := hc1 k hkl
      have hC := hC0.below hb1 (by rw [HS.out]; exact HB.out)
      have HT := hidE (askL_take (side := sd) hkR)
      have hRk : RS[k] = rs[k].1 := by
        have := HRS.out
        subst this
        rw [List.getElem_map]
      have hru := HR.out RS[k] (List.getElem_mem _)
      rw [hRk] at HT hru
      generalize rs[k].1 = r at hC hC0 HT hru
      generalize rs[k].2.1 = fv at hC hC0
      generalize rs[k].2.2 = tv at hC hC0
      obtain ⟨af, cf, hfe⟩ := hC.2.1.len
      obtain ⟨at', ct, hte⟩ := hC.2.2.1.len
      generalize hnf : r.fr.length = nf at hfe
      generalize hnt : r.tl.length = nt at hte
      subst hfe hte
      clear hc1 hx1 hRk
      obtain ⟨⟨c0, c1, c2, c3, c4, c5, c6, c7, c8, c9, c10⟩, _, _, s3, s4⟩ := hC
      obtain ⟨_, s1, s2, _, _⟩ := hC0
      have b2 : Below wr.heap.size wr (wr.alloc (.cells #[.bool r.pass, .bool r.quick, .bool r.keep, .int .i64 r.way, .int .i64 r.kind, .int .i64 r.sa, .int .i64 r.sl, .int .i64 r.da, .int .i64 r.dl, .slice af nf cf, .slice at' nt ct] 34)) := (Below.refl _ _).alloc (Nat.le_refl _) _
      have hR2 := RlAt.new wr r (.slice af nf cf) (.slice at' nt ct)
      have hask := HF.out r (.slice af nf cf) (.slice at' nt ct) w (wr.alloc (.cells #[.bool r.pass, .bool r.quick, .bool r.keep, .int .i64 r.way, .int .i64 r.kind, .int .i64 r.sa, .int .i64 r.sl, .int .i64 r.da, .int .i64 r.dl, .slice af nf cf, .slice at' nt ct] 34)) hru s1 s2 (by rw [HS.out]; exact HB.out.trans (b2.mono HZ.out))
      unfold rlV GivesSp at hask
      rw [HS.out] at hask
      have HB2 := hidE (HB.out.trans (b2.mono HZ.out))
      have HO2 := hidE (HO.out.below b2)
      have HZ2 := hidE (Nat.le_trans HZ.out b2.size)
      have HLT := hidE (fun g (hg : u7.ownBlock = some g) => show S ≤ g ∧ g < (wr.alloc (.cells #[.bool r.pass, .bool r.quick, .bool r.keep, .int .i64 r.way, .int .i64 r.kind, .int .i64 r.sa, .int .i64 r.sl, .int .i64 r.da, .int .i64 r.dl, .slice af nf cf, .slice at' nt ct] 34)).heap.size by have := HO.out.lt g hg; have := b2.size; omega)
      obtain ⟨W2, hW2⟩ : ∃ W2, wr.alloc (.cells #[.bool r.pass, .bool r.quick, .bool r.keep, .int .i64 r.way, .int .i64 r.kind, .int .i64 r.sa, .int .i64 r.sl, .int .i64 r.da, .int .i64 r.dl, .slice af nf cf, .slice at' nt ct] 34) = W2 := ⟨_, rfl⟩
      have HW2 := hidE hW2
      rw [hW2] at hR2 hask HB2 HO2 HZ2 HLT
      obtain ⟨d0, d1, d2, d3, d4, d5, d6, d7, d8, d9, d10⟩ := hR2.cells
      have HAL := hidE (ask_in hru sd)
      clear s1 s2 s3 s4 b2 hR2 hW2 HB HZ HO HV hnf hnt hru hkR hkl
      go_upto_region 5 with fail
      rw [HW2.out]
      clear c0 c1 c2 c3 c4 c5 c6 c7 c8 c9 c10 HW2
      go_upto_region 6 with (refine hask.mono ?_; rintro e W3 ⟨a3, k3, rfl, s3, b3, hbk⟩)
      have HB3 := hidE (HB2.out.trans (b3.mono HZ2.out))
      have HZ3 := hidE (Nat.le_trans HZ2.out b3.size)
      have HO3 := hidE (HO2.out.below b3)
      obtain ⟨l, hl⟩ : ∃ l, askS r sd = l := ⟨_, rfl⟩
      rw [hl] at s3 hbk HT HAL ⊢
      have HP := hidE (show SpOff W3 a3 l.length k3 l u7 from ⟨s3, fun hne b o ha e => by have h1 := hbk hne b o ha; have h2 := HLT.out b e; omega⟩)
      have HRW := hidE (rawE_snoc lo (askL (RS.take k) sd) l)
      rw [← HT.out] at HRW
      have hm10 : l.length ≤ 10 := HAL.out.1
      have HSP := hidE HAL.out.2
      obtain ⟨m, hm⟩ : ∃ m, l.length = m := ⟨_, rfl⟩
      rw [hm] at HP hm10 ⊢
      have HM := hidE hm
      have hR4 := HRL.out k hk
      generalize rawE lo (askL (RS.take k) sd) = Z at HO3 HRW hR4
      clear hask b3 s3 HB2 HO2 HZ2 d0 d1 d2 d3 d4 d5 d6 d7 d8 d9 d10 HT HAL HF hbk HLT hl hm
      go_loopw [7, 11, 24] (fun f _ i wr => ∃ j : Nat, j ≤ m ∧ i = .int .i64 (j : Int) ∧ Hid (OwnI wr S f (Z ++ ptsL (l.take j))) ∧ Hid (Below S w wr) ∧ Hid (S ≤ wr.heap.size) ∧ Hid (SpOff wr a3 m k3 l f)) (fun _ _ i _ => ((m : Int) - intOf i).toNat)
      case atStart => exact ⟨0, by omega, rfl, by rw [Hid, List.take_zero]; show OwnI W3 S u7 (Z ++ []); rw [List.append_nil]; exact HO3.out, HB3.out, HZ3.out, HP.out⟩
      case round =>
        clear HO3 HB3 HZ3 HP
        obtain ⟨j, hj, rfl, HO, HB, HZ, HP⟩ := hrel
        by_cases hjm : j < m
        · have j3 : (j : Int) < (m : Int) := by omega
          have j4 : (0 : Int) ≤ (j : Int) := by omega
          have hjl : j < l.length := by rw [HM.out]; exact hjm
          obtain ⟨b4, o4, e4, hb4, hc4, hx4, hne4, hcs⟩ := HP.out.at (by omega)
          subst e4
          have hx4' : k3 ≤ 9223372036854775807 := by unfold maxLen at hx4; omega
          obtain ⟨c0, c1⟩ := hcs j hjl
          have HT := hidE (ptsL_take hjl)
          have hsp := HSP.out l[j] (List.getElem_mem _)
          have hhi : sideHi sd ≤ 4294967295 ∧ 0 ≤ sideLo sd := by
            match sd with
            | 0 => decide
            | 1 => decide
            | 2 => decide
            | 3 => decide
            | 4 => decide
            | _ + 5 => exact ⟨by show (65535 : Int) ≤ _; omega, by show (0 : Int) ≤ 0; omega⟩
          generalize l[j] = s at c0 c1 HT hsp
          obtain ⟨p, q⟩ := s
          simp only at c0 c1 hsp
          have hq0 : 0 ≤ q := by omega
          have hq1 : q ≤ 4294967295 := by omega
          have hlen : (Z ++ ptsL (l.take j)).length ≤ 1000 := by
            rw [List.length_append, ptsL_len, List.length_take]; omega
          have ba : Below wr.heap.size wr (wr.alloc (.cells #[.int .i64 p, .int .i64 q] 52)) := (Below.refl _ _).alloc (Nat.le_refl _) _
          have za : (wr.alloc (.cells #[.int .i64 p, .int .i64 q] 52)).heap.size = wr.heap.size + 1 := by simp
          have na := heap_alloc_new wr (.cells #[.int .i64 p, .int .i64 q] 52)
          have hOa := HO.out.below ba
          obtain ⟨W4, hW4⟩ : ∃ W4, wr.alloc (.cells #[.int .i64 p, .int .i64 q] 52) = W4 := ⟨_, rfl⟩
          have HW4 := hidE hW4
          rw [hW4] at ba za na hOa
          have e0 : W4.cell? ⟨wr.heap.size, 0, none⟩ = some (.int .i64 p) := by rw [cell_of_row _ _ _ _ _ _ na]; rfl
          have e1 : W4.cell? ⟨wr.heap.size, 1, none⟩ = some (.int .i64 q) := by rw [cell_of_row _ _ _ _ _ _ na]; rfl
          have hbs : S ≤ W4.heap.size := by have := HZ.out; omega
          have hln4 : (Z ++ ptsL (l.take j)).length ≤ 4398046511104 := by omega
          have HZA := hidE za
          have HBA := hidE (HB.out.trans (ba.mono HZ.out))
          have HLT := hidE (fun g (hg : u7.ownBlock = some g) => HO.out.lt g hg)
          clear hcs hsp hhi hx4 hc4 hb4 hne4 ba za na hW4 hjl HO HB HZ hlen
          go_upto_region 8 with fail
          rw [HW4.out]
          clear c0 c1
          go_wp2_with (at_builtin; refine wpList_append_int2 rfl (.tmp 28) (.tmp 34) rfl S u7 (Z ++ ptsL (l.take j)) rfl hOa p (q + 1) rfl hln4 hbs ?_; intro v5 W5 own5 gr5 lie5)
          have bb : Below S W4 W5 := ((Below.refl S W4).alloc hbs _).trans (grown_below gr5 (by have := hbs; simp; omega) (fun g hg => (HLT.out g hg).1))
          have hP5 := HP.out.step (v' := v5) rfl (by rw [HW4.out]; exact gr5) (by rw [HZA.out] at lie5; exact lie5)
          go_roundw
          case rel => exact ⟨j + 1, by omega, by go_num, by rw [Hid, HT.out, ← List.append_assoc]; exact own5, HBA.out.trans bb, Nat.le_trans hbs bb.size, hP5⟩
          case measure => simp [intOf]; omega
        · have j3 : ¬ (j : Int) < (m : Int) := by omega
          have e : l.take j = l := List.take_of_length_le (by rw [HM.out]; omega)
          rw [e, ← HRW.out] at HO
          clear e HP HSP HRW
          go_wp2
          go_roundw
          case rel => exact ⟨k + 1, by omega, by go_num, HO.out, HB.out, HZ.out⟩
          case measure => simp [intOf]; omega
    · have j1 : ¬ (k : Int) < (N : Int) := by omega
      have e : RS.take k = RS := List.take_of_length_le (by rw [← HRS.out, List.length_map, HNN.out]; omega)
      have hI := HO.out
      have hel := HRL.out k hk
      rw [e] at hI hel
      have hpos : 0 < (rawE lo (askL RS sd)).length := by unfold rawE; simp
      have hso := isort_any S u7 (rawE lo (askL RS sd)) wr hI hpos (by omega)
      have HE := hidE (And.intro (sorted_is (rawE lo (askL RS sd))).2.2 (starts_is lo (L := askL RS sd) (by omega)))
      generalize (rawE lo (askL RS sd)).mergeSort (fun x y => decide (x ≤ y)) = T at hso HE
      have HI2 := hidE hI
      have HP := hidE (And.intro hpos hel)
      clear hI hel hpos e HO
      go_upto_region 12 with (go_at_call 62; refine hso.mono ?_; rintro e w8 ⟨rfl, own8, grow8⟩)
      have hco := icompact_any S u7 T w8 own8 (by have := HE.out.1; have := HP.out; omega) (by have := HE.out.1; have := HP.out; omega)
      have b8 := hidE (HB.out.trans (grown_below grow8 HZ.out (fun k hk => (HI2.out.lt k hk).1)))
      have z8 := hidE (Nat.le_trans HZ.out grow8.size)
      clear hso
      go_wp2_with (go_at_call 63; refine hco.mono ?_; rintro e w9 ⟨v9, rfl, own9, grow9⟩)
      exact HQ.out v9 _ w9 own9 HE.out.2 (b8.out.trans (grown_below grow9 z8.out (fun k hk => (own8.lt k hk).1)))
end Go.Proofs.Ytdellfmkmbabhaa
