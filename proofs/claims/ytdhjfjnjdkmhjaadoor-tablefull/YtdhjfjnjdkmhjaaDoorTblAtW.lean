/- What at of package table returns: the walk of its text. -/
import Derived.Test.YtdhjfjnjdkmhjaaDoorTblCut
namespace Go.Proofs.YtdhjfjnjdkmhjaaDoor
open Go.RowKit Go.Maps
set_option linter.unusedVariables false

set_option maxRecDepth 100000 in
set_option maxHeartbeats 8000000 in
theorem at_bad (b m : Nat) (t : Tb) (now z : Int) (w : World) (h : TbAt w b m t) (hz : timE t now = z) (h0 : ¬ z = 0) :
    Calls Tryd.prog 36 #[.pointer (some ⟨b, 0, none⟩), .int .i64 now] w fun e w' => e = .returned (.tuple #[.agg #[.int .i64 0, .int .i64 0, .map none], .slice none 0 0, .iface 59 (.int .i64 z)]) ∧ Below w.heap.size w w' := by
  have h1 := h.alloc (.cells #[.int .i64 0, .int .i64 0, .map none] 75)
  have x1 := heap_alloc_new w (.cells #[.int .i64 0, .int .i64 0, .map none] 75)
  have b1 : Below w.heap.size w (w.alloc (.cells #[.int .i64 0, .int .i64 0, .map none] 75)) := (Below.refl _ _).alloc (Nat.le_refl _) _
  obtain ⟨W1, hW1⟩ : ∃ W1, w.alloc (.cells #[.int .i64 0, .int .i64 0, .map none] 75) = W1 := ⟨_, rfl⟩
  rw [hW1] at h1 x1 b1
  have hm := hidE (fun W hc => move_bad w.heap.size 1 t now z W hz h0 hc)
  have hlt := h.lt
  clear hz h0
  go_enter Tryd.func36, Tryd.ntmps36
  go_upto_region 1 with fail
  try rw [hW1]
  clear hW1
  obtain ⟨c0, c1, c2⟩ := tab_cells h1.tab
  obtain ⟨d0, d1, d2⟩ := tab_cells x1
  obtain ⟨y0, y1, y2⟩ := tab_frees x1
  go_upto_region 2 with fail
  obtain ⟨W2, hW2, x2, o2⟩ := tab_set x1 (.int .i64 t.max) (.int .i64 t.now) (.map (some m))
  rw [hW2]
  have b2 := o2.below (Nat.le_refl _) b1
  clear hW2 c0 c1 c2 d0 d1 d2 y0 y1 y2
  have hc := hm.out W2 (tab_cells x2).2.1
  go_upto_region 4 with (go_at_call 48; go_must (refine hc.mono ?_; rintro e W3 ⟨rfl, hW3⟩; rw [hW3]; clear hW3 W3))
  obtain ⟨d0, d1, d2⟩ := tab_cells x2
  obtain ⟨y0, y1, y2⟩ := tab_frees x2
  obtain ⟨W4, hW4, x4, o4⟩ := tab_set x2 (.int .i64 0) (.int .i64 0) (.map none)
  have HB := hidE (o4.below (Nat.le_refl _) b2)
  have HX := hidE x4
  have HW := hidE hW4
  clear hc x1 x2 x4 o2 o4 hW4 h1
  go_wp2_with fail
  rw [HW.out]
  obtain ⟨e0, e1, e2⟩ := tab_cells HX.out
  exact bodyPost_ret (v := .tuple #[.agg #[.int .i64 0, .int .i64 0, .map none], .slice none 0 0, .iface 59 (.int .i64 z)]) (by simp [results, Tryd.results36, go_sem, e0, e1, e2]) rfl ⟨rfl, HB.out⟩
theorem grown_of_below {w w' : World} (h : Below w.heap.size w w') : w.grownBy w' none := ⟨h.os, h.tape, h.output, h.size, fun i hi _ => h.block i hi⟩
theorem ks_len {w W : World} {t : Tb} {now : Int} {X m' R : Nat} {left : Lit → Bool} {v : Value} {ks : List Ky} (h : AtS w t now X m' R left v ks W) (hl : t.fs.length ≤ 1000) : ks.length ≤ 1000 := by
  rw [h.pm.length_eq, List.length_map]
  exact Nat.le_trans (List.length_filter_le _ _) hl
theorem at_mem {es : List (Lit × DataW Value)} {l : List (Lit × Value)} {kl : Lit} {c : Value} (hp : es.Perm (heldL l)) (hat : ∀ zd, (DataW.map es).atKey kl zd = .held c) : (kl, c) ∈ l := by
  have h2 := hat .nil
  unfold DataW.atKey at h2
  simp only at h2
  rcases hf : List.find? (fun p : Lit × DataW Value => p.1.sameKey kl) es with _ | z
  · rw [hf] at h2; cases h2
  · rw [hf] at h2
    simp only at h2
    have hz := List.mem_of_find?_eq_some hf
    have hs := List.find?_some hf
    have hz1 := WideAt.sameKey_eq hs
    have h3 : (kl, DataW.held c) ∈ es := by rw [← hz1, ← h2]; exact hz
    exact heldL_mem.1 (hp.mem_iff.1 h3)
theorem AtS.start {w W5 W6 : World} {t : Tb} {now : Int} {m n : Nat} {es0 : List (Lit × DataW Value)} (hok : ∀ f ∈ t.fs, KyOk f.key) (hp : es0.Perm (heldL (flsL t.fs))) (hown : W5.ownsMap Tryd.prog 23 rawR m n (.map es0)) (K : Keyed Tryd.prog 23)
    (x5 : W5.heap[w.heap.size]? = some (.cells #[.int .i64 t.max, .int .i64 now, .map (some (w.heap.size + 1))] 75 (0, 0))) (m5 : MapIs Tryd.prog 23 W5 (w.heap.size + 1) (flsL t.fs)) (b5 : Below w.heap.size w W5) (s5 : W5.heap.size = w.heap.size + 2) (hg : W5.grownBy W6 none) (hs : W6.heap.size = w.heap.size + 2 + 1) :
    AtS w t now w.heap.size (w.heap.size + 1) (w.heap.size + 2) (has (DataW.map es0)) (.slice none 0 0) [] W6 := by
  have hall : ∀ x ∈ flsL t.fs, has (DataW.map es0) x.1 = true := by
    intro x hx
    have hm := hp.mem_iff.2 (heldL_mem.2 hx)
    obtain ⟨es1, he, _, hk⟩ := hown.entries K
    injection he with he
    subst he
    rw [has_eq, List.any_eq_true]
    exact ⟨_, hm, WideAt.sameKey_self (hk _ hm)⟩
  refine ⟨(hg.block _ (by omega) (by simp)).trans x5, ?_, OwnN.nil _ _, ?_, ?_, Nat.le_refl _, by omega, by omega, by omega, by omega⟩
  · have e : (flsL t.fs).filter (fun x => has (DataW.map es0) x.1 || !goneV now x.2) = flsL t.fs := List.filter_eq_self.2 (fun x hx => by rw [hall x hx]; rfl)
    rw [e]
    exact m5.block (hg.block _ (by omega) (by simp))
  · have e : t.fs.filter (fun f => goneB now f && !has (DataW.map es0) (litK (firstK f.key))) = [] := List.filter_eq_nil_iff.2 (fun f hf => by
      have := hall _ (fls_mem.2 ⟨f, hf, rfl⟩)
      simp only at this
      rw [this]; simp)
    rw [e]; exact .refl _
  · exact ⟨hg.os.trans b5.os, hg.tape.trans b5.tape, hg.output.trans b5.output, Nat.le_trans b5.size hg.size, fun i hi => (hg.block i (by omega) (by simp)).trans (b5.block i hi)⟩
set_option maxRecDepth 100000 in
set_option maxHeartbeats 32000000 in
theorem at_ok (b m : Nat) (t : Tb) (now : Int) (w : World) (h : TbAt w b m t) (hz : timE t now = 0) (hap : t.fs.Pairwise fun f g => firstK f.key ≠ firstK g.key) (hlen : t.fs.length ≤ 1000) :
    Calls Tryd.prog 36 #[.pointer (some ⟨b, 0, none⟩), .int .i64 now] w fun e w' => ∃ (m' : Nat) (v : Value) (ks : List Ky), e = .returned (.tuple #[.agg #[.int .i64 t.max, .int .i64 now, .map (some m')], v, .nilIface]) ∧ MapIs Tryd.prog 23 w' m' (flsL (leftL now t.fs)) ∧ w.heap.size ≤ m' ∧ OwnKy w' w.heap.size v ks ∧ ks.Perm ((t.fs.filter fun f => goneB now f).map Fl.key) ∧ Below w.heap.size w w' := by
  have h1 := h.alloc (.cells #[.int .i64 0, .int .i64 0, .map none] 75)
  have x1 := heap_alloc_new w (.cells #[.int .i64 0, .int .i64 0, .map none] 75)
  have s1 : (w.alloc (.cells #[.int .i64 0, .int .i64 0, .map none] 75)).heap.size = w.heap.size + 1 := by simp
  have b1 : Below w.heap.size w (w.alloc (.cells #[.int .i64 0, .int .i64 0, .map none] 75)) := (Below.refl _ _).alloc (Nat.le_refl _) _
  obtain ⟨W1, hW1⟩ : ∃ W1, w.alloc (.cells #[.int .i64 0, .int .i64 0, .map none] 75) = W1 := ⟨_, rfl⟩
  rw [hW1] at h1 x1 b1 s1
  have hm := hidE (fun W hc hf => move_ok w.heap.size 1 t now W hz hc hf)
  have hlt := h.lt
  have HOK := hidE h.oks
  have HAP := hidE hap
  have HLE := hidE hlen
  clear hz hap hlen
  obtain ⟨Q, hQ⟩ : ∃ Q : Ending → World → Prop, Q = fun e w' => ∃ (m' : Nat) (v : Value) (ks : List Ky), e = .returned (.tuple #[.agg #[.int .i64 t.max, .int .i64 now, .map (some m')], v, .nilIface]) ∧ MapIs Tryd.prog 23 w' m' (flsL (leftL now t.fs)) ∧ w.heap.size ≤ m' ∧ OwnKy w' w.heap.size v ks ∧ ks.Perm ((t.fs.filter fun f => goneB now f).map Fl.key) ∧ Below w.heap.size w w' := ⟨_, rfl⟩
  have HQ := hidE hQ
  rw [← hQ]
  clear hQ
  go_enter Tryd.func36, Tryd.ntmps36
  go_upto_region 1 with fail
  try rw [hW1]
  clear hW1
  obtain ⟨c0, c1, c2⟩ := tab_cells h1.tab
  obtain ⟨d0, d1, d2⟩ := tab_cells x1
  obtain ⟨y0, y1, y2⟩ := tab_frees x1
  go_upto_region 2 with fail
  obtain ⟨W2, hW2, x2, o2⟩ := tab_set x1 (.int .i64 t.max) (.int .i64 t.now) (.map (some m))
  rw [hW2]
  have b2 := o2.below (Nat.le_refl _) b1
  have h2 := h1.blk (o2.block b (by omega)) (o2.block m (by have := h.map.lt; omega))
  have s2 := o2.size.trans s1
  clear hW2 c0 c1 c2 d0 d1 d2 y0 y1 y2 h1 x1 b1 o2 s1
  have hc := hm.out W2 (tab_cells x2).2.1 (tab_frees x2).2.1
  go_upto_region 5 with (go_at_call 48; go_must (refine hc.mono ?_; rintro e W3 ⟨rfl, hW3⟩; rw [hW3]; clear hW3 W3))
  obtain ⟨W3, hW3, x3, o3⟩ := tab_set1 x2 (.int .i64 now)
  rw [hW3]
  have b3 := o3.below (Nat.le_refl _) b2
  have h3 := h2.blk (o3.block b (by omega)) (o3.block m (by have := h.map.lt; omega))
  have s3 := o3.size.trans s2
  clear hW3 hc x2 h2 b2 o3 s2 hm
  obtain ⟨es, clock, hes, m4⟩ := h3.map.cloned
  have hcl := clone_any m es clock W3 hes
  have b4 : Below W3.heap.size W3 (W3.alloc (.map es clock)) := (Below.refl _ _).alloc (Nat.le_refl _) _
  have h4 := h3.below b4
  have x4 := (b4.block _ (blk_lt x3)).trans x3
  have c2 := (tab_cells h3.tab).2.2
  have d2 := (tab_cells x4).2.2
  have y2 := (tab_frees x4).2.2
  have s4 : (W3.alloc (.map es clock)).heap.size = w.heap.size + 2 := by simp [s3]
  have B4 := b3.trans (b4.mono b3.size)
  obtain ⟨W4, hW4⟩ : ∃ W4, W3.alloc (.map es clock) = W4 := ⟨_, rfl⟩
  rw [hW4] at hcl m4 b4 h4 x4 d2 y2 s4 B4
  rw [s3] at hcl m4
  go_upto_region 6 with (go_at_call 49; go_must (refine hcl.mono ?_; rintro e W5 ⟨rfl, hW5⟩; rw [hW5]; clear hW5 W5))
  obtain ⟨W5, hW5, x5, o5⟩ := tab_set2 x4 (.map (some (w.heap.size + 1)))
  rw [hW5]
  have b5 := o5.below (Nat.le_refl _) B4
  have h5 := h4.blk (o5.block b (by omega)) (o5.block m (by have := h.map.lt; omega))
  have m5 := m4.block (o5.block _ (by omega))
  have s5 := o5.size.trans s4
  clear hcl hW4 hW5 hes m4 b4 h4 x4 c2 d2 y2 s4 B4 o5 x3 h3 b3 s3
  obtain ⟨c0, c1, c2⟩ := tab_cells h5.tab
  obtain ⟨es0, hown, hperm⟩ := h5.map
  have HP := hidE hperm
  obtain ⟨es1, he, hap2, hkeys⟩ := hown.entries lawK
  injection he with he
  subst he
  go_upto_region 7 with (first
    | (at_range; refine wpList_range_own _ rfl _ 71 rfl 23 30 lawK Tryd.underlying71 rawR m _ _ rfl hown ?_; intro W6 hrg6 hg6 hs6)
    | go_in)
  rw [s5] at hrg6 hs6
  have A6 := AtS.start (now := now) h5.oks hperm hown lawK x5 m5 b5 s5 hg6 hs6
  have hcut6 := s5
  clear hown hap2 hkeys hperm m5 x5 c0 c1 c2
  go_frame
  rw [hcut6]
  clear hcut6 s5 hg6 hs6
  obtain ⟨fs0, hfs0⟩ : ∃ X9, (flsL t.fs).length = X9 := ⟨_, rfl⟩
  rw [hfs0] at hrg6
  clear hfs0
  obtain ⟨m', hm'⟩ : ∃ m', w.heap.size + 1 = m' := ⟨_, rfl⟩
  obtain ⟨R, hR⟩ : ∃ R, w.heap.size + 2 = R := ⟨_, rfl⟩
  rw [hR, hm'] at A6
  rw [hR] at hrg6
  have A6' := A6
  rw [hR]
  simp only [hm']
  have HR := hidE hR
  have HM := hidE hm'
  clear hR hm' A6
  go_loopw [5] (fun v wr => ∃ (left : Lit → Bool) (cnt : Nat) (ks : List Ky), wr.ranges Tryd.prog 23 rawR m R fs0 (.map es0) left cnt ∧ Hid (AtS w t now w.heap.size m' R left v ks wr)) (fun _ wr => wr.rangeLeft m R)
  case atStart => exact ⟨_, _, _, hrg6, A6'⟩
  case round =>
    clear A6' hrg6
    obtain ⟨left, cnt, ks, hrg, HA⟩ := hrel
    go_wp2_with (first
      | (at_next; refine wpList_next_ranges _ rfl _ rfl 23 lawK rawR id id (fun key _ _ => ⟨key, rfl⟩) (fun v _ _ => ⟨v, rfl⟩) m R fs0 _ _ _ rfl hrg ?_ ?_)
      | go_in)
    · intro _ hl0
      have hA := HA.out
      obtain ⟨d0, d1, d2⟩ := tab_cells hA.cur
      obtain ⟨y0, y1, y2⟩ := tab_frees hA.cur
      obtain ⟨W4, hW4, x4, o4⟩ := tab_set hA.cur (.int .i64 t.max) (.int .i64 now) (.map (some m'))
      have HW := hidE hW4
      have HX4 := hidE x4
      have HFIN : Hid (Q (.returned (.tuple #[.agg #[.int .i64 t.max, .int .i64 now, .map (some m')], u5, .nilIface])) W4) := by
        have hm4 := hA.map.block (o4.block _ hA.ne.symm)
        have hp4 := hA.pm
        simp only [hl0, Bool.false_or, Bool.not_false, Bool.and_true] at hm4 hp4
        rw [fls_left] at hm4
        show Q _ _
        rw [HQ.out]
        refine ⟨m', u5, ks, rfl, hm4, hA.lm, OwnN.rebase (OwnN.blk hA.own (fun k hk => o4.block k ?_)) (by have := hA.xr; omega), hp4, o4.below (Nat.le_refl _) hA.bel⟩
        have := OwnN.block hA.own k hk
        have := hA.xr
        omega
      clear hW4 x4 o4 hA HA hrg hl0
      go_wp2_with fail
      rw [HW.out]
      obtain ⟨e0, e1, e2⟩ := tab_cells HX4.out
      exact bodyPost_ret (v := .tuple #[.agg #[.int .i64 t.max, .int .i64 now, .map (some m')], u5, .nilIface]) (by simp [results, Tryd.results36, go_sem, e0, e1, e2]) rfl HFIN.out
    · intro x c kl yd yp w1 cnt1 hkx hlx hv hat hrg1 hlt1 hg1 hs1 hen
      obtain ⟨rfl, rfl⟩ : yd = DataW.held c ∧ yp = [] := by
        have h1 : rawR c = some (DataW.held c, []) := rfl
        rw [h1] at hv
        simp only [Option.some.injEq, Prod.mk.injEq] at hv
        exact ⟨hv.1.symm, hv.2.symm⟩
      have hml := at_mem HP.out hat
      obtain ⟨f, hf, hkl, hcv⟩ := fls_find hml
      subst hkl hcv
      have hxk := lawK.inj hkx (keyK ((HOK.out f hf).first))
      try simp only [id] at hxk
      subst hxk
      try simp only [id] at hen ⊢
      have A1 := HA.out.grown hg1
      obtain ⟨fk, hfk⟩ : ∃ fk, firstK f.key = fk := ⟨_, rfl⟩
      have HFK := hidE hfk
      rw [hfk] at hen
      unfold keyV flV at hen
      have HLX := hidE hlx
      have HF := hidE hf
      have HRG := hidE hrg1
      have HS1 := hidE hs1
      clear hkx hv hat hml hlx hf hfk hrg1 hs1
      go_upto_region 9 with fail
      have A2 := A1.step (((Below.refl _ _).alloc (Nat.le_refl _) (.cells #[.int .i64 fk.kind, .int .i64 fk.src, .int .i64 fk.frm, .int .i64 fk.dst, .int .i64 fk.too] 23)).alloc (by simp) (.cells #[.int .i64 f.key.kind, .int .i64 f.key.src, .int .i64 f.key.frm, .int .i64 f.key.dst, .int .i64 f.key.too, .int .i64 f.st, .int .i64 f.unt, .int .i64 f.stp, .int .i64 f.h0, .int .i64 f.h1, .int .i64 f.w0, .int .i64 f.w1, .bool f.d0, .bool f.d1, .int .i64 f.num] 30))
      have k2 := (KyAt.new w1 fk).alloc (.cells #[.int .i64 f.key.kind, .int .i64 f.key.src, .int .i64 f.key.frm, .int .i64 f.key.dst, .int .i64 f.key.too, .int .i64 f.st, .int .i64 f.unt, .int .i64 f.stp, .int .i64 f.h0, .int .i64 f.h1, .int .i64 f.w0, .int .i64 f.w1, .bool f.d0, .bool f.d1, .int .i64 f.num] 30)
      have p2 : FlAt ((w1.alloc (.cells #[.int .i64 fk.kind, .int .i64 fk.src, .int .i64 fk.frm, .int .i64 fk.dst, .int .i64 fk.too] 23)).alloc (.cells #[.int .i64 f.key.kind, .int .i64 f.key.src, .int .i64 f.key.frm, .int .i64 f.key.dst, .int .i64 f.key.too, .int .i64 f.st, .int .i64 f.unt, .int .i64 f.stp, .int .i64 f.h0, .int .i64 f.h1, .int .i64 f.w0, .int .i64 f.w1, .bool f.d0, .bool f.d1, .int .i64 f.num] 30)) (w1.heap.size + 1) f := by
        have := FlAt.new (w1.alloc (.cells #[.int .i64 fk.kind, .int .i64 fk.src, .int .i64 fk.frm, .int .i64 fk.dst, .int .i64 fk.too] 23)) f
        simpa using this
      have r2 := (HRG.out.alloc (.cells #[.int .i64 fk.kind, .int .i64 fk.src, .int .i64 fk.frm, .int .i64 fk.dst, .int .i64 fk.too] 23)).alloc (.cells #[.int .i64 f.key.kind, .int .i64 f.key.src, .int .i64 f.key.frm, .int .i64 f.key.dst, .int .i64 f.key.too, .int .i64 f.st, .int .i64 f.unt, .int .i64 f.stp, .int .i64 f.h0, .int .i64 f.h1, .int .i64 f.w0, .int .i64 f.w1, .bool f.d0, .bool f.d1, .int .i64 f.num] 30)
      have n2 : w1.heap.size = wr.heap.size := HS1.out
      have l2 : R < w1.heap.size := A1.rs
      obtain ⟨W2, hW2⟩ : ∃ W2, (w1.alloc (.cells #[.int .i64 fk.kind, .int .i64 fk.src, .int .i64 fk.frm, .int .i64 fk.dst, .int .i64 fk.too] 23)).alloc (.cells #[.int .i64 f.key.kind, .int .i64 f.key.src, .int .i64 f.key.frm, .int .i64 f.key.dst, .int .i64 f.key.too, .int .i64 f.st, .int .i64 f.unt, .int .i64 f.stp, .int .i64 f.h0, .int .i64 f.h1, .int .i64 f.w0, .int .i64 f.w1, .bool f.d0, .bool f.d1, .int .i64 f.num] 30) = W2 := ⟨_, rfl⟩
      have hnb : ∀ k, u5.ownBlock = some k → k < w1.heap.size := fun k hk => by
        have := (OwnN.block HA.out.own k hk).2
        omega
      obtain ⟨B8, hB8⟩ : ∃ B8, w1.heap.size = B8 := ⟨_, rfl⟩
      rw [hB8] at hnb
      have HNB := hidE hnb
      clear hnb
      rw [hW2] at A2 k2 p2 r2
      rw [hB8] at k2 p2 l2
      rw [hW2, hB8]
      have HA2 := hidE A2
      have HK2 := hidE k2
      have HP2 := hidE p2
      have HR2 := hidE r2
      clear hW2 hB8 n2 A1 A2 r2 hen
      obtain ⟨e0, e1, e2, e3, e4, e5, e6, e7, e8, e9, e10, e11, e12, e13, e14⟩ := p2.cells
      have hcg := gone_any f now W2
      obtain ⟨gb, hgb⟩ : ∃ gb, goneB now f = gb := ⟨_, rfl⟩
      have HGB := hidE hgb
      rw [hgb] at hcg
      unfold flV at hcg
      clear hgb
      go_upto_if 38 with (go_at_call 50; go_must (refine hcg.mono ?_; rintro e W3 ⟨rfl, b3⟩))
      have A3 := HA2.out.step b3
      have k3 := HK2.out.below HK2.out.lt b3
      have p3 := HP2.out.below HP2.out.lt b3
      have r3 := HR2.out.kept (grown_of_below b3) (by simp) (by simp)
      clear hcg k2 p2 HA2 HK2 HP2 HR2 e0 e1 e2 e3 e4 e5 e6 e7 e8 e9 e10 e11 e12 e13 e14
      cases gb
      · have A4 := A3.stay HOK.out HAP.out HF.out HGB.out
        rw [HFK.out] at A4 r3
        have HR4 := hidE r3
        have HA4 := hidE A4
        clear A3 A4 k3 p3 b3 r3
        go_wp2_with fail
        go_roundw
        case rel => exact ⟨_, _, _, HR4.out, HA4⟩
        case measure => rw [HR4.out.left_eq, hrg.left_eq]; exact hlt1
      · obtain ⟨e0, e1, e2, e3, e4, e5, e6, e7, e8, e9, e10, e11, e12, e13, e14⟩ := p3.cells
        obtain ⟨k0, k1, k2', k3', k4'⟩ := k3.cells
        have hkl := ks_len A3 HLE.out
        have hks : keyOf Tryd.prog 23 (keyV fk) = some (litK (firstK f.key)) := by rw [← HFK.out]; exact keyK ((HOK.out f HF.out).first)
        unfold keyV at hks
        have HKS := hidE hks
        have HA3 := hidE A3
        have HR3 := hidE r3
        have HK3 := hidE k3
        have hbase : R + 1 ≤ W3.heap.size := A3.rs
        have hown3 := A3.own
        clear A3 r3 k3 hks p3
        go_upto_region 11 with (first
          | (at_builtin; refine wpList_append_ky rfl (.tmp 39) (.tmp 42) rfl (R + 1) u5 ks rfl hown3 f.key rfl (by omega) hbase ?_; intro v4 W4 hown4 hg4)
          | go_in)
        obtain ⟨c4, m4, b4, r4, hfin⟩ := HA3.out.goes HOK.out HAP.out HF.out HGB.out HLX.out ((Below.refl _ _).alloc (Nat.le_refl _) _) hg4 hown4
        have hno : ∀ i, i ≤ R → some i ≠ u5.ownBlock := fun i hi e => by
          have := OwnN.block HA3.out.own i e.symm
          omega
        have hmr : m < w.heap.size ∧ w.heap.size ≤ m' ∧ m' < R := ⟨h.map.lt, HA3.out.lm, HA3.out.mr⟩
        have rg4 := (HR3.out.alloc (.cells #[.int .i64 f.key.kind, .int .i64 f.key.src, .int .i64 f.key.frm, .int .i64 f.key.dst, .int .i64 f.key.too] 23)).kept hg4 (hno m (by omega)) (hno R (Nat.le_refl _))
        have kk := HK3.out.alloc (.cells #[.int .i64 f.key.kind, .int .i64 f.key.src, .int .i64 f.key.frm, .int .i64 f.key.dst, .int .i64 f.key.too] 23)
        have k4 : KyAt W4 B8 fk := by
          unfold KyAt
          rw [hg4.block B8 kk.lt (fun e => by have := HNB.out B8 e.symm; omega)]
          exact kk
        obtain ⟨z0, z1, z2⟩ := tab_cells c4
        obtain ⟨q0, q1, q2, q3, q4⟩ := k4.cells
        have HFN := hidE hfin
        have HRG4 := hidE rg4
        have HMR := hidE hmr
        clear hown4 hg4 hfin hno hmr rg4 kk k4 c4 b4 r4 hown3 hbase HA3 HR3 HK3 k0 k1 k2' k3' k4' e0 e1 e2 e3 e4 e5 e6 e7 e8 e9 e10 e11 e12 e13 e14
        go_wp2_with (first
          | (at_delete; refine wpList_mapDrop _ rfl _ _ 71 23 rfl 30 lawK Tryd.underlying71 m' _ rfl m4 _ (litK (firstK f.key)) rfl HKS.out ?_; intro W5 hm5 hg5; go_frame)
          | go_in)
        have HA5 := hidE (HFN.out W5 hg5 hm5)
        have hr5 := HRG4.out.kept hg5 (by have := HMR.out; simp; omega) (by have := HMR.out; simp; omega)
        clear hm5 hg5 m4 z0 z1 z2 q0 q1 q2 q3 q4
        go_roundw
        case rel => exact ⟨_, _, _, hr5, HA5⟩
        case measure => rw [hr5.left_eq, hrg.left_eq]; exact hlt1
end Go.Proofs.YtdhjfjnjdkmhjaaDoor
