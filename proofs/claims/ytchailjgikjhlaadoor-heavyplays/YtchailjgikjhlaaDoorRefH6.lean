/- What Merge of the reference's counts returns, and leaves. -/
import Derived.Test.YtchailjgikjhlaaDoorRefH5
import Derived.Test.YtchailjgikjhlaaDoorHvMath2
import Derived.Deep.AppendLies
namespace Go.Proofs.YtchailjgikjhlaaDoor
open Go.RowKit Go.Maps
set_option linter.unusedVariables false

theorem step_append_ct {w : World} {ops : Array Oper} {o : Oper} {a : Act} {K : Act → World → Prop} {Q : Exit → Act → World → Prop} {E : Prop} (hgd : o.guard = none) (s x : Operand)
    (ho : o.op = .call { callee := .builtin .append, args := #[s, x], argTypes := #[30, 30] })
    (base : Nat) (v : Value) (ks : List Ct) (hs : a.eval s = v) (hown : OwnCt w base v ks) (k : Ct) (hx : a.eval x = .slice (some ⟨w.heap.size, 0, none⟩) 1 1)
    (hlen : ks.length ≤ 1000000) (hbase : base ≤ w.heap.size)
    (h : ∀ g cap w', OwnCt w' base (.slice (some ⟨g, 0, none⟩) (ks.length + 1) cap) (ks ++ [k]) → (w.alloc (.cells #[.int .i64 k.key, .int .i64 k.many, .int .i64 k.less] 37)).grownBy w' v.ownBlock → (v.ownBlock = some g ∨ g = w.heap.size + 1) → K (a.put o.dst (.slice (some ⟨g, 0, none⟩) (ks.length + 1) cap)) w') :
    if Region.wanted o (yielded ops a.tmps) = true then Oper.wp Tryd.prog o a (w.alloc (.cells #[.int .i64 k.key, .int .i64 k.many, .int .i64 k.less] 37)) K Q else E := by
  obtain ⟨i0, hi, hz0, hz1, hz2⟩ := info_parts Tryd.infoCount
  refine step_append_lies _ hgd s x 30 ho base 37 i0 _ 3 24 Tryd.underlying30 hi hz0 hz1 hz2 rfl (by decide) v ks.length (ks.flatMap ctRow) hs (World.ownsRow.alloc hown _) ⟨w.heap.size, 0, none⟩ 1 1 (ctRow k) hx rfl ?_ (ctR_one k) (by decide) (by unfold maxLen; omega) (by omega) (by simp; omega) (w.heap.size + 1) (by simp) ?_
  · intro j u hj
    match j, hj with
    | 0, hj => simp [ctRow] at hj; subst hj; simp [Addr.add]
    | 1, hj => simp [ctRow] at hj; subst hj; simp [Addr.add]
    | 2, hj => simp [ctRow] at hj; subst hj; simp [Addr.add]
    | j + 3, hj => simp [ctRow] at hj
  · intro g cap w' h1 h2 h3 _
    refine h g cap w' ?_ h2 h3
    unfold OwnCt OwnN
    rw [List.length_append, List.flatMap_append]
    simpa using h1
theorem step_append_ct2 {w : World} {o : Oper} {a : Act} {K : Act → World → Prop} {Q : Exit → Act → World → Prop} (s x : Operand)
    (ho : o.op = .call { callee := .builtin .append, args := #[s, x], argTypes := #[30, 30] })
    (base : Nat) (v : Value) (ks : List Ct) (hs : a.eval s = v) (hown : OwnCt w base v ks) (k : Ct) (hx : a.eval x = .slice (some ⟨w.heap.size, 0, none⟩) 1 1)
    (hlen : ks.length ≤ 1000000) (hbase : base ≤ w.heap.size)
    (h : ∀ g cap w', OwnCt w' base (.slice (some ⟨g, 0, none⟩) (ks.length + 1) cap) (ks ++ [k]) → (w.alloc (.cells #[.int .i64 k.key, .int .i64 k.many, .int .i64 k.less] 37)).grownBy w' v.ownBlock → (v.ownBlock = some g ∨ g = w.heap.size + 1) → K (a.put o.dst (.slice (some ⟨g, 0, none⟩) (ks.length + 1) cap)) w') :
    o.wp Tryd.prog a (w.alloc (.cells #[.int .i64 k.key, .int .i64 k.many, .int .i64 k.less] 37)) K Q := by
  obtain ⟨i0, hi, hz0, hz1, hz2⟩ := info_parts Tryd.infoCount
  refine wp_append_lies _ s x 30 ho base 37 i0 _ 3 24 Tryd.underlying30 hi hz0 hz1 hz2 rfl (by decide) v ks.length (ks.flatMap ctRow) hs (World.ownsRow.alloc hown _) ⟨w.heap.size, 0, none⟩ 1 1 (ctRow k) hx rfl ?_ (ctR_one k) (by decide) (by unfold maxLen; omega) (by omega) (by simp; omega) (w.heap.size + 1) (by simp) ?_
  · intro j u hj
    match j, hj with
    | 0, hj => simp [ctRow] at hj; subst hj; simp [Addr.add]
    | 1, hj => simp [ctRow] at hj; subst hj; simp [Addr.add]
    | 2, hj => simp [ctRow] at hj; subst hj; simp [Addr.add]
    | j + 3, hj => simp [ctRow] at hj
  · intro g cap w' h1 h2 h3 _
    refine h g cap w' ?_ h2 h3
    unfold OwnCt OwnN
    rw [List.length_append, List.flatMap_append]
    simpa using h1
theorem mergeL_append : ∀ (a b l : Cs), mergeL l (a ++ b) = mergeL (mergeL l a) b
  | [], b, l => rfl
  | p :: r, b, l => by rw [List.cons_append, mergeL, mergeL, mergeL_append r b]
theorem merge_snoc (l o : Cs) (i : Nat) (hi : i < o.length) : mergeL l (o.take (i + 1)) = putC (mergeL l (o.take i)) o[i].1 (getC (mergeL l (o.take i)) o[i].1 + o[i].2) := by
  rw [List.take_succ_eq_append_getElem hi, mergeL_append]
  rfl
theorem put_perm {l l' : Cs} (h : l.Perm l') (k v : Int) : (putC l k v).Perm (putC l' k v) := (h.filter _).cons _
theorem ApC.take {l : Cs} (h : ApC l) (i : Nat) : ApC (l.take i) := List.Pairwise.sublist (List.take_sublist i l) h
theorem PosC.take {l : Cs} (h : PosC l) (i : Nat) : PosC (l.take i) := fun p hp => h p (List.mem_of_mem_take hp)
set_option maxRecDepth 100000 in
set_option maxHeartbeats 8000000 in
theorem rmerge_shape (base b b' : Nat) (h o : Hv) (v v' : Value) (w : World) (k : RfAt w base b h v) (k' : RfAt w base b' o v') (hn : ¬ o.n = h.n) :
    Calls Tryd.prog 11 #[.pointer (some ⟨b, 0, none⟩), .pointer (some ⟨b', 0, none⟩)] w fun e w' => e = .returned (.int .i64 3) ∧ Below w.heap.size w w' := by
  have c0 := Ext.cell (rf_cells k.blk).1
  have d0 := Ext.cell (rf_cells k'.blk).1
  generalize h.n = n at c0 hn
  generalize o.n = n' at d0 hn
  have hne : (n != n') = true := by simpa using fun e => hn e.symm
  clear k k' hn
  go_enter Tryd.func11, Tryd.ntmps11
  go_upto_region 1 with fail
  refine wp_region_ext (by kernel_rfl) (by kernel_rfl) ?_
  repeat (go_big_quiet_step (fail))
  refine wpQuiet_nil ?_
  rintro _ ⟨u, rfl⟩
  have HF := hidE u.h
  obtain ⟨W2, hW2⟩ : ∃ X9, u.W = X9 := ⟨_, rfl⟩
  rw [hW2] at HF ⊢
  clear hW2 c0 d0
  go_wp2_with fail
  go_ret
  exact ⟨rfl, HF.out⟩
set_option maxRecDepth 100000 in
set_option maxHeartbeats 8000000 in
theorem rmerge_full (base b b' : Nat) (h o : Hv) (v v' : Value) (w : World) (k : RfAt w base b h v) (k' : RfAt w base b' o v') (kh : HvOk h) (ko : HvOk o) (hn : o.n = h.n) (hf : 1099511627776 < h.all + o.all) :
    Calls Tryd.prog 11 #[.pointer (some ⟨b, 0, none⟩), .pointer (some ⟨b', 0, none⟩)] w fun e w' => e = .returned (.int .i64 4) ∧ Below w.heap.size w w' := by
  have c0 := Ext.cell (rf_cells k.blk).1
  have d0 := Ext.cell (rf_cells k'.blk).1
  have c3 := (rf_cells k.blk).2.2.1
  have d3 := (rf_cells k'.blk).2.2.1
  have a0 := kh.all_nonneg
  have a1 := kh.al
  have b0 := ko.all_nonneg
  have b1 := ko.al
  rw [hn] at d0
  generalize h.n = n at c0 d0
  generalize h.all = x at c3 a0 a1 hf
  generalize o.all = y at d3 b0 b1 hf
  have hbl := k.lt
  have hbl' := k'.lt
  clear k k' hn kh ko
  go_enter Tryd.func11, Tryd.ntmps11
  go_upto_region 1 with fail
  refine wp_region_ext (by kernel_rfl) (by kernel_rfl) ?_
  repeat (go_big_quiet_step (fail))
  refine wpQuiet_nil ?_
  rintro _ ⟨u, rfl⟩
  have HF := hidE u.h
  have c3 := Ext.cell ((u.h.cell (p := ⟨b, 2, none⟩) hbl).trans c3)
  have d3 := Ext.cell ((u.h.cell (p := ⟨b', 2, none⟩) hbl').trans d3)
  obtain ⟨W2, hW2⟩ : ∃ X9, u.W = X9 := ⟨_, rfl⟩
  rw [hW2] at HF ⊢
  rw [hW2] at c3 d3
  clear hW2 c0 d0 u
  go_upto_region 3 with fail
  refine wp_region_ext (by kernel_rfl) (by kernel_rfl) ?_
  repeat (go_big_quiet_step (fail))
  refine wpQuiet_nil ?_
  rintro _ ⟨u, rfl⟩
  have HF2 := hidE (HF.out.trans (u.h.mono HF.out.size))
  obtain ⟨W3, hW3⟩ : ∃ X9, u.W = X9 := ⟨_, rfl⟩
  rw [hW3] at HF2 ⊢
  clear hW3 c3 d3 u
  go_wp2_with fail
  go_ret
  exact ⟨rfl, HF2.out⟩
/-- Where the reference's Merge stands. -/
structure RmS (w : World) (base b b' : Nat) (h o : Hv) (v v' : Value) (i : Nat) (l1 : Cs) (v1 : Value) (X : World) : Prop where
  rh : RfAt X base b { n := h.n, less := h.less + o.less, all := h.all + o.all, l := l1 } v1
  ro : RfAt X base b' o v'
  pm : l1.Perm (mergeL h.l (o.l.take i))
  ob : v1.ownBlock = v.ownBlock ∨ ∀ q, v1.ownBlock = some q → w.heap.size ≤ q
  tn : Turn (fun j => j = b ∨ v.ownBlock = some j) w X
theorem RmS.apart {w X : World} {base b b' : Nat} {h o : Hv} {v v' v1 : Value} {i : Nat} {l1 : Cs} (s : RmS w base b b' h o v v' i l1 v1 X) (hsep : ∀ q, v.ownBlock = some q → v'.ownBlock ≠ some q) (hlt : ∀ q, v'.ownBlock = some q → q < w.heap.size) : ∀ q, v1.ownBlock = some q → v'.ownBlock ≠ some q := fun q hq e => by
  rcases s.ob with h1 | h1
  · rw [h1] at hq; exact hsep q hq e
  · have := h1 q hq; have := hlt q e; omega
theorem RmS.set {w X : World} {base b b' g c : Nat} {h o : Hv} {v v' : Value} {i : Nat} {l1 : Cs} (s : RmS w base b b' h o v v' i l1 (.slice (some ⟨g, 0, none⟩) l1.length c) X) (hsep : ∀ q, v.ownBlock = some q → v'.ownBlock ≠ some q) (hlt : ∀ q, v'.ownBlock = some q → q < w.heap.size) (ha : ApC l1) (hi : i < o.l.length) {q : Nat} (hq : q < l1.length) {ik im lm : Int} (hik : o.l[i].1 = ik) (him : o.l[i].2 = im) (hqk : l1[q].1 = ik) (hlm : l1[q].2 = lm) :
    RmS w base b b' h o v v' (i + 1) (l1.set q (ik, lm + im)) (.slice (some ⟨g, 0, none⟩) l1.length c) (X.setCell ⟨g, q * 3 + 1, none⟩ (.int .i64 (lm + im))).drew := by
  subst hik
  subst him
  subst hlm
  have hown : OwnCt X base (.slice (some ⟨g, 0, none⟩) l1.length c) (l1.map (ctOf 0)) := s.rh.own
  have hst := OwnN.store (i := q) hown (by simp) (fun _ => rfl) (by simpa using hq) 1 (.int .i64 (l1[q].2 + o.l[i].2)) (ctOf 0 (o.l[i].1, l1[q].2 + o.l[i].2)) (by omega) (by simp [ctRow, ctOf, hqk])
  have hst' : OwnCt (X.setCell ⟨g, q * 3 + 1, none⟩ (.int .i64 (l1[q].2 + o.l[i].2))).drew base (.slice (some ⟨g, 0, none⟩) l1.length c) ((l1.set q (o.l[i].1, l1[q].2 + o.l[i].2)).map (ctOf 0)) := by rw [List.map_set]; exact hst
  have hbg := (OwnN.block hown g rfl).1
  have hgb : g ≠ b := by have := s.rh.bb; omega
  have hgb' : g ≠ b' := by have := s.ro.bb; omega
  have hgv := s.apart hsep hlt g rfl
  have on : Only g X (X.setCell ⟨g, q * 3 + 1, none⟩ (.int .i64 (l1[q].2 + o.l[i].2))) := (Only.refl g X).setCell _ _
  refine ⟨⟨(on.block b hgb.symm).trans s.rh.blk, hst', s.rh.bb⟩, s.ro.keep (on.block b' hgb'.symm) (fun r hr => on.block r (fun e => hgv (by rw [← e]; exact hr))), ?_, s.ob, ?_⟩
  · rw [merge_snoc h.l o.l i hi]
    have hmem : (o.l[i].1, l1[q].2) ∈ l1 := by rw [← hqk]; exact List.getElem_mem hq
    have e1 : getC (mergeL h.l (o.l.take i)) o.l[i].1 = l1[q].2 := by rw [← getC_perm ha s.pm]; exact getC_mem ha hmem
    rw [e1]
    exact (set_put ha hq hqk).trans (put_perm s.pm _ _)
  · have t2 : Turn (fun j => j = b ∨ v.ownBlock = some j) w X := s.tn
    refine t2.andThen (G := fun j => j = g) ⟨on.os, on.tape, on.output, Nat.le_of_eq on.size.symm, fun j hj hne => on.block j hne⟩ (fun j e => ?_)
    subst e
    rcases s.ob with h1 | h1
    · exact .inl (.inr h1.symm)
    · exact .inr (h1 _ rfl)
theorem RmS.app {w X W6 W7 : World} {base b b' g6 c6 : Nat} {h o : Hv} {v v' v1 : Value} {i : Nat} {l1 : Cs} {ob : Obj} (s : RmS w base b b' h o v v' i l1 v1 X) (hsep : ∀ q, v.ownBlock = some q → v'.ownBlock ≠ some q) (hlt : ∀ q, v'.ownBlock = some q → q < w.heap.size) (hbb : b ≠ b') (hi : i < o.l.length) (ha : ApC l1) {ik im : Int} (hik : o.l[i].1 = ik) (him : o.l[i].2 = im) (hno : ∀ p ∈ l1, p.1 ≠ ik)
    (hown : OwnCt W6 base (.slice (some ⟨g6, 0, none⟩) (l1.length + 1) c6) ((l1 ++ [(ik, im)]).map (ctOf 0))) (hg : (X.drew.alloc ob).grownBy W6 v1.ownBlock) (hl : v1.ownBlock = some g6 ∨ g6 = X.heap.size + 1)
    (x7 : W7.heap[b]? = some (.cells #[.int .i64 h.n, .int .i64 (h.less + o.less), .int .i64 (h.all + o.all), .slice (some ⟨g6, 0, none⟩) (l1.length + 1) c6] 32 (0, 0))) (o7 : Only b W6 W7) :
    RmS w base b b' h o v v' (i + 1) (l1 ++ [(ik, im)]) (.slice (some ⟨g6, 0, none⟩) (l1.length + 1) c6) W7 := by
  subst hik
  subst him
  have hX := s.tn.size
  have bA : Below X.heap.size X (X.drew.alloc ob) := ((Below.refl _ _).drew).alloc (Nat.le_refl _) _
  have hb0 := s.rh.lt
  have hb0' := s.ro.lt
  have hv1 : ∀ q, q < base → some q ≠ v1.ownBlock := fun q hq e => by have := (OwnN.block s.rh.own q e.symm).1; omega
  have hap := s.apart hsep hlt
  have keep : ∀ q, q < X.heap.size → some q ≠ v1.ownBlock → W6.heap[q]? = X.heap[q]? := fun q hq hne => (hg.block q (Nat.lt_of_lt_of_le hq bA.size) hne).trans (bA.block q hq)
  refine ⟨⟨x7, ?_, s.rh.bb⟩, s.ro.keep ?_ (fun r hr => ?_), ?_, ?_, ?_⟩
  · exact OwnN.blk hown (fun r hr => o7.block r (fun e => by have := (OwnN.block hown r hr).1; have := s.rh.bb; omega))
  · exact (o7.block b' hbb.symm).trans (keep b' hb0' (hv1 b' s.ro.bb))
  · have hr2 := OwnN.block s.ro.own r hr
    exact (o7.block r (by have := s.rh.bb; omega)).trans (keep r hr2.2 (fun e => hap r e.symm hr))
  · rw [merge_snoc h.l o.l i hi]
    have e1 : getC (mergeL h.l (o.l.take i)) o.l[i].1 = 0 := by rw [← getC_perm ha s.pm]; exact getC_not hno
    rw [e1, Int.zero_add]
    exact (snoc_put hno).trans (put_perm s.pm _ _)
  · rcases hl with e | e
    · rcases s.ob with h1 | h1
      · exact .inl (by rw [← h1, e]; rfl)
      · refine .inr (fun q hq => ?_)
        have hq' : some g6 = some q := hq
        injection hq' with hq'
        have := h1 g6 e
        omega
    · refine .inr (fun q hq => ?_)
      have hq' : some g6 = some q := hq
      injection hq' with hq'
      omega
  · have t6 : Turn (fun j => v1.ownBlock = some j) X W6 := (Turn.of_below bA _).trans (Turn.of_grown hg (fun q e => e))
    have t7 := s.tn.andThen t6 (fun j e => by
      rcases s.ob with h1 | h1
      · exact .inl (.inr (by rw [← h1]; exact e))
      · exact .inr (h1 j e))
    exact t7.trans (Turn.of_only o7 (Or.inl rfl))
theorem RmS.below {w X X' : World} {base b b' : Nat} {h o : Hv} {v v' v1 : Value} {i : Nat} {l1 : Cs} (s : RmS w base b b' h o v v' i l1 v1 X) (hb : Below X.heap.size X X') : RmS w base b b' h o v v' i l1 v1 X' :=
  ⟨s.rh.below hb, s.ro.below hb, s.pm, s.ob, s.tn.trans (Turn.of_below hb _)⟩
end Go.Proofs.YtchailjgikjhlaaDoor
