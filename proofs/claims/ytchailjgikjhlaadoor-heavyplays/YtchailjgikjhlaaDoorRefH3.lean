/- What Add of the reference's counts returns, and leaves. -/
import Derived.Test.YtchailjgikjhlaaDoorRefH2
import Derived.Deep.CutBlock
namespace Go.Proofs.YtchailjgikjhlaaDoor
open Go.RowKit Go.Maps
set_option linter.unusedVariables false

/-- Alike but for the order of the counts. -/
structure SameH (h h' : Hv) : Prop where
  n : h.n = h'.n
  less : h.less = h'.less
  all : h.all = h'.all
  l : h.l.Perm h'.l
theorem SameH.refl (h : Hv) : SameH h h := ⟨rfl, rfl, rfl, .refl _⟩
theorem SameH.symm {h h' : Hv} (s : SameH h h') : SameH h' h := ⟨s.n.symm, s.less.symm, s.all.symm, s.l.symm⟩
theorem SameH.trans {h h' h'' : Hv} (s : SameH h h') (t : SameH h' h'') : SameH h h'' := ⟨s.n.trans t.n, s.less.trans t.less, s.all.trans t.all, s.l.trans t.l⟩
theorem HvOk.same {h h' : Hv} (k : HvOk h) (s : SameH h h') : HvOk h' := by
  refine ⟨by rw [← s.n]; exact k.nn, k.ap.perm s.l, k.po.perm s.l, ?_, by rw [← s.less]; exact k.ls, ?_, by rw [← s.all]; exact k.al⟩
  · rw [← s.n, ← s.l.length_eq]; exact k.le
  · rw [← s.n, ← s.less, ← s.all, ← sumC_perm s.l]; exact k.sm
theorem set_eq {l : Cs} (ha : ApC l) {k v : Int} {i : Nat} (hi : i < l.length) (hk : l[i].1 = k) : l.set i (k, v) = l.map (setC k v) := by
  apply List.ext_getElem
  · simp
  · intro q h1 h2
    have hq : q < l.length := by simpa using h2
    rw [List.getElem_set, List.getElem_map]
    split
    · rename_i e; subst e
      simp [setC, hk]
    · rename_i e
      have : l[q].1 ≠ k := fun e2 => by
        have e3 := ap_one ha (k := k) (c := l[i].2) (by rw [← hk]; exact List.getElem_mem hi) (List.getElem_mem hq) e2
        have hp := List.pairwise_iff_getElem.1 ha
        rcases Nat.lt_trichotomy q i with h | h | h
        · exact hp q i hq hi h (e2.trans hk.symm)
        · exact e h.symm
        · exact hp i q hi hq h (hk.trans e2.symm)
      simp [setC, this]
theorem set_put {l : Cs} (ha : ApC l) {k v : Int} {i : Nat} (hi : i < l.length) (hk : l[i].1 = k) : (l.set i (k, v)).Perm (putC l k v) := by
  rw [set_eq ha hi hk]
  exact (set_perm ha (c := l[i].2) (by rw [← hk]; exact List.getElem_mem hi)).symm
theorem snoc_put {l : Cs} {k v : Int} (hn : ∀ p ∈ l, p.1 ≠ k) : (l ++ [(k, v)]).Perm (putC l k v) := by
  unfold putC
  rw [filter_not hn]
  exact List.perm_append_singleton _ _
/-- What a call of the reference's leaves. -/
structure RfP (w : World) (base b : Nat) (v : Value) (g : Hv) (X : World) : Prop where
  ex : ∃ h' v', RfAt X base b h' v' ∧ SameH h' g ∧ (v'.ownBlock = v.ownBlock ∨ ∀ q, v'.ownBlock = some q → w.heap.size ≤ q)
  tn : Turn (fun i => i = b ∨ v.ownBlock = some i) w X
set_option maxRecDepth 100000 in
set_option maxHeartbeats 8000000 in
theorem radd_bad (base b : Nat) (h : Hv) (v : Value) (key many : Int) (w : World) (k : RfAt w base b h v) (ok : HvOk h) (hE : ¬ addE h many = 0) :
    Calls Tryd.prog 7 #[.pointer (some ⟨b, 0, none⟩), .int .i64 key, .int .i64 many] w fun e w' => e = .returned (.int .i64 (addE h many)) ∧ w' = w := by
  obtain ⟨c0, c1, c2, c3⟩ := rf_cells k.blk
  have a0 := ok.all_nonneg
  have a1 := ok.al
  unfold addE at hE ⊢
  generalize h.all = al at c2 a0 a1 hE ⊢
  clear k ok c0 c1 c3
  by_cases h1 : many < 1
  · rw [if_pos (Or.inl h1)]
    clear hE
    go_enter Tryd.func7, Tryd.ntmps7
    go_wp2_with fail
    go_ret
    exact ⟨rfl, rfl⟩
  · by_cases h2 : 1000000 < many
    · rw [if_pos (Or.inr h2)]
      clear hE
      go_enter Tryd.func7, Tryd.ntmps7
      go_wp2_with fail
      go_ret
      exact ⟨rfl, rfl⟩
    · rw [if_neg (by omega)] at hE ⊢
      by_cases h3 : 1099511627776 < al + many
      · rw [if_pos h3]
        clear hE
        go_enter Tryd.func7, Tryd.ntmps7
        go_wp2_with fail
        go_ret
        exact ⟨rfl, rfl⟩
      · exact absurd (if_neg h3) hE
/-- Where the least of the counts is sought. -/
def LsQ (many u : Int) (k : Nat) (l : Cs) : Prop := u ≤ many ∧ (∀ q (h : q < l.length), q < k → u ≤ l[q].2) ∧ (u = many ∨ ∃ p ∈ l, u = p.2)
theorem wpList_append_ctw {w : World} {ops : Array Oper} {rest : List Oper} {o : Oper} {a : Act} {Q : Exit → Act → World → Prop} (hgd : o.guard = none) (s x : Operand)
    (ho : o.op = .call { callee := .builtin .append, args := #[s, x], argTypes := #[30, 30] })
    (base : Nat) (v : Value) (ks : List Ct) (hs : a.eval s = v) (hown : OwnCt w base v ks) (k : Ct) (hx : a.eval x = .slice (some ⟨w.heap.size, 0, none⟩) 1 1)
    (hlen : ks.length ≤ 4398046511 ) (hbase : base ≤ w.heap.size)
    (h : ∀ v' w', OwnCt w' base v' (ks ++ [k]) → (w.alloc (.cells #[.int .i64 k.key, .int .i64 k.many, .int .i64 k.less] 37)).grownBy w' v.ownBlock → (v'.ownBlock = v.ownBlock ∨ v'.ownBlock = some (w.heap.size + 1)) → wpList Tryd.prog ops Q rest (a.put o.dst v') w') :
    wpList Tryd.prog ops Q (o :: rest) a (w.alloc (.cells #[.int .i64 k.key, .int .i64 k.many, .int .i64 k.less] 37)) := by
  obtain ⟨i0, hi, hz0, hz1, hz2⟩ := info_parts Tryd.infoCount
  refine wpList_append_own1 (enc := ctRow) (xs := ks) (base := base) (v := v) hgd s x 30 ho i0 _ 24 Tryd.underlying30 hi hz0 hz1 hz2 rfl (by decide) (fun _ => rfl) hs (OwnN.alloc hown _) k ⟨w.heap.size, 0, none⟩ hx ?_ ?_ (by unfold maxLen; omega) (by omega) (by simp; omega) ?_
  · intro j u hj
    match j, hj with
    | 0, hj => simp [ctRow] at hj; subst hj; simp [Addr.add]
    | 1, hj => simp [ctRow] at hj; subst hj; simp [Addr.add]
    | 2, hj => simp [ctRow] at hj; subst hj; simp [Addr.add]
    | j + 3, hj => simp [ctRow] at hj
  · intro u hu
    simp only [ctRow, List.mem_cons, List.not_mem_nil, or_false] at hu
    rcases hu with rfl | rfl | rfl <;> rfl
  · intro v' w' h1 h2 h3
    exact h v' w' h1 h2 (by simpa using h3)
/-- What append of one more leaves of the block ahead of the row. -/
theorem rf_same {W W' : World} {base b : Nat} {v : Value} {xs : List Ct} {o : Obj} {u : Obj} (hb : W.heap[b]? = some u) (hown : OwnCt W base v xs) (hlt : b < base) (hg : (W.alloc o).grownBy W' v.ownBlock) : W'.heap[b]? = some u := by
  have h1 : b < W.heap.size := blkLt hb
  rw [hg.block b (by simp; omega) (fun e => by have := (OwnN.block hown b e.symm).1; omega)]
  exact (Below.heap_alloc _ _ _ h1).trans hb
theorem rf_cb {W W' : World} {base b : Nat} {v : Value} {xs : List Ct} {o : Obj} {x y z s : Value} (hb : W.heap[b]? = some (.cells #[x, y, z, s] 32 (0, 0))) (hown : OwnCt W base v xs) (hlt : b < base) (hg : (W.alloc o).grownBy W' v.ownBlock) : W'.cell? ⟨b, 3, none⟩ = some s := (rf_cells (rf_same hb hown hlt hg)).2.2.2
theorem rf_fb {W W' : World} {base b : Nat} {v : Value} {xs : List Ct} {o : Obj} {x y z s : Value} (hb : W.heap[b]? = some (.cells #[x, y, z, s] 32 (0, 0))) (hown : OwnCt W base v xs) (hlt : b < base) (hg : (W.alloc o).grownBy W' v.ownBlock) : W'.frozen? ⟨b, 3, none⟩ = false := (rf_frees (rf_same hb hown hlt hg)).2.2.2
set_option maxRecDepth 100000 in
set_option maxHeartbeats 32000000 in
theorem radd_found (base b : Nat) (h : Hv) (v : Value) (key many : Int) (w : World) (k : RfAt w base b h v) (ok : HvOk h) (hb : base ≤ w.heap.size) (hE : addE h many = 0) (hg : 0 < getC h.l key) :
    Calls Tryd.prog 7 #[.pointer (some ⟨b, 0, none⟩), .int .i64 key, .int .i64 many] w fun e w' => e = .returned (.int .i64 0) ∧ RfP w base b v (addG h key many) w' := by
  obtain ⟨h1, h2, h3⟩ := addE_ok hE
  clear hE
  obtain ⟨c0, c1, c2, c3⟩ := rf_cells k.blk
  obtain ⟨y0, y1, y2, y3⟩ := rf_frees k.blk
  have a0 := ok.all_nonneg
  have a1 := ok.al
  obtain ⟨W1, hW1, x1, o1⟩ := rf_set2 k.blk (.int .i64 (h.all + many))
  have hnb : ∀ q, v.ownBlock = some q → q ≠ b := fun q hq => by have := (OwnN.block k.own q hq).1; have := k.bb; omega
  have k1 : RfAt W1 base b { n := h.n, less := h.less, all := h.all + many, l := h.l } v := ⟨x1, OwnN.blk k.own (fun q hq => o1.block q (hnb q hq)), k.bb⟩
  have T1 : Turn (fun i => i = b ∨ v.ownBlock = some i) w W1 := Turn.of_only o1 (Or.inl rfl)
  have hll : h.l.length ≤ 1000 := by have := ok.le; have := ok.nn; omega
  have hat := rat_any base b _ v key W1 k1 hll
  try simp only at hat
  have HK := hidE k1
  have HT := hidE T1
  have HOK := hidE ok
  have hbs : base ≤ W1.heap.size := by rw [o1.size]; exact hb
  have HS1 := hidE o1.size
  have hblt := k.lt
  obtain ⟨a, c, rfl⟩ := k.at
  obtain ⟨al, hal⟩ : ∃ al, h.all = al := ⟨_, rfl⟩
  have HAL := hidE hal
  rw [hal] at c2 a0 a1 hW1 h3
  clear k k1 T1 x1 o1 hal ok y0 y1 y3 c0 c1 c3
  go_enter Tryd.func7, Tryd.ntmps7
  go_upto_region 6 with fail
  try rw [hW1]
  clear hW1 c2 y2
  refine wp_loop_rounds 1 ?_
  rw [rounds_succ]
  go_upto_region 8 with (go_at_call 20; go_must (refine hat.mono ?_; rintro e W2 ⟨⟨j, rfl, hj⟩, hW2⟩; rw [hW2]; clear hW2 W2))
  rcases atC_get HOK.out.ap hj with ⟨_, hz, _⟩ | ⟨i, hi, rfl, hik, hiv⟩
  · omega
  have hi1 : (i : Int) < (h.l.length : Int) := by omega
  have hi0 : (i : Int) ≥ 0 := by omega
  obtain ⟨g, cap, e, q1, q2, q3, q4, hc⟩ := HK.out.row (by simp only; omega)
  simp only [Value.slice.injEq, true_and] at e
  obtain ⟨rfl, rfl⟩ := e
  obtain ⟨_, d1, _⟩ := hc i hi
  simp only at d1
  have hown := HK.out.own
  have f1 : W1.frozen? ⟨g, i * 3 + 1, none⟩ = false := OwnN.free hown (by simp) _
  obtain ⟨_, _, _, r3⟩ := rf_cells HK.out.blk
  have g1 : getC h.l key ≤ 1099511627776 := Int.le_trans (getC_sum HOK.out.po key) HOK.out.sum_le
  rw [hiv] at d1
  have HFIN : Hid (RfP w base b (.slice (some ⟨g, 0, none⟩) h.l.length c) (addG h key many) (W1.setCell ⟨g, i * 3 + 1, none⟩ (.int .i64 (getC h.l key + many))).drew) := by
    have hst := OwnN.store (i := i) hown (by simp) (fun _ => rfl) (by simpa using hi) 1 (.int .i64 (getC h.l key + many)) (ctOf 0 (key, getC h.l key + many)) (by omega) (by simp [ctRow, ctOf, hik])
    have hst' : OwnCt (W1.setCell ⟨g, i * 3 + 1, none⟩ (.int .i64 (getC h.l key + many))) base (.slice (some ⟨g, 0, none⟩) h.l.length c) ((h.l.set i (key, getC h.l key + many)).map (ctOf 0)) := by rw [List.map_set]; exact hst
    have hgb : g ≠ b := by have := HK.out.bb; omega
    refine ⟨⟨{ n := h.n, less := h.less, all := h.all + many, l := h.l.set i (key, getC h.l key + many) }, _, ⟨?_, hst', HK.out.bb⟩, ?_, .inl rfl⟩, ?_⟩
    · exact (heap_setCell_other W1 ⟨g, i * 3 + 1, none⟩ b _ hgb.symm).trans HK.out.blk
    · unfold addG
      rw [if_pos (by unfold roomB; rw [decide_eq_true hg]; rfl)]
      refine ⟨rfl, rfl, rfl, ?_⟩
      unfold restL
      rw [if_pos (by omega)]
      exact set_put HOK.out.ap hi hik
    · have t2 : Turn (fun i => i = b ∨ (Value.slice (some ⟨g, 0, none⟩) h.l.length c).ownBlock = some i) W1 (W1.setCell ⟨g, i * 3 + 1, none⟩ (.int .i64 (getC h.l key + many))) := Turn.of_only ((Only.refl g W1).setCell _ _) (Or.inr rfl)
      exact HT.out.trans ⟨t2.os, t2.tape, t2.output, t2.size, t2.block⟩
  generalize getC h.l key = gg at d1 hg g1 HFIN
  clear hc hown hat hj hik hiv
  go_upto_region 9 with fail
  go_region
  go_wp2_with fail
  go_ret
  exact ⟨rfl, HFIN.out⟩
set_option maxRecDepth 100000 in
set_option maxHeartbeats 32000000 in
theorem radd_room (base b : Nat) (h : Hv) (v : Value) (key many : Int) (w : World) (k : RfAt w base b h v) (ok : HvOk h) (hb : base ≤ w.heap.size) (hE : addE h many = 0) (hg : ¬ 0 < getC h.l key) (hr : (h.l.length : Int) < h.n) :
    Calls Tryd.prog 7 #[.pointer (some ⟨b, 0, none⟩), .int .i64 key, .int .i64 many] w fun e w' => e = .returned (.int .i64 0) ∧ RfP w base b v (addG h key many) w' := by
  obtain ⟨h1, h2, h3⟩ := addE_ok hE
  clear hE
  have HNO := hidE (getC_zero ok.po hg)
  have HRM : Hid (roomB h key = true) := by show roomB h key = true; unfold roomB; rw [decide_eq_true hr, Bool.or_true]
  have HG0 : Hid (getC h.l key = 0) := getC_not HNO.out
  obtain ⟨c0, c1, c2, c3⟩ := rf_cells k.blk
  obtain ⟨y0, y1, y2, y3⟩ := rf_frees k.blk
  have a0 := ok.all_nonneg
  have a1 := ok.al
  obtain ⟨W1, hW1, x1, o1⟩ := rf_set2 k.blk (.int .i64 (h.all + many))
  have hnb : ∀ q, v.ownBlock = some q → q ≠ b := fun q hq => by have := (OwnN.block k.own q hq).1; have := k.bb; omega
  have k1 : RfAt W1 base b { n := h.n, less := h.less, all := h.all + many, l := h.l } v := ⟨x1, OwnN.blk k.own (fun q hq => o1.block q (hnb q hq)), k.bb⟩
  have T1 : Turn (fun i => i = b ∨ v.ownBlock = some i) w W1 := Turn.of_only o1 (Or.inl rfl)
  have hll : h.l.length ≤ 1000 := by have := ok.le; have := ok.nn; omega
  have hat := rat_any base b _ v key W1 k1 hll
  try simp only at hat
  have HK := hidE k1
  have HT := hidE T1
  have HOK := hidE ok
  have hbs : base ≤ W1.heap.size := by rw [o1.size]; exact hb
  have HS1 := hidE o1.size
  have hblt := k.lt
  obtain ⟨a, c, rfl⟩ := k.at
  obtain ⟨al, hal⟩ : ∃ al, h.all = al := ⟨_, rfl⟩
  have HAL := hidE hal
  rw [hal] at c2 a0 a1 hW1 h3
  clear k k1 T1 x1 o1 hal ok y0 y1 y3 c0 c1 c3
  go_enter Tryd.func7, Tryd.ntmps7
  go_upto_region 6 with fail
  try rw [hW1]
  clear hW1 c2 y2
  refine wp_loop_rounds 1 ?_
  rw [rounds_succ]
  go_upto_region 8 with (go_at_call 20; go_must (refine hat.mono ?_; rintro e W2 ⟨⟨j, rfl, hj⟩, hW2⟩; rw [hW2]; clear hW2 W2))
  rcases hj with ⟨rfl, _⟩ | ⟨i, hi, _, hik⟩
  rotate_left
  · exact absurd hik (HNO.out _ (List.getElem_mem hi))
  go_upto_region 11 with fail
  obtain ⟨c0, c1, c2, c3⟩ := rf_cells HK.out.blk
  have c0 := Ext.cell c0
  have c3 := Ext.cell c3
  refine wp_region_ext (by kernel_rfl) (by kernel_rfl) ?_
  repeat (go_big_quiet_step (fail))
  refine wpQuiet_nil ?_
  rintro _ ⟨u, rfl⟩
  have kU := HK.out.below u.h
  have HKU := hidE kU
  have HTU := hidE (HT.out.trans (Turn.of_below u.h _))
  have hbu : base ≤ u.W.heap.size := Nat.le_trans hbs u.h.size
  have hsu : w.heap.size ≤ u.W.heap.size := by have := HS1.out; have := u.h.size; omega
  have hownU : OwnCt u.W base (.slice a h.l.length c) (h.l.map (ctOf 0)) := kU.own
  have hblU := kU.lt
  obtain ⟨W3, hW3⟩ : ∃ X9, u.W = X9 := ⟨_, rfl⟩
  rw [hW3] at HKU HTU hbu hsu hownU hblU
  rw [hW3]
  obtain ⟨_, _, _, r3⟩ := rf_cells HKU.out.blk
  obtain ⟨_, _, _, z3⟩ := rf_frees HKU.out.blk
  have hlen : (h.l.map (ctOf 0)).length ≤ 1000 := by rw [List.length_map]; exact hll
  clear hW3 c0 c1 c2 c3 kU u hat
  go_upto_region 12 with fail
  go_upto_region 13 with (first
    | (at_builtin; refine wpList_append_ctw rfl (.tmp 70) (.tmp 74) rfl base (.slice a h.l.length c) _ rfl hownU { key := key, many := many, less := 0 } rfl (by omega) hbu ?_; intro v6 W6 hown6 hg6 hob6; obtain ⟨a6, c6, e6⟩ := OwnN.len hown6; simp only [List.length_append, List.length_map, List.length_cons, List.length_nil, Nat.zero_add] at e6; subst e6; have hfb6 : W6.frozen? ⟨b, 3, none⟩ = false := rf_fb (HKU.out.blk) hownU HKU.out.bb hg6; have hcb6 : W6.cell? ⟨b, 3, none⟩ = some (.slice a h.l.length c) := rf_cb (HKU.out.blk) hownU HKU.out.bb hg6)
    | go_in)
  have x6 := rf_same HKU.out.blk hownU HKU.out.bb hg6
  obtain ⟨W7, hW7, x7, o7⟩ := rf_set3 x6 (.slice a6 (h.l.length + 1) c6)
  have HFIN : Hid (RfP w base b (.slice a h.l.length c) (addG h key many) W7) := by
    have T6 : Turn (fun i => i = b ∨ (Value.slice a h.l.length c).ownBlock = some i) W3 W6 := (Turn.of_below ((Below.refl _ _).alloc (Nat.le_refl _) _) _).trans (Turn.of_grown hg6 (fun q e => Or.inr e))
    refine ⟨⟨{ n := h.n, less := h.less, all := h.all + many, l := h.l ++ [(key, many)] }, _, ⟨x7, ?_, HKU.out.bb⟩, ?_, ?_⟩, (HTU.out.trans T6).trans (Turn.of_only o7 (Or.inl rfl))⟩
    · rw [List.map_append]
      exact OwnN.blk hown6 (fun q hq => o7.block q (fun e => by have := (OwnN.block hown6 q hq).1; have := HKU.out.bb; omega))
    · unfold addG
      rw [if_pos HRM.out]
      refine ⟨rfl, rfl, rfl, ?_⟩
      unfold restL
      rw [if_pos (by omega), HG0.out, Int.zero_add]
      exact snoc_put HNO.out
    · rcases hob6 with e | e
      · exact .inl e
      · refine .inr (fun q hq => ?_)
        rw [e] at hq
        injection hq with hq
        omega
  clear hown6 hg6 hob6 x6 x7 o7 hownU hfb6 hcb6 r3 z3
  try rw [hW7]
  clear hW7
  go_wp2_with fail
  go_ret
  exact ⟨rfl, HFIN.out⟩
end Go.Proofs.YtchailjgikjhlaaDoor
