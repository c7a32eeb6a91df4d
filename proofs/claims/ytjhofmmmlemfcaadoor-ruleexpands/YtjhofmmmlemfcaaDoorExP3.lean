/- What spread's closure tell and choose return (package rule): 'expL'. -/
import Derived.Test.YtjhofmmmlemfcaaDoorExP1
import Derived.Test.YtjhofmmmlemfcaaDoorGrow
import Derived.Test.YtjhofmmmlemfcaaDoorSplA
namespace Go.Proofs.YtjhofmmmlemfcaaDoor
open Go.RowKit
set_option linter.unusedVariables false
set_option maxRecDepth 10000

theorem OwnS.blk {w w' : World} {base : Nat} {v : Value} {ss : List ByteArray} (h : OwnS w base v ss) (hb : ∀ k, v.ownBlock = some k → w'.heap[k]? = w.heap[k]?) : OwnS w' base v ss := by
  obtain ⟨h1, h2⟩ := h
  refine ⟨h1, ?_⟩
  rcases h2 with h2 | ⟨g, cap, cur, hv, hbg, hh, rest⟩
  · exact .inl h2
  · refine .inr ⟨g, cap, cur, hv, hbg, ?_, rest⟩
    rw [hb g (by rw [hv]; rfl)]; exact hh
theorem OwnS.lt {w : World} {base : Nat} {v : Value} {ss : List ByteArray} (h : OwnS w base v ss) : ∀ k, v.ownBlock = some k → base ≤ k ∧ k < w.heap.size := fun k hk => World.ownsRow.lt h k hk
/-- 'append' of one text onto a row of the call's own; where the row lies then. -/
theorem wpList_append_strA {w : World} {ops : Array Oper} {rest : List Oper} {o : Oper} {a : Act} {Q : Exit → Act → World → Prop} (hgd : o.guard = none) (s x : Operand)
    (ho : o.op = .call { callee := .builtin .append, args := #[s, x], argTypes := #[22, 22] })
    (base : Nat) (v : Value) (ss : List ByteArray) (hs : a.eval s = v) (hown : OwnS w base v ss) (t : ByteArray) (hx : a.eval x = .slice (some ⟨w.heap.size, 0, none⟩) 1 1)
    (hlen : ss.length ≤ 4398046511104) (hbase : base ≤ w.heap.size)
    (h : ∀ v' w', OwnS w' base v' (ss ++ [t]) → (w.alloc (.cells #[.string t] 9)).grownBy w' v.ownBlock → (v'.ownBlock = v.ownBlock ∨ v'.ownBlock = some (w.heap.size + 1)) → wpList Tryd.prog ops Q rest (a.put o.dst v') w') :
    wpList Tryd.prog ops Q (o :: rest) a (w.alloc (.cells #[.string t] 9)) := by
  obtain ⟨i0, hi, hz0, hz1, hz2⟩ := info_parts Tryd.infoStr
  refine wpList_append_at hgd s x 22 ho base 9 i0 (.string ⟨#[]⟩) 1 16 Tryd.underlying22 hi hz0 hz1 hz2 rfl (by decide) v ss.length (ss.map Value.string) hs (OwnS.alloc hown _) ⟨w.heap.size, 0, none⟩ 1 1 [.string t] hx rfl ?_ ?_ (by unfold maxLen; omega) (by omega) (by simp; omega) ?_
  · intro j u hj
    match j, hj with
    | 0, hj => simp at hj; subst hj; simp [Addr.add]
  · intro u hu; simp at hu; subst hu; rfl
  · intro v' w' h1 h2 h3
    refine h v' w' ?_ h2 ?_
    · unfold OwnS
      rw [List.length_append, List.map_append]; exact h1
    · rw [World.size_alloc] at h3; exact h3
/-- Where spread stands: the lines that are told, and their size. -/
structure TeAt (W : World) (T : Nat) (v : Value) (ss : List ByteArray) (z : Int) : Prop where
  c0 : W.heap[T]? = some (.cells #[v] 22 (0, 0))
  c1 : W.heap[T + 1]? = some (.cells #[.int .i64 z] 3 (0, 0))
  own : OwnS W (T + 2) v ss
  sz : T + 2 ≤ W.heap.size
  cnt : (ss.length : Int) ≤ z + 1
/-- What telling turns. -/
structure TeF (T : Nat) (v v' : Value) (W W' : World) : Prop where
  bel : Below T W W'
  blk : ∀ k, k < W.heap.size → k ≠ T → k ≠ T + 1 → v.ownBlock ≠ some k → W'.heap[k]? = W.heap[k]?
  nb : v'.ownBlock = v.ownBlock ∨ ∀ k, v'.ownBlock = some k → W.heap.size ≤ k
theorem TeF.refl (T : Nat) (v : Value) (W : World) : TeF T v v W W := ⟨Below.refl _ _, fun _ _ _ _ _ => rfl, .inl rfl⟩
theorem TeF.trans {T : Nat} {v1 v2 v3 : Value} {A B C : World} (h : TeF T v1 v2 A B) (k : TeF T v2 v3 B C) : TeF T v1 v3 A C := by
  refine ⟨h.bel.trans k.bel, fun j hj h0 h1 h2 => ?_, ?_⟩
  · refine (k.blk j (Nat.lt_of_lt_of_le hj h.bel.size) h0 h1 ?_).trans (h.blk j hj h0 h1 h2)
    rcases h.nb with e | e
    · rw [e]; exact h2
    · intro e2
      have := e j e2
      omega
  · rcases k.nb with e | e
    · rw [e]; exact h.nb
    · exact .inr fun j hj => Nat.le_trans h.bel.size (e j hj)
theorem TeF.of_below {T : Nat} (v : Value) {A B : World} (h : Below A.heap.size A B) (hT : T ≤ A.heap.size) : TeF T v v A B := ⟨h.mono hT, fun k hk _ _ _ => h.block k hk, .inl rfl⟩
theorem TeAt.below {W W' : World} {T : Nat} {v : Value} {ss : List ByteArray} {z : Int} (h : TeAt W T v ss z) (hb : Below W.heap.size W W') : TeAt W' T v ss z :=
  ⟨(hb.block _ (by have := h.sz; omega)).trans h.c0, (hb.block _ (by have := h.sz; omega)).trans h.c1, h.own.below hb, Nat.le_trans h.sz hb.size, h.cnt⟩
theorem TeAt.new (w : World) : TeAt ((w.alloc (.cells #[.slice none 0 0] 22)).alloc (.cells #[.int .i64 (-1)] 3)) w.heap.size (.slice none 0 0) [] (-1) ∧ Below w.heap.size w ((w.alloc (.cells #[.slice none 0 0] 22)).alloc (.cells #[.int .i64 (-1)] 3)) := by
  have z1 : (w.alloc (.cells #[.slice none 0 0] 22)).heap.size = w.heap.size + 1 := by simp
  have b1 : Below w.heap.size w (w.alloc (.cells #[.slice none 0 0] 22)) := (Below.refl _ _).alloc (Nat.le_refl _) _
  have c1 := heap_alloc_new w (.cells #[.slice none 0 0] 22)
  generalize w.alloc (.cells #[.slice none 0 0] 22) = W1 at z1 b1 c1 ⊢
  have b2 : Below W1.heap.size W1 (W1.alloc (.cells #[.int .i64 (-1)] 3)) := (Below.refl _ _).alloc (Nat.le_refl _) _
  have c2 := heap_alloc_new W1 (.cells #[.int .i64 (-1)] 3)
  rw [z1] at c2
  exact ⟨⟨(b2.block _ (by omega)).trans c1, c2, OwnS.nil _ _, by simp; omega, by simp⟩, b1.trans (b2.mono b1.size)⟩
theorem TeAt.more {W w1 : World} {T : Nat} {v v1 : Value} {ss : List ByteArray} {z : Int} {t : ByteArray} (h : TeAt W T v ss z) (own : OwnS w1 (T + 2) v1 (ss ++ [t])) (gr : (W.alloc (.cells #[.string t] 9)).grownBy w1 v.ownBlock) (at' : v1.ownBlock = v.ownBlock ∨ v1.ownBlock = some (W.heap.size + 1)) :
    w1.heap[T]? = some (.cells #[v] 22 (0, 0)) ∧ ∀ w2, w1.setCell ⟨T, 0, none⟩ v1 = w2 → w2.heap[T + 1]? = some (.cells #[.int .i64 z] 3 (0, 0)) ∧ ∀ y, (ss.length : Int) + 1 ≤ y + 1 → TeAt (w2.setCell ⟨T + 1, 0, none⟩ (.int .i64 y)) T v1 (ss ++ [t]) y ∧ TeF T v v1 W (w2.setCell ⟨T + 1, 0, none⟩ (.int .i64 y)) := by
  have ha : Below W.heap.size W (W.alloc (.cells #[.string t] 9)) := (Below.refl _ _).alloc (Nat.le_refl _) _
  have hsz : (W.alloc (.cells #[.string t] 9)).heap.size = W.heap.size + 1 := by simp
  have blo : ∀ j, j < W.heap.size → v.ownBlock ≠ some j → w1.heap[j]? = W.heap[j]? := fun j hj hn => (gr.block j (by omega) (fun e => hn e.symm)).trans (ha.block j hj)
  have hlo : ∀ j, j < T + 2 → v.ownBlock ≠ some j := fun j hj e => by have := (h.own.lt j e).1; omega
  have hz := h.sz
  have d0 := (blo T (by omega) (hlo _ (by omega))).trans h.c0
  have d1 := (blo (T + 1) (by omega) (hlo _ (by omega))).trans h.c1
  have b1 : Below T W w1 := (ha.mono (by omega)).trans (grown_below gr (by omega) (fun k hk => by have := (h.own.lt k hk).1; omega))
  refine ⟨d0, fun w2 hw2 => ?_⟩
  subst hw2
  have o6 := (Only.refl T w1).setCell 0 v1
  have e0 := heap_setCell_same w1 T 0 _ _ v1 d0
  have e1 := (o6.block (T + 1) (by omega)).trans d1
  have own2 : OwnS (w1.setCell ⟨T, 0, none⟩ v1) (T + 2) v1 (ss ++ [t]) := own.blk (fun k hk => o6.block k (by have := (own.lt k hk).1; omega))
  have b2 := o6.below (Nat.le_refl _) b1
  have s2 : W.heap.size + 1 ≤ (w1.setCell ⟨T, 0, none⟩ v1).heap.size := by have := gr.size; rw [o6.size]; omega
  have k2 : ∀ j, j ≠ T → (w1.setCell ⟨T, 0, none⟩ v1).heap[j]? = w1.heap[j]? := fun j hj => o6.block j hj
  generalize w1.setCell ⟨T, 0, none⟩ v1 = w2 at e0 e1 own2 b2 s2 k2 ⊢
  refine ⟨e1, fun y hy => ?_⟩
  have o7 := (Only.refl (T + 1) w2).setCell 0 (.int .i64 y)
  refine ⟨⟨(o7.block _ (by omega)).trans e0, heap_setCell_same w2 (T + 1) 0 _ _ _ e1, own2.blk (fun k hk => o7.block k (by have := (own2.lt k hk).1; omega)), by rw [o7.size]; omega, by simp; omega⟩, o7.below (by omega) b2, fun k hk h0 h1 h2 => ?_, ?_⟩
  · rw [o7.block k h1, k2 k h0]; exact blo k hk h2
  · rcases at' with e | e
    · exact .inl e
    · exact .inr fun k hk => by rw [e] at hk; cases hk; omega
set_option maxHeartbeats 4000000 in
theorem tellA_any (W : World) (T : Nat) (v : Value) (ss : List ByteArray) (z : Int) (t : List UInt8) (h : TeAt W T v ss z) (ht : t.length ≤ 1048576) (hz : -1 ≤ z) (hz2 : z ≤ 1048576) :
    Calls Tryd.prog 39 #[.string (mkB t), .pointer (some ⟨T, 0, none⟩), .pointer (some ⟨T + 1, 0, none⟩)] W fun e W' => ∃ v', e = .returned (.bool (decide (z + ((t.length : Int) + 1) ≤ 2000))) ∧ TeAt W' T v' (ss ++ [mkB t]) (z + ((t.length : Int) + 1)) ∧ TeF T v v' W W' := by
  obtain ⟨Q, hQ⟩ : ∃ Q : Ending → World → Prop, Q = fun e W' => ∃ v', e = .returned (.bool (decide (z + ((t.length : Int) + 1) ≤ 2000))) ∧ TeAt W' T v' (ss ++ [mkB t]) (z + ((t.length : Int) + 1)) ∧ TeF T v v' W W' := ⟨_, rfl⟩
  have HQ : Hid (∀ v' W' b, b = decide (z + ((t.length : Int) + 1) ≤ 2000) → TeAt W' T v' (ss ++ [mkB t]) (z + ((t.length : Int) + 1)) ∧ TeF T v v' W W' → Q (.returned (.bool b)) W') := by rw [hQ]; exact fun v' W' b hb h => ⟨v', by rw [hb], h⟩
  rw [← hQ]
  clear hQ
  obtain ⟨c0, f0⟩ := cell1 h.c0
  have own := h.own
  have hb : T + 2 ≤ W.heap.size := h.sz
  obtain ⟨av, cv, hv⟩ := own.len'
  have hcn := h.cnt
  have hs4 : ss.length ≤ 4398046511104 := by omega
  have HS1 : Hid ((ss.length : Int) + 1 ≤ (z + ((t.length : Int) + 1)) + 1) := by show _ ≤ _; omega
  generalize ss.length = n at hv
  subst hv
  have HT := hidR h
  rw [show ((t.length : Int)) = ((mkB t).size : Int) by rw [mkB_size]] at HQ HS1
  have hts : (mkB t).size ≤ 1048576 := by rw [mkB_size]; exact ht
  generalize mkB t = s at HQ HS1 hts
  clear h ht hcn
  go_enter Tryd.func39, Tryd.ntmps39
  go_upto_region 2 with (at_builtin; go_must (refine wpList_append_strA rfl (.tmp 5) (.tmp 7) rfl (T + 2) (.slice av n cv) ss rfl own s rfl hs4 hb ?_; intro v1 w1 own1 gr1 at1; obtain ⟨d0, R1⟩ := HT.out.more own1 gr1 at1; obtain ⟨c0, f0⟩ := cell1 d0; obtain ⟨a1, k1, hv1⟩ := own1.len'; generalize (ss ++ [s]).length = n1 at hv1; subst hv1; have HR1 := hidR R1; clear own1 gr1 at1 d0 R1))
  obtain ⟨W2, hW2⟩ : ∃ W2, w1.setCell ⟨T, 0, none⟩ (.slice a1 n1 k1) = W2 := ⟨_, rfl⟩
  obtain ⟨e1, R2⟩ := HR1.out W2 hW2
  rw [hW2]
  obtain ⟨c1, f1⟩ := cell1 e1
  have R3 := R2 (z + ((s.size : Int) + 1)) HS1.out
  obtain ⟨W3, hW3⟩ : ∃ W3, W2.setCell ⟨T + 1, 0, none⟩ (.int .i64 (z + ((s.size : Int) + 1))) = W3 := ⟨_, rfl⟩
  rw [hW3] at R3
  obtain ⟨c2, f2⟩ := cell1 R3.1.c1
  have HW3 := hidR hW3
  have HR3 := hidR R3
  clear hW2 hW3 R3 R2 HR1 e1 c0 f0 HT own hb f2
  go_upto_region 3 with fail
  rw [HW3.out]
  go_wp2
  exact HQ.out _ _ _ rfl HR3.out
/-! ### choose -/
/-- What a line with a head before it tells. -/
def ysL (h t : List UInt8) : List (List UInt8) := (expL t).map (fun y => h ++ y)
structure ChoP (T : Nat) (v : Value) (ss : List ByteArray) (z : Int) (ys : List (List UInt8)) (W : World) (e : Ending) (W' : World) : Prop where
  go : ∃ v', TeF T v v' W W' ∧ ((z + (sumL ys : Int) ≤ 2000 ∧ e = .returned (.bool true) ∧ TeAt W' T v' (ss ++ ys.map mkB) (z + (sumL ys : Int))) ∨ (2000 < z + (sumL ys : Int) ∧ e = .returned (.bool false)))
theorem mxl_below {w w' : World} {B : Nat} (h : MxL w) (hB : 1 < B) (hb : Below B w w') : MxL w' := by
  obtain ⟨m, e⟩ := h
  exact ⟨m, (hb.cell (p := ⟨1, 0, none⟩) hB).trans e⟩
theorem ysL_cut {h t : List UInt8} (hm : (splitC 123 t).2.2 = true) : ysL h t = (cutL 124 (splitC 125 (splitC 123 t).2.1).1).flatMap (fun a => ysL (h ++ (splitC 123 t).1 ++ a) (splitC 125 (splitC 123 t).2.1).2.1) := by
  unfold ysL
  rw [expL_cut hm, List.map_flatMap]
  congr 1
  funext a
  rw [List.map_map]
  apply List.map_congr_left
  intro y _
  simp
theorem flat_take {α β : Type} (f : α → List β) (l : List α) (k : Nat) (hk : k < l.length) : (l.take (k + 1)).flatMap f = (l.take k).flatMap f ++ f l[k] := by
  rw [List.take_succ_eq_append_getElem hk, List.flatMap_append]; simp
theorem sum_take (f : List UInt8 → List (List UInt8)) (l : List (List UInt8)) (k : Nat) : sumL ((l.take k).flatMap f) ≤ sumL (l.flatMap f) := by
  conv => rhs; rw [← List.take_append_drop k l, List.flatMap_append, sumL_append]
  omega
theorem cut_len (c : UInt8) (l : List UInt8) : ∀ x ∈ cutL c l, x.length ≤ l.length := by
  have key : ∀ (n : Nat) (l : List UInt8), l.length ≤ n → ∀ x ∈ cutL c l, x.length ≤ l.length := by
    intro n
    induction n with
    | zero =>
      intro l hl x hx
      have : l = [] := List.length_eq_zero_iff.1 (by omega)
      subst this
      rw [cut_none (by simp), List.mem_singleton] at hx
      subst hx; simp
    | succ n ih =>
      intro l hl x hx
      rw [cutL_splitX] at hx
      rcases List.mem_cons.1 hx with rfl | hx
      · exact (splitC_len c l).1
      · rcases hs : (splitC c l).2.2 with _ | _
        · rw [hs, if_neg (by simp)] at hx; cases hx
        · rw [hs, if_pos rfl] at hx
          have := splitC_lt hs
          have := ih _ (by omega) x hx
          omega
  exact key _ l (Nat.le_refl _)
theorem cut_cnt (c : UInt8) (l : List UInt8) : (cutL c l).length ≤ l.length + 1 := cutG_len c l []
end Go.Proofs.YtjhofmmmlemfcaaDoor
