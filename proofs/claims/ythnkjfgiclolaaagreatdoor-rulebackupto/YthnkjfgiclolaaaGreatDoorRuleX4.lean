/- What spread and Expand return (package rule) of a text with no sign in it: that text. -/
import Derived.Test.YthnkjfgiclolaaaGreatDoorRuleX3
import Derived.Test.YthnkjfgiclolaaaGreatDoorMgY
namespace Go.Proofs.YthnkjfgiclolaaaGreatDoor
open Go.RowKit
set_option linter.unusedVariables false
set_option maxRecDepth 10000

/-- Lines with no brace in them. -/
def NoBr (x : List UInt8) : Prop := ∀ b ∈ x, b ≠ 123 ∧ b ≠ 125
theorem NoBr.at {x : List UInt8} (h : NoBr x) : ∀ k (hk : k < (mkB x).size), (((mkB x)[k].toNat : Int) != 123) = true ∧ (((mkB x)[k].toNat : Int) != 125) = true := by
  intro k hk
  have hm : (mkB x)[k] ∈ x := by
    have : (mkB x)[k] = (mkB x).data.toList[k]'(by simpa using hk) := by rfl
    rw [this]
    have key : ∀ (l : List UInt8) (he : l = x) (hk : k < l.length), l[k] ∈ x := fun l he hk => by subst he; exact List.getElem_mem hk
    exact key _ (mkB_toList x) _
  obtain ⟨h1, h2⟩ := h _ hm
  have ne : ∀ {b c : UInt8}, b ≠ c → ((b.toNat : Int) != (c.toNat : Int)) = true := fun {b c} hb => by
    rw [bne_iff_ne]
    intro e
    exact hb (UInt8.toNat_inj.1 (by omega))
  exact ⟨ne (c := 123) h1, ne (c := 125) h2⟩
theorem sp1_plain (x : List UInt8) (w : World) (hx : x.length ≤ 1048576) (h : NoBr x) :
    Calls Tryz.prog 72 #[.string (mkB x)] w fun e w' => e = .returned (.bool false) ∧ w' = w := by
  have hp := paired_plain (mkB x) w (by rw [mkB_size]; exact hx) h.at
  clear h
  go_enter Tryz.func72, Tryz.ntmps72
  go_wp2_with (go_at_call 73; go_must (refine hp.mono ?_; rintro e w1 ⟨rfl, hw1⟩; rw [hw1]; clear hw1))
  go_ret
  exact ⟨rfl, rfl⟩
set_option maxHeartbeats 4000000 in
theorem idxF_plain (g : Nat) (ls : List (List UInt8)) (w : World) (hc : ∀ j (hj : j < ls.length), w.cell? ⟨g, j, none⟩ = some (.string (mkB ls[j]))) (hl : ∀ x ∈ ls, x.length ≤ 1048576) (hn : ∀ x ∈ ls, NoBr x) (hN : ls.length ≤ 1048577) :
    Calls Tryz.prog 107 #[.slice (some ⟨g, 0, none⟩) ls.length ls.length, .func (.func 72) #[] #[]] w fun e w' => e = .returned (.int .i64 (-1)) ∧ w' = w := by
  obtain ⟨N, hNe⟩ : ∃ N, ls.length = N := ⟨_, rfl⟩
  rw [hNe] at hN ⊢
  have HC := hidE hc
  have HL := hidE hl
  have HN := hidE hn
  have HE := hidE hNe
  clear hc hl hn hNe
  go_enter Tryz.func107, Tryz.ntmps107
  go_wp2
  go_loopw [5, 8] (fun j i wr => ∃ k : Nat, k ≤ N ∧ i = .int .i64 (k : Int) ∧ wr = w) (fun _ i _ => ((N : Int) - intOf i).toNat)
  case atStart => exact ⟨0, by omega, rfl, rfl⟩
  case round =>
    obtain ⟨k, hk, rfl, hwr⟩ := hrel
    subst hwr
    by_cases hlt : k < N
    · have hlt' : (k : Int) < (N : Int) := by omega
      have hk0 : (0 : Int) ≤ (k : Int) := by omega
      have hkl : k < ls.length := by rw [HE.out]; exact hlt
      have c0 := HC.out k hkl
      have hp := sp1_plain ls[k] wr (HL.out _ (List.getElem_mem hkl)) (HN.out _ (List.getElem_mem hkl))
      generalize ls[k] = x at c0 hp
      clear HC HL HN HE
      go_wp2_with (go_at_call 72; go_must (refine hp.mono ?_; rintro e w1 ⟨rfl, hw1⟩; rw [hw1]; clear hw1))
      go_roundw
      case rel => exact ⟨k + 1, by omega, by go_num, by first | rfl | trivial⟩
      case measure => simp [intOf]; omega
    · have hlt' : ¬ (k : Int) < (N : Int) := by omega
      go_wp2
      go_ret
      exact ⟨rfl, by first | rfl | trivial⟩
theorem conF_plain (g : Nat) (ls : List (List UInt8)) (w : World) (hc : ∀ j (hj : j < ls.length), w.cell? ⟨g, j, none⟩ = some (.string (mkB ls[j]))) (hl : ∀ x ∈ ls, x.length ≤ 1048576) (hn : ∀ x ∈ ls, NoBr x) (hN : ls.length ≤ 1048577) :
    Calls Tryz.prog 71 #[.slice (some ⟨g, 0, none⟩) ls.length ls.length, .func (.func 72) #[] #[]] w fun e w' => e = .returned (.bool false) ∧ w' = w := by
  have hi := idxF_plain g ls w hc hl hn hN
  generalize ls.length = N at hi ⊢
  clear hc hl hn hN
  go_enter Tryz.func71, Tryz.ntmps71
  go_wp2_with (go_at_call 107; go_must (refine hi.mono ?_; rintro e w1 ⟨rfl, hw1⟩; rw [hw1]; clear hw1))
  go_ret
  exact ⟨rfl, rfl⟩

/-- Where spread stands: the lines that are told, and their size. -/
structure TeSt (w W : World) (T : Nat) (v : Value) (ss : List ByteArray) (z : Int) : Prop where
  c0 : W.heap[T]? = some (.cells #[v] 58 (0, 0))
  c1 : W.heap[T + 1]? = some (.cells #[.int .i64 z] 3 (0, 0))
  own : OwnS W (T + 2) v ss
  bel : Below T w W
  sz : T + 2 ≤ W.heap.size
theorem OwnS.len {w : World} {base : Nat} {v : Value} {ss : List ByteArray} (h : OwnS w base v ss) : ∃ a c, v = .slice a ss.length c := by
  obtain ⟨_, h2⟩ := h
  rcases h2 with ⟨rfl, h0⟩ | ⟨g, cap, cur, rfl, _⟩
  · exact ⟨none, 0, by rw [h0]⟩
  · exact ⟨_, _, rfl⟩
theorem OwnS.blk {w w' : World} {base : Nat} {v : Value} {ss : List ByteArray} (h : OwnS w base v ss) (hb : ∀ k, v.ownBlock = some k → w'.heap[k]? = w.heap[k]?) : OwnS w' base v ss := by
  obtain ⟨h1, h2⟩ := h
  refine ⟨h1, ?_⟩
  rcases h2 with h2 | ⟨g, cap, cur, hv, hbg, hh, rest⟩
  · exact .inl h2
  · refine .inr ⟨g, cap, cur, hv, hbg, ?_, rest⟩
    rw [hb g (by rw [hv]; rfl)]; exact hh
theorem OwnS.lt {w : World} {base : Nat} {v : Value} {ss : List ByteArray} (h : OwnS w base v ss) : ∀ k, v.ownBlock = some k → base ≤ k ∧ k < w.heap.size := fun k hk => World.ownsRow.lt h k hk
theorem TeSt.more {w W w1 : World} {T : Nat} {v v1 : Value} {ss : List ByteArray} {z : Int} {t : ByteArray} (h : TeSt w W T v ss z) (own : OwnS w1 (T + 2) v1 (ss ++ [t])) (gr : (W.alloc (.cells #[.string t] 9)).grownBy w1 v.ownBlock) :
    w1.heap[T]? = some (.cells #[v] 58 (0, 0)) ∧ TeSt w (w1.setCell ⟨T, 0, none⟩ v1) T v1 (ss ++ [t]) z := by
  have ha : Below W.heap.size W (W.alloc (.cells #[.string t] 9)) := (Below.refl _ _).alloc (Nat.le_refl _) _
  have hsz : (W.alloc (.cells #[.string t] 9)).heap.size = W.heap.size + 1 := by simp
  have blo : ∀ j, j < T + 2 → w1.heap[j]? = W.heap[j]? := fun j hj => (gr.block j (by have := h.sz; omega) (fun e => by have := (h.own.lt j e.symm).1; omega)).trans (ha.block j (by have := h.sz; omega))
  have d0 := (blo T (by omega)).trans h.c0
  have b1 : Below T W w1 := (ha.mono (by have := h.sz; omega)).trans (grown_below gr (by have := h.sz; omega) (fun k hk => by have := (h.own.lt k hk).1; omega))
  have o6 := (Only.refl T w1).setCell 0 v1
  refine ⟨d0, heap_setCell_same w1 T 0 _ _ v1 d0, (o6.block _ (by omega)).trans ((blo _ (by omega)).trans h.c1), own.blk (fun k hk => o6.block k (by have := (own.lt k hk).1; omega)), o6.below (Nat.le_refl _) (h.bel.trans b1), ?_⟩
  have := gr.size
  rw [o6.size]; have := h.sz; omega
theorem TeSt.count {w W : World} {T : Nat} {v : Value} {ss : List ByteArray} {z : Int} (h : TeSt w W T v ss z) (y : Int) : TeSt w (W.setCell ⟨T + 1, 0, none⟩ (.int .i64 y)) T v ss y := by
  have o6 := (Only.refl (T + 1) W).setCell 0 (.int .i64 y)
  refine ⟨(o6.block _ (by omega)).trans h.c0, heap_setCell_same W (T + 1) 0 _ _ _ h.c1, h.own.blk (fun k hk => o6.block k (by have := (h.own.lt k hk).1; omega)), o6.below (by omega) h.bel, ?_⟩
  rw [o6.size]; exact h.sz
set_option maxHeartbeats 4000000 in
theorem tell_any (w W : World) (T : Nat) (v : Value) (ss : List ByteArray) (z : Int) (t : ByteArray) (h : TeSt w W T v ss z) (hs : ss.length ≤ 1000000) (ht : t.size ≤ 1048576) (hz : -1 ≤ z) (hz2 : z ≤ 1048576) :
    Calls Tryz.prog 74 #[.string t, .pointer (some ⟨T, 0, none⟩), .pointer (some ⟨T + 1, 0, none⟩)] W fun e W' => ∃ v', e = .returned (.bool (decide (z + ((t.size : Int) + 1) ≤ 2000))) ∧ TeSt w W' T v' (ss ++ [t]) (z + ((t.size : Int) + 1)) := by
  obtain ⟨Q, hQ⟩ : ∃ Q : Ending → World → Prop, Q = fun e W' => ∃ v', e = .returned (.bool (decide (z + ((t.size : Int) + 1) ≤ 2000))) ∧ TeSt w W' T v' (ss ++ [t]) (z + ((t.size : Int) + 1)) := ⟨_, rfl⟩
  have HQ : Hid (∀ v' W' b, b = decide (z + ((t.size : Int) + 1) ≤ 2000) → TeSt w W' T v' (ss ++ [t]) (z + ((t.size : Int) + 1)) → Q (.returned (.bool b)) W') := by rw [hQ]; exact fun v' W' b hb h => ⟨v', by rw [hb], h⟩
  rw [← hQ]
  clear hQ
  obtain ⟨c0, f0⟩ := cell1 h.c0
  have own := h.own
  have hb : T + 2 ≤ W.heap.size := h.sz
  obtain ⟨av, cv, hv⟩ := own.len
  have hs4 : ss.length ≤ 4398046511104 := by omega
  generalize ss.length = n at hv
  subst hv
  have HT := hidE h
  clear h
  go_enter Tryz.func74, Tryz.ntmps74
  go_upto_region 2 with (at_builtin; go_must (refine wpList_append_str rfl (.tmp 5) (.tmp 7) rfl (T + 2) (.slice av n cv) ss rfl own t rfl hs4 hb ?_; intro v1 w1 own1 gr1; obtain ⟨d0, R1⟩ := HT.out.more own1 gr1; obtain ⟨c0, f0⟩ := cell1 d0; obtain ⟨a1, k1, hv1⟩ := own1.len; generalize (ss ++ [t]).length = n1 at hv1; subst hv1; have HR1 := hidE R1; clear own1 gr1 d0 R1))
  obtain ⟨W2, hW2⟩ : ∃ W2, w1.setCell ⟨T, 0, none⟩ (.slice a1 n1 k1) = W2 := ⟨_, rfl⟩
  rw [hW2] at HR1 ⊢
  obtain ⟨c1, f1⟩ := cell1 HR1.out.c1
  have R3 := HR1.out.count (z + ((t.size : Int) + 1))
  obtain ⟨W3, hW3⟩ : ∃ W3, W2.setCell ⟨T + 1, 0, none⟩ (.int .i64 (z + ((t.size : Int) + 1))) = W3 := ⟨_, rfl⟩
  rw [hW3] at R3
  obtain ⟨c2, f2⟩ := cell1 R3.c1
  have HW3 := hidE hW3
  have HR3 := hidE R3
  clear hW2 hW3 R3 HR1 c0 f0 HT own hb f2
  go_upto_region 3 with fail
  rw [HW3.out]
  go_wp2
  exact HQ.out _ _ _ rfl HR3.out
set_option maxHeartbeats 4000000 in
theorem choose_plain (w W : World) (T : Nat) (v : Value) (ss : List ByteArray) (z : Int) (t : List UInt8) (h : TeSt w W T v ss z) (hs : ss.length ≤ 1000000) (ht : t.length ≤ 1048576) (hz : -1 ≤ z) (hz2 : z ≤ 1048576) (hno : ∀ x ∈ t, x ≠ 123) :
    Calls Tryz.prog 75 #[.string ⟨#[]⟩, .string (mkB t), .func (.func 74) #[] #[.pointer (some ⟨T, 0, none⟩), .pointer (some ⟨T + 1, 0, none⟩)]] W fun e W' => ∃ v', e = .returned (.bool (decide (z + ((t.length : Int) + 1) ≤ 2000))) ∧ TeSt w W' T v' (ss ++ [mkB t]) (z + ((t.length : Int) + 1)) := by
  obtain ⟨Q, hQ⟩ : ∃ Q : Ending → World → Prop, Q = fun e W' => ∃ v', e = .returned (.bool (decide (z + ((t.length : Int) + 1) ≤ 2000))) ∧ TeSt w W' T v' (ss ++ [mkB t]) (z + ((t.length : Int) + 1)) := ⟨_, rfl⟩
  have HQ : Hid (∀ v' W', TeSt w W' T v' (ss ++ [mkB t]) (z + ((t.length : Int) + 1)) → Q (.returned (.bool (decide (z + ((t.length : Int) + 1) ≤ 2000)))) W') := by rw [hQ]; exact fun v' W' h => ⟨v', rfl, h⟩
  rw [← hQ]
  clear hQ
  have hc := fun w => strCut_any (mkB t) 123 w (by rw [mkB_size]; unfold maxLen; omega)
  rw [mkB_toList, splitC_noneX hno] at hc
  simp only at hc
  have htl := fun W (h : TeSt w W T v ss z) => tell_any w W T v ss z (mkB t) h hs (by rw [mkB_size]; exact ht) hz hz2
  rw [mkB_size] at htl
  have HT := hidE h
  have HE := hidE (show (⟨#[]⟩ : ByteArray) ++ mkB t = mkB t from by apply ByteArray.ext; simp)
  have hts : (mkB t).size ≤ 1048576 := by rw [mkB_size]; exact ht
  clear h hno hs ht hz hz2
  generalize decide (z + ((t.length : Int) + 1) ≤ 2000) = b at HQ htl
  go_enter Tryz.func75, Tryz.ntmps75
  go_upto_region 2 with (go_at_call 59; go_must (refine (hc _).mono ?_; rintro e w2 ⟨rfl, d2⟩))
  have R2 : TeSt w w2 T v ss z := by
    obtain ⟨n, rfl⟩ := d2
    exact ⟨HT.out.c0, HT.out.c1, HT.out.own, below_drewN HT.out.bel n, HT.out.sz⟩
  have ht2 := htl w2 R2
  clear htl hc d2 HT R2
  go_upto_region 3 with fail
  rw [HE.out]
  go_wp2_with (go_at_call 74; go_must (refine ht2.mono ?_; rintro e w3 ⟨v3, rfl, R3⟩))
  exact HQ.out _ _ R3
def sumL : List (List UInt8) → Nat
  | [] => 0
  | x :: r => x.length + 1 + sumL r
theorem sumL_append (a b : List (List UInt8)) : sumL (a ++ b) = sumL a + sumL b := by
  induction a with
  | nil => simp [sumL]
  | cons x r ih => rw [List.cons_append, sumL, sumL, ih]; omega
theorem sumL_take {ls : List (List UInt8)} {k : Nat} (h : k < ls.length) : sumL (ls.take (k + 1)) = sumL (ls.take k) + (ls[k].length + 1) := by
  rw [List.take_succ_eq_append_getElem h, sumL_append]; rfl
theorem sumL_le (ls : List (List UInt8)) (k : Nat) : sumL (ls.take k) ≤ sumL ls := by
  conv => rhs; rw [← List.take_append_drop k ls, sumL_append]
  omega
theorem sumL_join (c : UInt8) : ∀ (ls : List (List UInt8)), ls ≠ [] → (Lib.join ls [c]).length + 1 = sumL ls
  | [], h => absurd rfl h
  | [x], _ => by rw [Lib.join_one]; simp [sumL]
  | x :: y :: r, _ => by
      have ih := sumL_join c (y :: r) (by simp)
      have e : Lib.join (x :: y :: r) [c] = x ++ c :: Lib.join (y :: r) [c] := by
        rw [Lib.join_cons, Lib.join_cons]; simp [Lib.joinTail]
      rw [e, sumL, ← ih]
      simp only [List.length_append, List.length_cons]
      omega
theorem cut_sub (c : UInt8) : ∀ (n : Nat) (l : List UInt8), l.length ≤ n → ∀ x ∈ cutL c l, ∀ b ∈ x, b ∈ l := by
  intro n
  induction n with
  | zero =>
    intro l hl x hx b hb
    have : l = [] := List.length_eq_zero_iff.1 (by omega)
    subst this
    rw [cut_none (by simp)] at hx
    rw [List.mem_singleton] at hx
    subst hx; exact hb
  | succ n ih =>
    intro l hl x hx b hb
    rw [cutL_splitX] at hx
    rcases hs : (splitC c l).2.2 with _ | _
    · rw [hs, if_neg (by simp), List.mem_singleton] at hx
      subst hx
      rw [splitC_allX hs] at hb; exact hb
    · rw [hs, if_pos rfl] at hx
      have hj := splitC_joinX hs
      have hlen := congrArg List.length hj
      rw [List.length_append, List.length_cons] at hlen
      rcases List.mem_cons.1 hx with rfl | hx
      · rw [hj]; exact List.mem_append_left _ hb
      · have := ih (splitC c l).2.1 (by omega) x hx b hb
        rw [hj]; exact List.mem_append_right _ (List.mem_cons_of_mem _ this)
theorem TeSt.new (w : World) : TeSt w ((w.alloc (.cells #[.slice none 0 0] 58)).alloc (.cells #[.int .i64 (-1)] 3)) w.heap.size (.slice none 0 0) [] (-1) := by
  have z1 : (w.alloc (.cells #[.slice none 0 0] 58)).heap.size = w.heap.size + 1 := by simp
  have b1 : Below w.heap.size w (w.alloc (.cells #[.slice none 0 0] 58)) := (Below.refl _ _).alloc (Nat.le_refl _) _
  have c1 := heap_alloc_new w (.cells #[.slice none 0 0] 58)
  generalize w.alloc (.cells #[.slice none 0 0] 58) = W1 at z1 b1 c1 ⊢
  have b2 : Below W1.heap.size W1 (W1.alloc (.cells #[.int .i64 (-1)] 3)) := (Below.refl _ _).alloc (Nat.le_refl _) _
  have c2 := heap_alloc_new W1 (.cells #[.int .i64 (-1)] 3)
  rw [z1] at c2
  exact ⟨(b2.block _ (by omega)).trans c1, c2, OwnS.nil _ _, b1.trans (b2.mono b1.size), by simp; omega⟩
set_option maxHeartbeats 8000000 in
theorem spread_plain (t : List UInt8) (w : World) (htx : TxE w) (hl : t.length ≤ 2000) (hno : ∀ x ∈ t, x ≠ 123 ∧ x ≠ 125) :
    Calls Tryz.prog 30 #[.string (mkB t)] w fun e w' => e = .returned (.tuple #[.string (mkB t), .nilIface]) ∧ Below w.heap.size w w' := by
  obtain ⟨Q, hQ⟩ : ∃ Q : Ending → World → Prop, Q = fun e w' => e = .returned (.tuple #[.string (mkB t), .nilIface]) ∧ Below w.heap.size w w' := ⟨_, rfl⟩
  have HQ : Hid (∀ w', Below w.heap.size w w' → Q (.returned (.tuple #[.string (mkB t), .nilIface])) w') := by rw [hQ]; exact fun w' h => ⟨rfl, h⟩
  rw [← hQ]
  clear hQ
  have hsp := split_any 10 t w htx (by omega)
  obtain ⟨ls, hls⟩ : ∃ ls, cutL 10 t = ls := ⟨_, rfl⟩
  have hne : ls ≠ [] := by rw [← hls, cutL_splitX]; exact List.cons_ne_nil _ _
  have hjn : Lib.join ls [10] = t := by rw [← hls]; exact join_cut 10 _ t (Nat.le_refl _)
  have hsub : ∀ x ∈ ls, ∀ b ∈ x, b ∈ t := by rw [← hls]; exact cut_sub 10 _ t (Nat.le_refl _)
  have hsum : sumL ls = t.length + 1 := by rw [← sumL_join 10 ls hne, hjn]
  have hlen : ∀ j (hj : j < ls.length), ls[j].length ≤ 2000 := fun j hj => by
    have := sumL_take hj
    have := sumL_le ls (j + 1)
    omega
  have hcnt : ls.length ≤ 2001 := by
    have : ∀ (l : List (List UInt8)), l.length ≤ sumL l := fun l => by
      induction l with
      | nil => simp [sumL]
      | cons a l ih => rw [sumL, List.length_cons]; omega
    have := this ls
    omega
  rw [hls] at hsp
  have hlen' : ∀ x ∈ ls, x.length ≤ 1048576 := fun x hx => by
    obtain ⟨j, hj, rfl⟩ := List.getElem_of_mem hx
    have := hlen j hj; omega
  have hnb : ∀ x ∈ ls, NoBr x := fun x hx b hb => hno b (hsub x hx b hb)
  have b1 : Below w.heap.size w (w.alloc (.cells (ls.map fun x => Value.string (mkB x)).toArray 9)) := (Below.refl _ _).alloc (Nat.le_refl _) _
  have z1 : (w.alloc (.cells (ls.map fun x => Value.string (mkB x)).toArray 9)).heap.size = w.heap.size + 1 := by simp
  have hcel : ∀ j (hj : j < ls.length), (w.alloc (.cells (ls.map fun x => Value.string (mkB x)).toArray 9)).cell? ⟨w.heap.size, j, none⟩ = some (.string (mkB ls[j])) := fun j hj => by
    simp [World.cell?_alloc_new, hj]
  obtain ⟨W1, hW1⟩ : ∃ W1, w.alloc (.cells (ls.map fun x => Value.string (mkB x)).toArray 9) = W1 := ⟨_, rfl⟩
  rw [hW1] at b1 z1 hcel hsp
  obtain ⟨S, hS⟩ : ∃ S, w.heap.size = S := ⟨_, rfl⟩
  rw [hS] at b1 z1 hcel hsp
  have hcf := conF_plain S ls W1 hcel hlen' hnb (by omega)
  have T0 := TeSt.new W1
  obtain ⟨N, hN⟩ : ∃ N, ls.length = N := ⟨_, rfl⟩
  rw [hN] at hsp hcf hcnt
  rw [z1] at T0
  have HN := hidE hN
  have HS := hidE hS
  have HB1 := hidE b1
  have HZ1 := hidE z1
  have HT0 := hidE T0
  have HC := hidE hcel
  have HF := hidE (And.intro hne (And.intro hjn (And.intro hsum (And.intro hlen (And.intro hl (fun x hx b hb => (hno b (hsub x hx b hb)).1))))))
  clear hne hjn hsum hlen hlen' hnb hno hsub hls htx hl b1 T0 hcel hW1 hN hS
  go_enter Tryz.func30, Tryz.ntmps30
  go_upto_region 4 with (first | (go_at_call 70; go_must (refine hsp.mono ?_; rintro e w2 ⟨rfl, hw2⟩; rw [hw2]; clear hw2)) | (go_at_call 71; go_must (refine hcf.mono ?_; rintro e w3 ⟨rfl, hw3⟩; rw [hw3]; clear hw3)))
  clear hsp hcf
  go_upto_region 7 with fail
  rw [show S + 1 + 1 = S + 2 from rfl]
  obtain ⟨W3, hW3⟩ : ∃ W3, (W1.alloc (.cells #[.slice none 0 0] 58)).alloc (.cells #[.int .i64 (-1)] 3) = W3 := ⟨_, rfl⟩
  rw [hW3] at HT0 ⊢
  clear hW3
  go_upto_region 8 with fail
  go_loopw [9, 18] (fun _ i wr => ∃ (k : Nat) (v : Value), k ≤ N ∧ i = .int .i64 (k : Int) ∧ Hid (TeSt W1 wr (S + 1) v ((ls.take k).map mkB) ((sumL (ls.take k) : Int) - 1))) (fun _ i _ => ((N : Int) - intOf i).toNat)
  case atStart => exact ⟨0, .slice none 0 0, by omega, rfl, HT0.out⟩
  case round =>
    clear HT0
    obtain ⟨k, v, hk, rfl, HT⟩ := hrel
    by_cases hlt : k < N
    · have hlt' : (k : Int) < (N : Int) := by omega
      have hk0 : (0 : Int) ≤ (k : Int) := by omega
      have hkl : k < ls.length := by rw [HN.out]; exact hlt
      obtain ⟨hne, hjn, hsum, hlen, hl, hno⟩ := HF.out
      have c0 : wr.cell? ⟨S, k, none⟩ = some (.string (mkB ls[k])) := by
        rw [HT.out.bel.cell (p := ⟨S, k, none⟩) (show S < S + 1 by omega)]
        exact HC.out k hkl
      have e1 := sumL_take hkl
      have e2 := sumL_le ls (k + 1)
      have hch := choose_plain W1 wr (S + 1) v _ _ ls[k] HT.out (by rw [List.length_map, List.length_take]; omega) (by have := hlen k hkl; omega) (by omega) (by omega) (hno _ (List.getElem_mem hkl))
      have hb : decide (((sumL (ls.take k) : Int) - 1) + ((ls[k].length : Int) + 1) ≤ 2000) = true := by rw [decide_eq_true_eq]; omega
      rw [hb] at hch
      have HE := hidE (show (ls.take k).map mkB ++ [mkB ls[k]] = (ls.take (k + 1)).map mkB by rw [List.take_succ_eq_append_getElem hkl, List.map_append]; rfl)
      have HE2 := hidE (show ((sumL (ls.take k) : Int) - 1) + ((ls[k].length : Int) + 1) = (sumL (ls.take (k + 1)) : Int) - 1 by rw [e1]; omega)
      rw [HE.out, HE2.out] at hch
      rw [show S + 1 + 1 = S + 2 from rfl] at hch
      generalize ls[k] = x at c0 hch
      clear HE HE2 hb e1 e2 hne hjn hsum hlen hl hno HT
      go_wp2_with (go_at_call 75; go_must (refine hch.mono ?_; rintro e w4 ⟨v4, rfl, R4⟩))
      go_roundw
      case rel => exact ⟨k + 1, v4, by omega, by go_num, R4⟩
      case measure => simp [intOf]; omega
    · have hlt' : ¬ (k : Int) < (N : Int) := by omega
      obtain ⟨hne, hjn, hsum, hlen, hl, hno⟩ := HF.out
      have hR := HT.out
      rw [List.take_of_length_le (by rw [HN.out]; omega)] at hR
      have hpos : 0 < (ls.map mkB).length := by rw [List.length_map]; exact List.length_pos_iff.2 hne
      obtain ⟨g, cap, hv, hg1, hg2, hg3, hg4⟩ := hR.own.shape hpos
      have hmm : (ls.map mkB).map (·.data.toList) = ls := by
        rw [List.map_map]
        conv => rhs; rw [← List.map_id ls]
        apply List.map_congr_left
        intro x _
        exact mkB_toList x
      have hjo := Tryz.strings_Join g 0 cap (ls.map mkB) ⟨#[10]⟩ wr (fun j x hx => by
        rw [Nat.zero_add]
        obtain ⟨hj, rfl⟩ := List.getElem?_eq_some_iff.1 hx
        have ho := hR.own
        rw [hv] at ho
        exact ho.cell rfl j hj) hg2 (by rw [List.length_map, HN.out]; omega) hg3 (by rw [hmm]; show (Lib.join ls [10]).length ≤ _; rw [hjn]; omega)
      rw [hmm] at hjo
      rw [show (⟨#[10]⟩ : ByteArray).data.toList = [10] from rfl, hjn] at hjo
      rw [show (⟨t.toArray⟩ : ByteArray) = mkB t from rfl] at hjo
      obtain ⟨c0, f0⟩ := cell1 hR.c0
      rw [hv] at c0
      have HB := hidE (show Below w.heap.size w wr by rw [HS.out]; exact HB1.out.trans (hR.bel.mono (by omega)))
      generalize (ls.map mkB).length = M at hjo c0
      clear hR hv hg1 hg2 hg3 hg4 hmm hpos hne hjn hsum hlen hl hno HT
      go_wp2_with (go_at_call 76; go_must (refine hjo.mono ?_; rintro e w5 ⟨rfl, b5⟩))
      exact HQ.out _ (HB.out.trans (b5.mono HB.out.size))
/-- Expand of a text with no sign in it. -/
theorem expand_plain (t : List UInt8) (w : World) (htx : TxE w) (hl : t.length ≤ 2000) (hp : Plain t) :
    Calls Tryz.prog 13 #[.string (mkB t)] w fun e w' => e = .returned (.tuple #[.string (mkB t), .nilIface]) ∧ Below w.heap.size w w' := by
  obtain ⟨Q, hQ⟩ : ∃ Q : Ending → World → Prop, Q = fun e w' => e = .returned (.tuple #[.string (mkB t), .nilIface]) ∧ Below w.heap.size w w' := ⟨_, rfl⟩
  have HQ : Hid (∀ w', Below w.heap.size w w' → Q (.returned (.tuple #[.string (mkB t), .nilIface])) w') := by rw [hQ]; exact fun w' h => ⟨rfl, h⟩
  rw [← hQ]
  clear hQ
  have h1 := names_plain t w hl hp.let'
  have hout : outL (lnsL t) = t := by
    unfold outL
    rw [List.filter_eq_self.2 (fun x hx => by unfold noLet letP; rw [hp.let' x hx]; rfl), lnsL_flat]
  have h2 := fun w => without_any t w (by omega) (by rw [lnsL_flat]; omega)
  rw [hout] at h2
  have h3 := fun w => fill_plain t w hl (fun x hx => (hp.sign x hx).1)
  have h4 := fun w' (hb : Below w.heap.size w w') => spread_plain t w' (htx.below hb) hl (fun x hx => (hp.sign x hx).2)
  have HTX := hidE h4
  clear hout hp htx hl h4
  go_enter Tryz.func13, Tryz.ntmps13
  go_upto_region 2 with (go_at_call 27; go_must (refine h1.mono ?_; rintro e w1 ⟨rfl, b1⟩))
  have HB1 := hidE b1
  clear h1 b1
  go_upto_region 5 with (first | (go_at_call 29; go_must (refine (h2 _).mono ?_; rintro e w2 ⟨rfl, b2⟩; have HB2 := hidE b2; clear b2)) | (go_at_call 28; go_must (refine (h3 _).mono ?_; rintro e w3 ⟨rfl, b3⟩)))
  have B2 := hidE (HB1.out.trans (HB2.out.mono HB1.out.size))
  have B3 := hidE (B2.out.trans (b3.mono B2.out.size))
  have h5 := HTX.out _ B3.out
  clear h2 h3 b3 HTX
  go_wp2_with (go_at_call 30; go_must (refine h5.mono ?_; rintro e w5 ⟨rfl, b5⟩))
  exact HQ.out _ (B3.out.trans (b5.mono B3.out.size))
theorem expand_full (t : List UInt8) (w : World) (hl : 2000 < t.length) :
    Calls Tryz.prog 13 #[.string (mkB t)] w fun e w' => e = .returned (.tuple #[.string ⟨#[]⟩, .iface 45 (.int .i64 4)]) ∧ Below w.heap.size w w' := by
  obtain ⟨Q, hQ⟩ : ∃ Q : Ending → World → Prop, Q = fun e w' => e = .returned (.tuple #[.string ⟨#[]⟩, .iface 45 (.int .i64 4)]) ∧ Below w.heap.size w w' := ⟨_, rfl⟩
  have HQ : Hid (∀ w', Below w.heap.size w w' → Q (.returned (.tuple #[.string ⟨#[]⟩, .iface 45 (.int .i64 4)])) w') := by rw [hQ]; exact fun w' h => ⟨rfl, h⟩
  rw [← hQ]
  clear hQ
  have h1 := names_full t w hl
  clear hl
  go_enter Tryz.func13, Tryz.ntmps13
  go_wp2_with (go_at_call 27; go_must (refine h1.mono ?_; rintro e w1 ⟨rfl, b1⟩))
  exact HQ.out _ b1
end Go.Proofs.YthnkjfgiclolaaaGreatDoor
