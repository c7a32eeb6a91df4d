/- What Names returns (package rule): 'nmP' of the text's lines. -/
import Derived.Test.YtjhofmmmlemfcaaDoorExN1
import Derived.Test.YtjhofmmmlemfcaaDoorExP6
import Derived.Deep.DeepMust
namespace Go.Proofs.YtjhofmmmlemfcaaDoor
open Go.RowKit
set_option linter.unusedVariables false
set_option maxRecDepth 10000
attribute [local go_sem] Oper.semAt_some

theorem OwnS.base {w : World} {b b' : Nat} {v : Value} {ss : List ByteArray} (h : OwnS w b v ss) (hb : b' ≤ b) : OwnS w b' v ss := by
  obtain ⟨h1, h2⟩ := h
  refine ⟨h1, ?_⟩
  rcases h2 with h2 | ⟨g, cap, cur, hv, hbg, rest⟩
  · exact .inl h2
  · exact .inr ⟨g, cap, cur, hv, Nat.le_trans hb hbg, rest⟩
theorem suf_ten {tl : List UInt8} (h : Lib.hasSuffix tl [10] = true) : tl = Lib.trimSuffix tl [10] ++ [10] := by
  unfold Lib.trimSuffix
  rw [if_pos h]
  unfold Lib.hasSuffix at h
  obtain ⟨t, ht⟩ := List.isSuffixOf_iff_suffix.1 h
  rw [← ht]; simp
theorem suf_of (b : List UInt8) : Lib.hasSuffix (b ++ [10]) [10] = true ∧ Lib.trimSuffix (b ++ [10]) [10] = b := by
  have h : Lib.hasSuffix (b ++ [10]) [10] = true := by
    unfold Lib.hasSuffix
    exact List.isSuffixOf_iff_suffix.2 ⟨b, rfl⟩
  refine ⟨h, ?_⟩
  unfold Lib.trimSuffix
  rw [if_pos h]; simp
theorem say_some {x a b : List UInt8} (hp : Lib.hasPrefix x letP = true) (h : sayO x = some (a, b)) : Lib.cut (x.drop 4) sepL = (a, b ++ [10], true) := by
  obtain ⟨h1, h2, h3⟩ := sayO_some hp h
  have hi := sep_at (b := b ++ [10]) h2.2.2
  unfold Lib.cut
  rw [h1, hi, if_pos (by omega), Int.toNat_natCast]
  congr 1
  · rw [List.append_assoc, List.take_left]
  · congr 1
    rw [show a.length + sepL.length = (a ++ sepL).length by simp, List.drop_left]
theorem say_none {x : List UInt8} (hp : Lib.hasPrefix x letP = true) (h : sayO x = none) : nameT (Lib.cut (x.drop 4) sepL).1 = false ∨ Lib.trimSuffix (Lib.cut (x.drop 4) sepL).2.1 [10] = [] ∨ Lib.hasSuffix (Lib.cut (x.drop 4) sepL).2.1 [10] = false := by
  by_cases h1 : nameT (Lib.cut (x.drop 4) sepL).1 = true
  · by_cases h3 : Lib.hasSuffix (Lib.cut (x.drop 4) sepL).2.1 [10] = true
    · refine .inr (.inl (Classical.byContradiction fun h2 => ?_))
      have e := suf_ten h3
      by_cases hi : 0 ≤ Lib.index (x.drop 4) sepL
      · have hh := sep_hit hi
        have ec : Lib.cut (x.drop 4) sepL = ((x.drop 4).take (Lib.index (x.drop 4) sepL).toNat, (x.drop 4).drop ((Lib.index (x.drop 4) sepL).toNat + 3), true) := by unfold Lib.cut; rw [if_pos hi]; rfl
        rw [ec] at h1 h2 e
        simp only at h1 h2 e
        rw [e] at hh
        have := sayO_of hp hh ((nameT_iff _).1 h1) h2
        rw [this] at h; cases h
      · have ec : Lib.cut (x.drop 4) sepL = (x.drop 4, [], false) := by unfold Lib.cut; rw [if_neg hi]
        rw [ec] at h3
        cases h3
    · exact .inr (.inr (by simpa using h3))
  · exact .inl (by simpa using h1)
theorem lnsF_cnt : ∀ (k : Nat) (l : List UInt8), (lnsF k l).length ≤ l.length
  | 0, l => by simp [lnsF]
  | k + 1, l => by
      rw [lnsF]
      split
      · simp
      · rename_i h0
        have hp : 0 < l.length := List.length_pos_iff.2 h0
        split
        · simp; omega
        · have := lnsF_cnt k (l.drop ((Lib.indexByte l 10).toNat + 1))
          rw [List.length_drop] at this
          rw [List.length_cons]
          omega
theorem lns_cnt (l : List UInt8) : (lnsL l).length ≤ l.length := lnsF_cnt _ l
theorem lnsF_ln : ∀ (k : Nat) (l x : List UInt8), x ∈ lnsF k l → x.length ≤ l.length
  | 0, l, x, h => by simp [lnsF] at h
  | k + 1, l, x, h => by
      rw [lnsF] at h
      split at h
      · simp at h
      · split at h
        · rw [List.mem_singleton] at h; subst h; exact Nat.le_refl _
        · rcases List.mem_cons.1 h with rfl | h
          · rw [List.length_take]; omega
          · have := lnsF_ln k _ x h
            rw [List.length_drop] at this; omega
theorem lns_len {l x : List UInt8} (h : x ∈ lnsL l) : x.length ≤ l.length := lnsF_ln _ _ _ h
theorem con_any (v : Value) (ns : List (List UInt8)) (a : List UInt8) (w : World) (hr : RowT w v ns) (hn : ns.length ≤ 1000000) :
    Calls Tryd.prog 16 #[v, .string (mkB a)] w fun e w' => e = .returned (.bool (decide (a ∈ ns))) ∧ w' = w := by
  obtain ⟨av, cv, rfl, hrow⟩ := hr
  by_cases h0 : ns = []
  · subst h0
    exact (Tryd.slices_Contains_string_empty av cv (mkB a) w).mono (by rintro e w' ⟨rfl, rfl⟩; exact ⟨by simp, rfl⟩)
  · obtain ⟨g, rfl, hg, hc⟩ := hrow (List.length_pos_iff.2 h0)
    refine (Tryd.slices_Contains_string g 0 ns.length cv (ns.map mkB) (mkB a) w (by simp) (by omega) (fun j hj => by
      rw [Nat.zero_add]
      have hj' : j < ns.length := by simpa using hj
      rw [hc j hj']
      simp [List.getD, hj'])).mono ?_
    rintro e w' ⟨rfl, rfl⟩
    refine ⟨?_, rfl⟩
    have e1 : (ns.map mkB).take ns.length = ns.map mkB := List.take_of_length_le (by simp)
    rw [e1]
    have hb : Lib.containsS (ns.map mkB) (mkB a) = decide (a ∈ ns) := by
      rw [Bool.eq_iff_iff, Lib.containsS_iff, decide_eq_true_iff]
      constructor
      · intro h
        obtain ⟨y, hy, e⟩ := List.mem_map.1 h
        rw [← mkB_inj e]; exact hy
      · exact fun h => List.mem_map.2 ⟨a, h, rfl⟩
    rw [hb]
def nmI (w : World) (S : Nat) (all : List (List UInt8)) (pre : List (List UInt8)) (W : World) : Prop := ∃ v u ns ts, NmSt w W S v u (ns.map mkB) (ts.map mkB) ∧ ns.length ≤ pre.length ∧ ts.length ≤ pre.length ∧ nmP [] [] all = nmP ns ts (all.drop pre.length)
def nmX (w : World) (S : Nat) (all : List (List UInt8)) (c : Code) (pre : List (List UInt8)) (W : World) : Prop := c = .ret ∧ ∃ E : Int, NmEnd w W S (erO E) ∧ nmP [] [] all = ([], [], E)
theorem nmI_own (w : World) (S : Nat) (all : List (List UInt8)) : OwnFrom (S + 4) (nmI w S all) := fun s W W' row h hg hr => by
  obtain ⟨v, u, ns, ts, h1, h2⟩ := h
  exact ⟨v, u, ns, ts, h1.turn hg hr, h2⟩
theorem nmX_own (w : World) (S : Nat) (all : List (List UInt8)) (c : Code) : OwnFrom (S + 4) (nmX w S all c) := fun s W W' row h hg hr => by
  obtain ⟨h0, E, h1, h2⟩ := h
  exact ⟨h0, E, h1.turn hg hr, h2⟩
theorem nmI_free (w : World) (S : Nat) (all : List (List UInt8)) : Free (S + 3) (nmI w S all) := fun s A A' h o => by
  obtain ⟨v, u, ns, ts, h1, h2⟩ := h
  exact ⟨v, u, ns, ts, h1.free o, h2⟩
theorem nmX_free (w : World) (S : Nat) (all : List (List UInt8)) (c : Code) : Free (S + 3) (nmX w S all c) := fun s A A' h o => by
  obtain ⟨h0, E, h1, h2⟩ := h
  exact ⟨h0, E, h1.free o, h2⟩
theorem NmSt.new {s : ByteArray} (w : World) : NmSt w ((((w.alloc (.cells #[.slice none 0 0] 22)).alloc (.cells #[.slice none 0 0] 22)).alloc (.cells #[.nilIface] 26)).alloc (.cells #[.string s] 9)) w.heap.size (.slice none 0 0) (.slice none 0 0) [] [] := by
  have z1 : (w.alloc (.cells #[.slice none 0 0] 22)).heap.size = w.heap.size + 1 := by simp
  have b1 : Below w.heap.size w (w.alloc (.cells #[.slice none 0 0] 22)) := (Below.refl _ _).alloc (Nat.le_refl _) _
  have c1 := heap_alloc_new w (.cells #[.slice none 0 0] 22)
  generalize w.alloc (.cells #[.slice none 0 0] 22) = W1 at z1 b1 c1 ⊢
  have z2 : (W1.alloc (.cells #[.slice none 0 0] 22)).heap.size = w.heap.size + 2 := by simp; omega
  have b2 : Below W1.heap.size W1 (W1.alloc (.cells #[.slice none 0 0] 22)) := (Below.refl _ _).alloc (Nat.le_refl _) _
  have c2 := heap_alloc_new W1 (.cells #[.slice none 0 0] 22)
  rw [z1] at c2
  have c1 := (b2.block _ (by omega)).trans c1
  have b2 := b1.trans (b2.mono b1.size)
  generalize W1.alloc (.cells #[.slice none 0 0] 22) = W2 at z2 b2 c1 c2 ⊢
  have z3 : (W2.alloc (.cells #[.nilIface] 26)).heap.size = w.heap.size + 3 := by simp; omega
  have b3 : Below W2.heap.size W2 (W2.alloc (.cells #[.nilIface] 26)) := (Below.refl _ _).alloc (Nat.le_refl _) _
  have c3 := heap_alloc_new W2 (.cells #[.nilIface] 26)
  rw [z2] at c3
  have c1 := (b3.block _ (by omega)).trans c1
  have c2 := (b3.block _ (by omega)).trans c2
  have b3 := b2.trans (b3.mono b2.size)
  generalize W2.alloc (.cells #[.nilIface] 26) = W3 at z3 b3 c1 c2 c3 ⊢
  have b5 : Below W3.heap.size W3 (W3.alloc (.cells #[.string s] 9)) := (Below.refl _ _).alloc (Nat.le_refl _) _
  exact ⟨(b5.block _ (by omega)).trans c1, (b5.block _ (by omega)).trans c2, (b5.block _ (by omega)).trans c3, OwnS.nil _ _, OwnS.nil _ _, (fun k hk => by cases hk), b3.trans (b5.mono b3.size), by simp; omega⟩
/-- Three variables are stored, in blocks of their own. -/
theorem nm_store3 {W : World} {S : Nat} {a b c : Value} {t1 t2 t3 : TypeId} {u0 u1 u2 : Value} (h0 : W.heap[S]? = some (.cells #[u0] t1 (0, 0))) (h1 : W.heap[S + 1]? = some (.cells #[u1] t2 (0, 0))) (h2 : W.heap[S + 2]? = some (.cells #[u2] t3 (0, 0))) :
    ∃ W', ((W.setCell ⟨S, 0, none⟩ a).setCell ⟨S + 1, 0, none⟩ b).setCell ⟨S + 2, 0, none⟩ c = W' ∧ W'.heap[S]? = some (.cells #[a] t1 (0, 0)) ∧ W'.heap[S + 1]? = some (.cells #[b] t2 (0, 0)) ∧ W'.heap[S + 2]? = some (.cells #[c] t3 (0, 0)) ∧ (∀ k, k ≠ S → k ≠ S + 1 → k ≠ S + 2 → W'.heap[k]? = W.heap[k]?) ∧ KeepsOthers W W' ∧ Below S W W' ∧ W'.heap.size = W.heap.size := by
  have e0 := heap_setCell_same W S 0 _ _ a h0
  have k1 := (heap_setCell_other W ⟨S, 0, none⟩ (S + 1) a (by simp)).trans h1
  have k2 := (heap_setCell_other W ⟨S, 0, none⟩ (S + 2) a (by simp)).trans h2
  have ot1 := fun k (h : k ≠ S) => heap_setCell_other W ⟨S, 0, none⟩ k a h
  have kk1 := KeepsOthers.setCell W ⟨S, 0, none⟩ a
  have b1 := (Below.refl S W).setCell (p := ⟨S, 0, none⟩) (Nat.le_refl _) a
  have z1 : (W.setCell ⟨S, 0, none⟩ a).heap.size = W.heap.size := by simp [World.setCell]
  generalize W.setCell ⟨S, 0, none⟩ a = W1 at e0 k1 k2 ot1 kk1 b1 z1 ⊢
  have f1 := heap_setCell_same W1 (S + 1) 0 _ _ b k1
  have f0 := (heap_setCell_other W1 ⟨S + 1, 0, none⟩ S b (by simp)).trans e0
  have f2 := (heap_setCell_other W1 ⟨S + 1, 0, none⟩ (S + 2) b (by simp)).trans k2
  have ot2 := fun k (h : k ≠ S + 1) => heap_setCell_other W1 ⟨S + 1, 0, none⟩ k b h
  have kk2 := KeepsOthers.setCell W1 ⟨S + 1, 0, none⟩ b
  have b2 := b1.setCell (p := ⟨S + 1, 0, none⟩) (Nat.le_succ S) b
  have z2 : (W1.setCell ⟨S + 1, 0, none⟩ b).heap.size = W1.heap.size := by simp [World.setCell]
  generalize W1.setCell ⟨S + 1, 0, none⟩ b = W2 at f0 f1 f2 ot2 kk2 b2 z2 ⊢
  have g2 := heap_setCell_same W2 (S + 2) 0 _ _ c f2
  have g0 := (heap_setCell_other W2 ⟨S + 2, 0, none⟩ S c (by simp)).trans f0
  have g1 := (heap_setCell_other W2 ⟨S + 2, 0, none⟩ (S + 1) c (by simp)).trans f1
  refine ⟨_, rfl, g0, g1, g2, fun k x0 x1 x2 => ?_, (kk1.trans kk2).trans (KeepsOthers.setCell W2 _ c), b2.setCell (p := ⟨S + 2, 0, none⟩) (by show S ≤ S + 2; omega) c, by simp [World.setCell]; omega⟩
  exact (heap_setCell_other W2 ⟨S + 2, 0, none⟩ k c x2).trans ((ot2 k x1).trans (ot1 k x0))
set_option maxHeartbeats 64000000 in
theorem names_any (text : List UInt8) (w : World) (hM : MxL w) (hl : text.length ≤ 2000) :
    Calls Tryd.prog 5 #[.string (mkB text)] w fun e w' => ∃ v u, e = .returned (.tuple #[v, u, erO (nmP [] [] (lnsL text)).2.2]) ∧ OwnS w' w.heap.size v ((nmP [] [] (lnsL text)).1.map mkB) ∧ OwnS w' w.heap.size u ((nmP [] [] (lnsL text)).2.1.map mkB) ∧ Below w.heap.size w w' := by
  have hlen : ∀ x ∈ lnsL text, x.length ≤ 2000 := fun x hx => Nat.le_trans (lns_len hx) hl
  have hcnt := lns_cnt text
  obtain ⟨all, hall⟩ : ∃ all, lnsL text = all := ⟨_, rfl⟩
  rw [hall] at hlen hcnt ⊢
  have HALL : Hid (lnsL text = all) := hall
  have HLEN := hidR hlen
  have HCNT : Hid (all.length ≤ 2000) := Nat.le_trans hcnt hl
  obtain ⟨Q, hQ⟩ : ∃ Q : Ending → World → Prop, Q = fun e w' => ∃ v u, e = .returned (.tuple #[v, u, erO (nmP [] [] all).2.2]) ∧ OwnS w' w.heap.size v ((nmP [] [] all).1.map mkB) ∧ OwnS w' w.heap.size u ((nmP [] [] all).2.1.map mkB) ∧ Below w.heap.size w w' := ⟨_, rfl⟩
  have HQ : Hid (∀ ns ts E v u w', nmP [] [] all = (ns, ts, E) → OwnS w' w.heap.size v (ns.map mkB) → OwnS w' w.heap.size u (ts.map mkB) → Below w.heap.size w w' → Q (.returned (.tuple #[v, u, erO E])) w') := by rw [hQ]; intro ns ts E v u w' e h1 h2 h3; rw [e]; exact ⟨v, u, rfl, h1, h2, h3⟩
  rw [← hQ]
  clear hQ hall hcnt hlen
  refine (callsIn_wide (n := 3)).1 ?_
  have R0 := NmSt.new (s := mkB text) w
  obtain ⟨W0, hW0⟩ : ∃ W0, ((((w.alloc (.cells #[.slice none 0 0] 22)).alloc (.cells #[.slice none 0 0] 22)).alloc (.cells #[.nilIface] 26)).alloc (.cells #[.string (mkB text)] 9)) = W0 := ⟨_, rfl⟩
  have z0 : W0.heap.size = w.heap.size + 4 := by rw [← hW0]; simp
  have s0 : StrAt W0 (w.heap.size + 3) text := by
    have := heap_alloc_new (((w.alloc (.cells #[.slice none 0 0] 22)).alloc (.cells #[.slice none 0 0] 22)).alloc (.cells #[.nilIface] 26)) (.cells #[.string (mkB text)] 9)
    rw [hW0] at this
    rw [show (((w.alloc (.cells #[.slice none 0 0] 22)).alloc (.cells #[.slice none 0 0] 22)).alloc (.cells #[.nilIface] 26)).heap.size = w.heap.size + 3 by simp] at this
    exact this
  rw [hW0] at R0
  have hlf := fun w => linesF_any (mkB text) w
  have hsz := mkB_size text
  have hn : ¬ ((mkB text).size : Int) > 2000 := by rw [hsz]; omega
  have hM0 := maxl_lt hM
  have HM := hidR hM
  refine callsIn_of_wp_marks Tryd.func5 rfl trivial ?_ rfl
  simp only [Tryd.ntmps5, List.size_toArray, List.length_cons, List.length_nil, Nat.reduceAdd, Nat.reduceSub, Array.replicate_succ, Array.replicate_zero, List.push_toArray, List.append_toArray, List.nil_append, List.cons_append]
  gi_wp2_with (refine ⟨trivial, ?_⟩; refine (callsIn_wide.2 (hlf _)).mono ?_; rintro e w' ⟨rfl, hw'⟩; rw [hw']; clear hw')
  clear hW0 hlf hM
  obtain ⟨S, hS⟩ : ∃ S, w.heap.size = S := ⟨_, rfl⟩
  have HS : Hid (w.heap.size = S) := hS
  rw [hS] at R0 z0 s0 hM0 ⊢
  clear hS
  rw [show S + 1 + 1 = S + 2 from rfl, show S + 2 + 1 = S + 3 from rfl]
  have hgv := lines_gives 2 (S + 3) text W0 s0 (by omega)
  rw [HALL.out] at hgv
  have HM0 : Hid (1 < S) := hM0
  clear hM0
  refine wp_range_box rfl (by decide) (gf := 21) (lb := #[.pointer (some ⟨S + 3, 0, none⟩)]) rfl trivial (enters_of Tryd.func21 (by kernel_rfl) rfl) (B := S + 3) (all := all) (by omega) hgv (fun x => rfl)
    (nmI w S all) (nmX w S all) (by rw [z0]; exact nmI_own w S all) (fun c => by rw [z0]; exact nmX_own w S all c) (nmI_free w S all) (nmX_free w S all) ⟨_, _, [], [], R0, by simp, by simp, rfl⟩
    (fun x => { tmps := #[.string (mkB text), undef, .pointer (some ⟨S, 0, none⟩), .pointer (some ⟨S + 1, 0, none⟩), .pointer (some ⟨S + 2, 0, none⟩), .string (mkB x), undef, undef, undef, undef, undef, undef, undef, .string (mkB text), .int .i64 (text.length : Int), .bool (decide ((2000 : Int) < (text.length : Int))), undef, .string (mkB text), .func (.func 21) #[] #[.pointer (some ⟨S + 3, 0, none⟩)], .string (mkB x), undef, undef, undef, undef, undef, undef, undef, undef, undef, undef, undef, undef, undef, undef, undef, undef, undef, undef, undef, undef, undef, undef, undef, undef, undef, undef, undef, undef, undef, undef, undef, undef, undef, undef, undef, undef, undef, undef, undef, undef, undef, undef, undef, undef], defers := [] }) ?assign ?body ?done ?stop
  case assign =>
    intro l x W K hK
    gi_wp2
    exact hK
  case body =>
    rintro l pre x W ⟨v, u, ns, ts, R, hn1, hn2, hnm⟩ hpre hsz
    obtain ⟨rest, hrest⟩ := hpre
    have hx : x ∈ all := by rw [← hrest]; simp
    have hxl := HLEN.out x hx
    have hdrop : all.drop pre.length = x :: rest := by rw [← hrest]; simp
    have HD2 : Hid (all.drop (pre ++ [x]).length = rest) := by rw [Hid, ← hrest]; simp
    rw [hdrop, nmP] at hnm
    have HPL : Hid (pre.length ≤ 2000) := by
      have h1 := congrArg List.length hrest
      simp at h1
      have h2 := HCNT.out
      show _ ≤ _
      omega
    have HNL := hidR (And.intro hn1 hn2)
    have hMW : MxL W := mxl_below HM.out HM0.out (by exact R.bel)
    have hcp := Tryd.strings_CutPrefix (mkB x) (mkB letP) W
    rw [mkB_toList, mkB_toList] at hcp
    rw [show mkB letP = (⟨#[108, 101, 116, 32]⟩ : ByteArray) from rfl] at hcp
    obtain ⟨av, cv, hv⟩ := R.o1.len'
    obtain ⟨au, cu, hu⟩ := R.o2.len'
    rw [List.length_map] at hv hu
    obtain ⟨N1, hN1⟩ : ∃ N, ns.length = N := ⟨_, rfl⟩
    obtain ⟨N2, hN2⟩ : ∃ N, ts.length = N := ⟨_, rfl⟩
    rw [hN1] at hv
    rw [hN2] at hu
    subst hv hu
    have HN1 := hidR hN1
    have HN2 := hidR hN2
    have HR := hidR R
    clear hrest hx hdrop R hgv s0 R0 hn1 hn2 hN1 hN2
    rcases hpx : Lib.hasPrefix x letP with _ | _
    · as_aux_lemma =>
      rw [hpx, if_neg (by simp)] at hnm
      have HNM := hidR hnm
      rw [hpx] at hcp
      generalize (⟨(Lib.trimPrefix x letP).toArray⟩ : ByteArray) = y at hcp
      clear hnm hpx hMW
      gi_wp2_with (refine ⟨trivial, ?_⟩; refine (CallsIn.inRound l (callsIn_wide.2 hcp)).mono ?_; rintro e W1 ⟨rfl, hw1⟩; rw [hw1]; clear hw1)
      exact ⟨KeepsOthers.refl _, rfl, _, _, ns, ts, HR.out, by have := HNL.out; simp; omega, by have := HNL.out; simp; omega, by rw [HD2.out]; exact HNM.out⟩
    rw [if_pos hpx] at hnm
    rw [hpx] at hcp
    have htr : Lib.trimPrefix x letP = x.drop 4 := by unfold Lib.trimPrefix; rw [if_pos hpx]; rfl
    rw [htr] at hcp
    rw [mk_ext] at hcp
    obtain ⟨m, hm⟩ := hMW
    have hcu := fun w' (hw' : w'.cell? ⟨1, 0, none⟩ = some (.int .i64 m)) => Tryd.strings_Cut (mkB (x.drop 4)) ⟨#[32, 61, 32]⟩ m w' (by rw [mkB_size, List.length_drop]; omega) hw'
    rw [mkB_toList] at hcu
    rw [show (⟨#[32, 61, 32]⟩ : ByteArray).data.toList = sepL from rfl] at hcu
    simp only [mk_ext] at hcu
    have hsn := say_none hpx
    have hss := fun a b => say_some (x := x) (a := a) (b := b) hpx
    have hcl : (Lib.cut (x.drop 4) sepL).2.1.length ≤ 2000 := by
      unfold Lib.cut
      split
      · simp; omega
      · simp
    obtain ⟨nm, hnmE⟩ : ∃ nm, (Lib.cut (x.drop 4) sepL).1 = nm := ⟨_, rfl⟩
    obtain ⟨tl, htlE⟩ : ∃ tl, (Lib.cut (x.drop 4) sepL).2.1 = tl := ⟨_, rfl⟩
    rw [hnmE, htlE] at hsn
    rw [htlE] at hcl
    have HSS : Hid (∀ a b, sayO x = some (a, b) → nm = a ∧ tl = b ++ [10] ∧ nameT nm = true ∧ b ≠ []) := fun a b h => by
      have := hss a b h
      obtain ⟨_, e2, e3⟩ := sayO_some hpx h
      rw [← hnmE, ← htlE, this]; exact ⟨rfl, rfl, (nameT_iff _).2 e2, e3⟩
    simp only [hnmE, htlE] at hcu
    generalize (Lib.cut (x.drop 4) sepL).2.2 = fnd at hcu
    have hcs := fun w' => Tryd.strings_CutSuffix (mkB tl) ⟨#[10]⟩ w' (by rw [mkB_size]; omega)
    rw [mkB_toList] at hcs
    rw [show (⟨#[10]⟩ : ByteArray).data.toList = [10] from rfl] at hcs
    simp only [mk_ext] at hcs
    have his := isName_any nm
    have HSN := hidR hsn
    have HCC : Hid (W.cell? ⟨1, 0, none⟩ = some (.int .i64 m)) := hm
    obtain ⟨bd, hbd⟩ : ∃ bd, Lib.trimSuffix tl [10] = bd := ⟨_, rfl⟩
    obtain ⟨en, hen⟩ : ∃ en, Lib.hasSuffix tl [10] = en := ⟨_, rfl⟩
    rw [hbd, hen] at HSN
    simp only [hbd, hen] at hcs
    obtain ⟨it, hit⟩ : ∃ it, nameT nm = it := ⟨_, rfl⟩
    rw [hit] at HSN his
    have HBD : Hid (∀ b, tl = b ++ [10] → bd = b ∧ en = true) := fun b e => by
      rw [← hbd, ← hen, e]; exact ⟨(suf_of b).2, (suf_of b).1⟩
    have HIT : Hid (nameT nm = it) := hit
    clear hsn hss hnmE htlE hbd hen hit hm htr hsz
    generalize hsyE : sayO x = sy at hnm HSN HSS
    clear hsyE
    gi_upto_region 6 with (refine ⟨trivial, ?_⟩; refine (CallsIn.inRound l (callsIn_wide.2 hcp)).mono ?_; rintro e W1 ⟨rfl, hw1⟩; rw [hw1]; clear hw1)
    have hcu0 := hcu W HCC.out
    clear hcp hcu
    gi_upto_region 8 with (refine ⟨trivial, ?_⟩; refine (CallsIn.inRound l (callsIn_wide.2 hcu0)).mono ?_; rintro e W1 ⟨rfl, d1⟩)
    have HB1 : Hid (Below W.heap.size W W1) := by obtain ⟨q, rfl⟩ := d1; exact _root_.Go.below_drewN (Below.refl _ _) q
    have hcs1 := hcs W1
    have hit1 := his W1
    clear hcu0 d1 hcs his
    gi_upto_region 9 with (refine ⟨trivial, ?_⟩; refine (CallsIn.inRound l (callsIn_wide.2 hcs1)).mono ?_; rintro e W2 ⟨rfl, hw2⟩; rw [hw2]; clear hw2)
    clear hcs1
    rcases sy with _ | ⟨a, b⟩
    · have HNM : Hid (nmP [] [] all = ([], [], 2)) := hnm
      clear hnm
      rcases it with _ | _
      · as_aux_lemma =>
        gi_upto_region 10 with (refine ⟨trivial, ?_⟩; refine (CallsIn.inRound l (callsIn_wide.2 hit1)).mono ?_; rintro e W2 ⟨rfl, b2⟩)
        have B2 : Below W.heap.size W W2 := HB1.out.trans (b2.mono HB1.out.size)
        have R2 := HR.out.step B2
        obtain ⟨c0, f0⟩ := cell1 R2.q0
        obtain ⟨c1, f1⟩ := cell1 R2.q1
        obtain ⟨c2, f2⟩ := cell1 R2.q2
        obtain ⟨W9, hW9, g0, g1, g2, ot9, kk9, b9, z9⟩ := nm_store3 (a := .slice none 0 0) (b := .slice none 0 0) (c := .iface 37 (.int .i64 2)) R2.q0 R2.q1 R2.q2
        have HW9 : Hid (((W2.setCell ⟨S, 0, none⟩ (.slice none 0 0)).setCell ⟨S + 1, 0, none⟩ (.slice none 0 0)).setCell ⟨S + 2, 0, none⟩ (.iface 37 (.int .i64 2)) = W9) := hW9
        have HFIN : Hid (KeepsOthers W W9 ∧ nmX w S all .ret (pre ++ [x]) W9) := ⟨(KeepsOthers.mk B2.size (fun k o hk _ => (B2.block k (Array.getElem?_eq_some_iff.1 hk).1).trans hk)).trans kk9, rfl, 2, ⟨g0, g1, g2, R2.bel.trans b9, by rw [z9]; exact R2.sz⟩, HNM.out⟩
        clear hW9 g0 g1 g2 ot9 kk9 b9 z9 B2 b2 R2 hit1
        gi_wp2
        rw [HW9.out]
        exact HFIN.out
      rcases en with _ | _
      · as_aux_lemma =>
        by_cases hbe : bd = []
        · have hq : (mkB bd).toList = ([] : List UInt8) := by rw [ByteArray.toList_eq, mkB_toList]; exact hbe
          clear hbe
          gi_upto_region 10 with (refine ⟨trivial, ?_⟩; refine (CallsIn.inRound l (callsIn_wide.2 hit1)).mono ?_; rintro e W2 ⟨rfl, b2⟩)
          have B2 : Below W.heap.size W W2 := HB1.out.trans (b2.mono HB1.out.size)
          have R2 := HR.out.step B2
          obtain ⟨c0, f0⟩ := cell1 R2.q0
          obtain ⟨c1, f1⟩ := cell1 R2.q1
          obtain ⟨c2, f2⟩ := cell1 R2.q2
          obtain ⟨W9, hW9, g0, g1, g2, ot9, kk9, b9, z9⟩ := nm_store3 (a := .slice none 0 0) (b := .slice none 0 0) (c := .iface 37 (.int .i64 2)) R2.q0 R2.q1 R2.q2
          have HW9 : Hid (((W2.setCell ⟨S, 0, none⟩ (.slice none 0 0)).setCell ⟨S + 1, 0, none⟩ (.slice none 0 0)).setCell ⟨S + 2, 0, none⟩ (.iface 37 (.int .i64 2)) = W9) := hW9
          have HFIN : Hid (KeepsOthers W W9 ∧ nmX w S all .ret (pre ++ [x]) W9) := ⟨(KeepsOthers.mk B2.size (fun k o hk _ => (B2.block k (Array.getElem?_eq_some_iff.1 hk).1).trans hk)).trans kk9, rfl, 2, ⟨g0, g1, g2, R2.bel.trans b9, by rw [z9]; exact R2.sz⟩, HNM.out⟩
          clear hW9 g0 g1 g2 ot9 kk9 b9 z9 B2 b2 R2 hit1
          gi_wp2
          rw [HW9.out]
          exact HFIN.out
        · have hq : ¬ (mkB bd).toList = ([] : List UInt8) := by rw [ByteArray.toList_eq, mkB_toList]; exact hbe
          clear hbe
          gi_upto_region 10 with (refine ⟨trivial, ?_⟩; refine (CallsIn.inRound l (callsIn_wide.2 hit1)).mono ?_; rintro e W2 ⟨rfl, b2⟩)
          have B2 : Below W.heap.size W W2 := HB1.out.trans (b2.mono HB1.out.size)
          have R2 := HR.out.step B2
          obtain ⟨c0, f0⟩ := cell1 R2.q0
          obtain ⟨c1, f1⟩ := cell1 R2.q1
          obtain ⟨c2, f2⟩ := cell1 R2.q2
          obtain ⟨W9, hW9, g0, g1, g2, ot9, kk9, b9, z9⟩ := nm_store3 (a := .slice none 0 0) (b := .slice none 0 0) (c := .iface 37 (.int .i64 2)) R2.q0 R2.q1 R2.q2
          have HW9 : Hid (((W2.setCell ⟨S, 0, none⟩ (.slice none 0 0)).setCell ⟨S + 1, 0, none⟩ (.slice none 0 0)).setCell ⟨S + 2, 0, none⟩ (.iface 37 (.int .i64 2)) = W9) := hW9
          have HFIN : Hid (KeepsOthers W W9 ∧ nmX w S all .ret (pre ++ [x]) W9) := ⟨(KeepsOthers.mk B2.size (fun k o hk _ => (B2.block k (Array.getElem?_eq_some_iff.1 hk).1).trans hk)).trans kk9, rfl, 2, ⟨g0, g1, g2, R2.bel.trans b9, by rw [z9]; exact R2.sz⟩, HNM.out⟩
          clear hW9 g0 g1 g2 ot9 kk9 b9 z9 B2 b2 R2 hit1
          gi_wp2
          rw [HW9.out]
          exact HFIN.out
      · as_aux_lemma =>
        have hbe : bd = [] := by
          rcases HSN.out rfl with h | h | h
          · cases h
          · exact h
          · cases h
        have hq : (mkB bd).toList = ([] : List UInt8) := by rw [ByteArray.toList_eq, mkB_toList]; exact hbe
        clear hbe
        gi_upto_region 10 with (refine ⟨trivial, ?_⟩; refine (CallsIn.inRound l (callsIn_wide.2 hit1)).mono ?_; rintro e W2 ⟨rfl, b2⟩)
        have B2 : Below W.heap.size W W2 := HB1.out.trans (b2.mono HB1.out.size)
        have R2 := HR.out.step B2
        obtain ⟨c0, f0⟩ := cell1 R2.q0
        obtain ⟨c1, f1⟩ := cell1 R2.q1
        obtain ⟨c2, f2⟩ := cell1 R2.q2
        obtain ⟨W9, hW9, g0, g1, g2, ot9, kk9, b9, z9⟩ := nm_store3 (a := .slice none 0 0) (b := .slice none 0 0) (c := .iface 37 (.int .i64 2)) R2.q0 R2.q1 R2.q2
        have HW9 : Hid (((W2.setCell ⟨S, 0, none⟩ (.slice none 0 0)).setCell ⟨S + 1, 0, none⟩ (.slice none 0 0)).setCell ⟨S + 2, 0, none⟩ (.iface 37 (.int .i64 2)) = W9) := hW9
        have HFIN : Hid (KeepsOthers W W9 ∧ nmX w S all .ret (pre ++ [x]) W9) := ⟨(KeepsOthers.mk B2.size (fun k o hk _ => (B2.block k (Array.getElem?_eq_some_iff.1 hk).1).trans hk)).trans kk9, rfl, 2, ⟨g0, g1, g2, R2.bel.trans b9, by rw [z9]; exact R2.sz⟩, HNM.out⟩
        clear hW9 g0 g1 g2 ot9 kk9 b9 z9 B2 b2 R2 hit1
        gi_wp2
        rw [HW9.out]
        exact HFIN.out
    · obtain ⟨hna, htl, htn, hbne⟩ := HSS.out a b rfl
      subst hna
      obtain ⟨hb1, hb2⟩ := HBD.out b htl
      subst hb1 hb2
      have hie : it = true := HIT.out.symm.trans htn
      subst hie
      simp only at hnm
      have hq : (mkB bd).toList.isEmpty = false := by rw [ByteArray.toList_eq, mkB_toList, ← Bool.not_eq_true, List.isEmpty_iff]; exact hbne
      have HNM := hidR hnm
      clear hnm htl htn hbne HSS HSN HBD HIT HLEN
      gi_upto_region 11 with (refine ⟨trivial, ?_⟩; refine (CallsIn.inRound l (callsIn_wide.2 hit1)).mono ?_; rintro e W2 ⟨rfl, b2⟩)
      have B2 : Below W.heap.size W W2 := HB1.out.trans (b2.mono HB1.out.size)
      have R2 := HR.out.step B2
      have hct := con_any (.slice av N1 cv) ns nm W2 R2.o1.rowT (by have := HNL.out.1; have := HPL.out; omega)
      obtain ⟨c0, f0⟩ := cell1 R2.q0
      obtain ⟨c1, f1⟩ := cell1 R2.q1
      obtain ⟨c2, f2⟩ := cell1 R2.q2
      have HR2 := hidR R2
      have HK2 : Hid (KeepsOthers W W2) := KeepsOthers.mk B2.size (fun k o hk _ => (B2.block k (Array.getElem?_eq_some_iff.1 hk).1).trans hk)
      have HL2 : Hid (Left (S + 3) W W2) := B2.block _ (by have := HR.out.sz; omega)
      clear R2 B2 b2 hit1 HR HB1
      by_cases hin : nm ∈ ns
      · as_aux_lemma =>
        rw [decide_eq_true hin] at hct
        have HEND : Hid (nmP [] [] all = ([], [], 7)) := by rw [Hid, HNM.out, if_pos hin]
        obtain ⟨W9, hW9, g0, g1, g2, ot9, kk9, b9, z9⟩ := nm_store3 (a := .slice none 0 0) (b := .slice none 0 0) (c := .iface 37 (.int .i64 7)) HR2.out.q0 HR2.out.q1 HR2.out.q2
        have HW9 : Hid (((W2.setCell ⟨S, 0, none⟩ (.slice none 0 0)).setCell ⟨S + 1, 0, none⟩ (.slice none 0 0)).setCell ⟨S + 2, 0, none⟩ (.iface 37 (.int .i64 7)) = W9) := hW9
        have HFIN : Hid (KeepsOthers W W9 ∧ nmX w S all .ret (pre ++ [x]) W9) := ⟨HK2.out.trans kk9, rfl, 7, ⟨g0, g1, g2, HR2.out.bel.trans b9, by rw [z9]; exact HR2.out.sz⟩, HEND.out⟩
        clear hW9 g0 g1 g2 ot9 kk9 b9 z9 hin HR2
        gi_wp2_with (refine ⟨trivial, ?_⟩; refine (CallsIn.inRound l (callsIn_wide.2 hct)).mono ?_; rintro e W3 ⟨rfl, hw3⟩; rw [hw3]; clear hw3)
        rw [HW9.out]
        exact HFIN.out
      · rw [decide_eq_false hin] at hct
        have HNX : Hid (nmP [] [] all = nmP (ns ++ [nm]) (ts ++ [bd]) rest) := by rw [Hid, HNM.out, if_neg hin]
        clear hin
        gi_upto_region 13 with (refine ⟨trivial, ?_⟩; refine (CallsIn.inRound l (callsIn_wide.2 hct)).mono ?_; rintro e W3 ⟨rfl, hw3⟩; rw [hw3]; clear hw3)
        clear hct
        have md0 := NmMd.of HR2.out
        have HFIN : Hid (∀ v1 u1 X, NmMd w W2 X S (.slice av N1 cv) (.slice au N2 cu) v1 u1 (ns.map mkB ++ [mkB nm]) (ts.map mkB ++ [mkB bd]) → KeepsOthers W ((X.setCell ⟨S, 0, none⟩ v1).setCell ⟨S + 1, 0, none⟩ u1) ∧ Left (S + 3) W ((X.setCell ⟨S, 0, none⟩ v1).setCell ⟨S + 1, 0, none⟩ u1) ∧ nmI w S all (pre ++ [x]) ((X.setCell ⟨S, 0, none⟩ v1).setCell ⟨S + 1, 0, none⟩ u1)) := by
          intro v1 u1 X md
          obtain ⟨r1, r2, r3⟩ := md.fin
          refine ⟨HK2.out.trans r2, Eq.trans r3 HL2.out, v1, u1, ns ++ [nm], ts ++ [bd], ?_, ?_, ?_, ?_⟩
          · rw [List.map_append, List.map_append]; exact r1
          · have := HNL.out.1; simp; omega
          · have := HNL.out.2; simp; omega
          · rw [HD2.out]; exact HNX.out
        have HLN : Hid ((ns.map mkB).length ≤ 4398046511104 ∧ (ts.map mkB).length ≤ 4398046511104) := by
          have := HNL.out; have := HPL.out
          simp [Hid]; omega
        have hSS : (fun X : World => X.cell? ⟨S, 0, none⟩ = some (.slice av N1 cv) ∧ X.cell? ⟨S + 1, 0, none⟩ = some (.slice au N2 cu)) W2.drew := md0.cells
        clear c0 f0 c1 f1 c2 f2 HR2 HK2 HL2 HNM HNX HD2
        refine wpIn_region_calm (fun X : World => X.cell? ⟨S, 0, none⟩ = some (.slice av N1 cv) ∧ X.cell? ⟨S + 1, 0, none⟩ = some (.slice au N2 cu)) 8 10 #[false, false, false, false, false, false, false, false, false, false] (by kernel_rfl) (by kernel_rfl) (fun ⟨_, _, h⟩ => h) rfl rfl ?_
        obtain ⟨X0, hX0⟩ : ∃ X, W2.drew = X := ⟨_, rfl⟩
        rw [hX0] at md0 hSS ⊢
        clear hX0
        refine E_take 0 (v := ?_) #[true, false, false, false, false, false, false, false, false, false] rfl (by kernel_rfl) (by kernel_rfl) (by kernel_rfl) (by kernel_rfl) (by kernel_rfl) (by kernel_rfl) (fun _ _ _ h => h) (Or.inl ⟨by rfl, ?_⟩) hSS (by kernel_rfl) ?_
        rotate_left
        · intro W9 hSw
          obtain ⟨d0, d1⟩ := hSw
          go_simp
          try with_reducible rfl
        simp only [List.getElem_toArray, List.getElem_cons_zero, Act.put, List.setIfInBounds_toArray, List.set_cons_zero, List.set_cons_succ]
        refine E_free 1 (v := ?_) #[true, true, false, false, false, false, false, false, false, false] rfl (by kernel_rfl) (by kernel_rfl) (by kernel_rfl) (by kernel_rfl) (fun _ _ _ h => h) (Or.inl ⟨by rfl, ?_⟩) (.inr hSS) (by kernel_rfl) ?_
        rotate_left
        · intro W9 _
          go_simp
          try with_reducible rfl
        simp only [List.getElem_toArray, List.getElem_cons_succ, List.getElem_cons_zero, Act.put, List.setIfInBounds_toArray, List.set_cons_zero, List.set_cons_succ]
        refine E_take2 4 (v := ?_) #[true, true, false, false, true, false, false, false, false, false] rfl (by kernel_rfl) (by kernel_rfl) (by kernel_rfl) (by kernel_rfl) (by kernel_rfl) (by kernel_rfl) (by kernel_rfl) (fun _ _ _ h => h) (Or.inl ⟨by rfl, ?_⟩) hSS (by kernel_rfl) ?_
        rotate_left
        · intro W9 hSw
          obtain ⟨d0, d1⟩ := hSw
          go_simp
          try with_reducible rfl
        simp only [List.getElem_toArray, List.getElem_cons_succ, List.getElem_cons_zero, Act.put, List.setIfInBounds_toArray, List.set_cons_zero, List.set_cons_succ]
        refine E_free 5 (v := ?_) #[true, true, false, false, true, true, false, false, false, false] rfl (by kernel_rfl) (by kernel_rfl) (by kernel_rfl) (by kernel_rfl) (fun _ _ _ h => h) (Or.inl ⟨by rfl, ?_⟩) (.inr hSS) (by kernel_rfl) ?_
        rotate_left
        · intro W9 _
          go_simp
          try with_reducible rfl
        simp only [List.getElem_toArray, List.getElem_cons_succ, List.getElem_cons_zero, Act.put, List.setIfInBounds_toArray, List.set_cons_zero, List.set_cons_succ]
        refine E_twoG 2 6 #[true, true, true, false, true, true, false, false, false, false] #[true, true, false, false, true, true, true, false, false, false] rfl rfl rfl rfl (by kernel_rfl) (by kernel_rfl) (by kernel_rfl) (fun K hK => ?_) (fun K hK => ?_)
        · as_aux_lemma =>
          go_wp2_with fail
          have mq := md0.build (.cells #[.string (mkB nm)] 9)
          have blnm := md0.bl (mkB nm)
          obtain ⟨gnm, hgnm⟩ : ∃ g, (X0).heap.size = g := ⟨_, rfl⟩
          obtain ⟨X1, hX⟩ : ∃ X, (X0).alloc (.cells #[.string (mkB nm)] 9) = X := ⟨_, rfl⟩
          rw [hgnm] at blnm ⊢
          rw [hX] at mq blnm  ⊢
          have md0n := mq
          refine hK.out _ _ (.inr mq.cells) ?_
          clear mq hX hgnm hK K
          refine E_twoG 3 6 #[true, true, true, true, true, true, false, false, false, false] #[true, true, true, false, true, true, true, false, false, false] rfl rfl rfl rfl (by kernel_rfl) (by kernel_rfl) (by kernel_rfl) (fun K hK => ?_) (fun K hK => ?_)
          · refine wp_append_str (.tmp 54) (.tmp 56) rfl (S + 4) (.slice av N1 cv) (ns.map mkB) rfl md0n.o1 (mkB nm) gnm rfl blnm.1 HLN.out.1 md0n.sz ?_
            intro y3 X2 own gr loc
            have mq := md0n.appA own gr loc
            refine hK.out _ _ (.inr mq.cells) ?_
            clear own gr loc hK K
            simp only [List.getElem_toArray, List.getElem_cons_succ, List.getElem_cons_zero, Act.put, List.setIfInBounds_toArray, List.set_cons_zero, List.set_cons_succ]
            have md1 := mq
            refine E_oneG 6 #[true, true, true, true, true, true, true, false, false, false] rfl rfl (by kernel_rfl) (by kernel_rfl) (fun K hK => ?_)
            go_wp2_with fail
            have mq := md1.build (.cells #[.string (mkB bd)] 9)
            have blbd := md1.bl (mkB bd)
            obtain ⟨gbd, hgbd⟩ : ∃ g, (X2).heap.size = g := ⟨_, rfl⟩
            obtain ⟨X3, hX⟩ : ∃ X, (X2).alloc (.cells #[.string (mkB bd)] 9) = X := ⟨_, rfl⟩
            rw [hgbd] at blbd ⊢
            rw [hX] at mq blbd  ⊢
            have md1n := mq
            refine hK.out _ _ (.inr mq.cells) ?_
            clear mq hX hgbd hK K
            refine E_oneG 7 #[true, true, true, true, true, true, true, true, false, false] rfl rfl (by kernel_rfl) (by kernel_rfl) (fun K hK => ?_)
            refine wp_append_str (.tmp 58) (.tmp 60) rfl (S + 4) (.slice au N2 cu) (ts.map mkB) rfl md1n.o2 (mkB bd) gbd rfl blbd.1 HLN.out.2 md1n.sz ?_
            intro y7 X7 own gr loc
            have mq := md1n.appB own gr loc
            refine hK.out _ _ (.inr mq.cells) ?_
            clear own gr loc hK K
            simp only [List.getElem_toArray, List.getElem_cons_succ, List.getElem_cons_zero, Act.put, List.setIfInBounds_toArray, List.set_cons_zero, List.set_cons_succ]
            obtain ⟨e0, e0f⟩ := cell1 mq.q0
            obtain ⟨e1, e1f⟩ := cell1 mq.q1
            have HF7 := hidR (HFIN.out _ _ _ mq)
            have o1q := mq.o1.len'
            have o2q := mq.o2.len'
            obtain ⟨a3, k3, hy3⟩ := o1q
            obtain ⟨a7, k7, hy7⟩ := o2q
            generalize (ns.map mkB ++ [mkB nm]).length = m3 at hy3
            generalize (ts.map mkB ++ [mkB bd]).length = m7 at hy7
            subst hy3 hy7
            obtain ⟨X8, hX8⟩ : ∃ X, X7.setCell ⟨S, 0, none⟩ (.slice a3 m3 k3) = X := ⟨_, rfl⟩
            have e2 : X8.cell? ⟨S + 1, 0, none⟩ = some (.slice au N2 cu) ∧ X8.frozen? ⟨S + 1, 0, none⟩ = false := by
              rw [← hX8]
              exact cell1 ((heap_setCell_other X7 ⟨S, 0, none⟩ (S + 1) _ (by simp)).trans mq.q1)
            obtain ⟨e2, e2f⟩ := e2
            rw [hX8] at HF7
            refine E_oneG 8 #[true, true, true, true, true, true, true, true, true, false] rfl rfl (by kernel_rfl) (by kernel_rfl) (fun K hK => ?_)
            go_wp2_with fail
            try rw [hX8]
            refine hK.out _ _ (.inl (by kernel_rfl)) ?_
            clear hK K hX8 e0 e0f e1 e1f mq
            try simp only [List.getElem_toArray, List.getElem_cons_succ, List.getElem_cons_zero, Act.put, List.setIfInBounds_toArray, List.set_cons_zero, List.set_cons_succ]
            refine E_oneG 9 #[true, true, true, true, true, true, true, true, true, true] rfl rfl (by kernel_rfl) (by kernel_rfl) (fun K hK => ?_)
            go_wp2_with fail
            refine hK.out _ _ (.inl (by kernel_rfl)) ?_
            clear hK K e2 e2f
            try simp only [List.getElem_toArray, List.getElem_cons_succ, List.getElem_cons_zero, Act.put, List.setIfInBounds_toArray, List.set_cons_zero, List.set_cons_succ]
            refine E_done (by kernel_rfl) ?_ _
            gi_wp2
            exact HF7.out
          · go_wp2_with fail
            have mq := md0n.build (.cells #[.string (mkB bd)] 9)
            have blbd := md0n.bl (mkB bd)
            have blnm := blnm.alloc (.cells #[.string (mkB bd)] 9)
            obtain ⟨gbd, hgbd⟩ : ∃ g, (X1).heap.size = g := ⟨_, rfl⟩
            obtain ⟨X2, hX⟩ : ∃ X, (X1).alloc (.cells #[.string (mkB bd)] 9) = X := ⟨_, rfl⟩
            rw [hgbd] at blbd ⊢
            rw [hX] at mq blbd blnm ⊢
            have md0nn := mq
            refine hK.out _ _ (.inr mq.cells) ?_
            clear mq hX hgbd hK K
            refine E_oneG 3 #[true, true, true, true, true, true, true, false, false, false] rfl rfl (by kernel_rfl) (by kernel_rfl) (fun K hK => ?_)
            refine wp_append_str (.tmp 54) (.tmp 56) rfl (S + 4) (.slice av N1 cv) (ns.map mkB) rfl md0nn.o1 (mkB nm) gnm rfl blnm.1 HLN.out.1 md0nn.sz ?_
            intro y3 X3 own gr loc
            have mq := md0nn.appA own gr loc
            have blbd := blbd.appA gr loc
            refine hK.out _ _ (.inr mq.cells) ?_
            clear own gr loc hK K
            simp only [List.getElem_toArray, List.getElem_cons_succ, List.getElem_cons_zero, Act.put, List.setIfInBounds_toArray, List.set_cons_zero, List.set_cons_succ]
            have md1 := mq
            refine E_oneG 7 #[true, true, true, true, true, true, true, true, false, false] rfl rfl (by kernel_rfl) (by kernel_rfl) (fun K hK => ?_)
            refine wp_append_str (.tmp 58) (.tmp 60) rfl (S + 4) (.slice au N2 cu) (ts.map mkB) rfl md1.o2 (mkB bd) gbd rfl blbd.1 HLN.out.2 md1.sz ?_
            intro y7 X7 own gr loc
            have mq := md1.appB own gr loc
            refine hK.out _ _ (.inr mq.cells) ?_
            clear own gr loc hK K
            simp only [List.getElem_toArray, List.getElem_cons_succ, List.getElem_cons_zero, Act.put, List.setIfInBounds_toArray, List.set_cons_zero, List.set_cons_succ]
            obtain ⟨e0, e0f⟩ := cell1 mq.q0
            obtain ⟨e1, e1f⟩ := cell1 mq.q1
            have HF7 := hidR (HFIN.out _ _ _ mq)
            have o1q := mq.o1.len'
            have o2q := mq.o2.len'
            obtain ⟨a3, k3, hy3⟩ := o1q
            obtain ⟨a7, k7, hy7⟩ := o2q
            generalize (ns.map mkB ++ [mkB nm]).length = m3 at hy3
            generalize (ts.map mkB ++ [mkB bd]).length = m7 at hy7
            subst hy3 hy7
            obtain ⟨X8, hX8⟩ : ∃ X, X7.setCell ⟨S, 0, none⟩ (.slice a3 m3 k3) = X := ⟨_, rfl⟩
            have e2 : X8.cell? ⟨S + 1, 0, none⟩ = some (.slice au N2 cu) ∧ X8.frozen? ⟨S + 1, 0, none⟩ = false := by
              rw [← hX8]
              exact cell1 ((heap_setCell_other X7 ⟨S, 0, none⟩ (S + 1) _ (by simp)).trans mq.q1)
            obtain ⟨e2, e2f⟩ := e2
            rw [hX8] at HF7
            refine E_oneG 8 #[true, true, true, true, true, true, true, true, true, false] rfl rfl (by kernel_rfl) (by kernel_rfl) (fun K hK => ?_)
            go_wp2_with fail
            try rw [hX8]
            refine hK.out _ _ (.inl (by kernel_rfl)) ?_
            clear hK K hX8 e0 e0f e1 e1f mq
            try simp only [List.getElem_toArray, List.getElem_cons_succ, List.getElem_cons_zero, Act.put, List.setIfInBounds_toArray, List.set_cons_zero, List.set_cons_succ]
            refine E_oneG 9 #[true, true, true, true, true, true, true, true, true, true] rfl rfl (by kernel_rfl) (by kernel_rfl) (fun K hK => ?_)
            go_wp2_with fail
            refine hK.out _ _ (.inl (by kernel_rfl)) ?_
            clear hK K e2 e2f
            try simp only [List.getElem_toArray, List.getElem_cons_succ, List.getElem_cons_zero, Act.put, List.setIfInBounds_toArray, List.set_cons_zero, List.set_cons_succ]
            refine E_done (by kernel_rfl) ?_ _
            gi_wp2
            exact HF7.out
        · as_aux_lemma =>
          go_wp2_with fail
          have mq := md0.build (.cells #[.string (mkB bd)] 9)
          have blbd := md0.bl (mkB bd)
          obtain ⟨gbd, hgbd⟩ : ∃ g, (X0).heap.size = g := ⟨_, rfl⟩
          obtain ⟨X1, hX⟩ : ∃ X, (X0).alloc (.cells #[.string (mkB bd)] 9) = X := ⟨_, rfl⟩
          rw [hgbd] at blbd ⊢
          rw [hX] at mq blbd  ⊢
          have md0n := mq
          refine hK.out _ _ (.inr mq.cells) ?_
          clear mq hX hgbd hK K
          refine E_oneG 2 #[true, true, true, false, true, true, true, false, false, false] rfl rfl (by kernel_rfl) (by kernel_rfl) (fun K hK => ?_)
          go_wp2_with fail
          have mq := md0n.build (.cells #[.string (mkB nm)] 9)
          have blnm := md0n.bl (mkB nm)
          have blbd := blbd.alloc (.cells #[.string (mkB nm)] 9)
          obtain ⟨gnm, hgnm⟩ : ∃ g, (X1).heap.size = g := ⟨_, rfl⟩
          obtain ⟨X2, hX⟩ : ∃ X, (X1).alloc (.cells #[.string (mkB nm)] 9) = X := ⟨_, rfl⟩
          rw [hgnm] at blnm ⊢
          rw [hX] at mq blnm blbd ⊢
          have md0nn := mq
          refine hK.out _ _ (.inr mq.cells) ?_
          clear mq hX hgnm hK K
          refine E_oneG 3 #[true, true, true, true, true, true, true, false, false, false] rfl rfl (by kernel_rfl) (by kernel_rfl) (fun K hK => ?_)
          refine wp_append_str (.tmp 54) (.tmp 56) rfl (S + 4) (.slice av N1 cv) (ns.map mkB) rfl md0nn.o1 (mkB nm) gnm rfl blnm.1 HLN.out.1 md0nn.sz ?_
          intro y3 X3 own gr loc
          have mq := md0nn.appA own gr loc
          have blbd := blbd.appA gr loc
          refine hK.out _ _ (.inr mq.cells) ?_
          clear own gr loc hK K
          simp only [List.getElem_toArray, List.getElem_cons_succ, List.getElem_cons_zero, Act.put, List.setIfInBounds_toArray, List.set_cons_zero, List.set_cons_succ]
          have md1 := mq
          refine E_oneG 7 #[true, true, true, true, true, true, true, true, false, false] rfl rfl (by kernel_rfl) (by kernel_rfl) (fun K hK => ?_)
          refine wp_append_str (.tmp 58) (.tmp 60) rfl (S + 4) (.slice au N2 cu) (ts.map mkB) rfl md1.o2 (mkB bd) gbd rfl blbd.1 HLN.out.2 md1.sz ?_
          intro y7 X7 own gr loc
          have mq := md1.appB own gr loc
          refine hK.out _ _ (.inr mq.cells) ?_
          clear own gr loc hK K
          simp only [List.getElem_toArray, List.getElem_cons_succ, List.getElem_cons_zero, Act.put, List.setIfInBounds_toArray, List.set_cons_zero, List.set_cons_succ]
          obtain ⟨e0, e0f⟩ := cell1 mq.q0
          obtain ⟨e1, e1f⟩ := cell1 mq.q1
          have HF7 := hidR (HFIN.out _ _ _ mq)
          have o1q := mq.o1.len'
          have o2q := mq.o2.len'
          obtain ⟨a3, k3, hy3⟩ := o1q
          obtain ⟨a7, k7, hy7⟩ := o2q
          generalize (ns.map mkB ++ [mkB nm]).length = m3 at hy3
          generalize (ts.map mkB ++ [mkB bd]).length = m7 at hy7
          subst hy3 hy7
          obtain ⟨X8, hX8⟩ : ∃ X, X7.setCell ⟨S, 0, none⟩ (.slice a3 m3 k3) = X := ⟨_, rfl⟩
          have e2 : X8.cell? ⟨S + 1, 0, none⟩ = some (.slice au N2 cu) ∧ X8.frozen? ⟨S + 1, 0, none⟩ = false := by
            rw [← hX8]
            exact cell1 ((heap_setCell_other X7 ⟨S, 0, none⟩ (S + 1) _ (by simp)).trans mq.q1)
          obtain ⟨e2, e2f⟩ := e2
          rw [hX8] at HF7
          refine E_oneG 8 #[true, true, true, true, true, true, true, true, true, false] rfl rfl (by kernel_rfl) (by kernel_rfl) (fun K hK => ?_)
          go_wp2_with fail
          try rw [hX8]
          refine hK.out _ _ (.inl (by kernel_rfl)) ?_
          clear hK K hX8 e0 e0f e1 e1f mq
          try simp only [List.getElem_toArray, List.getElem_cons_succ, List.getElem_cons_zero, Act.put, List.setIfInBounds_toArray, List.set_cons_zero, List.set_cons_succ]
          refine E_oneG 9 #[true, true, true, true, true, true, true, true, true, true] rfl rfl (by kernel_rfl) (by kernel_rfl) (fun K hK => ?_)
          go_wp2_with fail
          refine hK.out _ _ (.inl (by kernel_rfl)) ?_
          clear hK K e2 e2f
          try simp only [List.getElem_toArray, List.getElem_cons_succ, List.getElem_cons_zero, Act.put, List.setIfInBounds_toArray, List.set_cons_zero, List.set_cons_succ]
          refine E_done (by kernel_rfl) ?_ _
          gi_wp2
          exact HF7.out
  case done =>
    rintro D W hD ⟨v, u, ns, ts, R, hn1, hn2, hnm⟩ hK
    rw [List.drop_length, nmP] at hnm
    obtain ⟨av, cv, hv⟩ := R.o1.len'
    obtain ⟨au, cu, hu⟩ := R.o2.len'
    generalize (ns.map mkB).length = N1 at hv
    generalize (ts.map mkB).length = N2 at hu
    subst hv hu
    obtain ⟨c0, f0⟩ := cell1 R.q0
    obtain ⟨c1, f1⟩ := cell1 R.q1
    obtain ⟨c2, f2⟩ := cell1 R.q2
    obtain ⟨W9, hW9, g0, g1, g2, ot, kk, b9, z9⟩ := nm_store3 (a := .slice av N1 cv) (b := .slice au N2 cu) (c := .nilIface) R.q0 R.q1 R.q2
    have HW9 : Hid (((W.setCell ⟨S, 0, none⟩ (.slice av N1 cv)).setCell ⟨S + 1, 0, none⟩ (.slice au N2 cu)).setCell ⟨S + 2, 0, none⟩ .nilIface = W9) := hW9
    have hK9 := kk.same D _ hK rfl
    have hgr := grownBy_putObj' W9.drew D (.deferred none)
    have hrr : ∀ r, some D = some r → S + 4 ≤ r ∧ ∃ o : Obj, W9.drew.heap[r]? = some o ∧ o.isCells = false := fun r e => by
      cases e
      exact ⟨by omega, _, hK9, rfl⟩
    have own9 := (R.o1.blk (w' := W9) (fun k hk => by have := (R.o1.lt k hk).1; exact ot k (by omega) (by omega) (by omega))).below (w' := W9.drew) (_root_.Go.below_drewN (Below.refl _ _) 1)
    have pwn9 := (R.o2.blk (w' := W9) (fun k hk => by have := (R.o2.lt k hk).1; exact ot k (by omega) (by omega) (by omega))).below (w' := W9.drew) (_root_.Go.below_drewN (Below.refl _ _) 1)
    have own10 := own9.grown hgr hrr
    have pwn10 := pwn9.grown hgr hrr
    have bel10 : Below S w (W9.drew.putObj D (.deferred none)) := (R.bel.trans b9.drew).trans (grown_below hgr (by have := R.sz; show S ≤ W9.heap.size; omega) (fun k hk => by cases hk; omega))
    obtain ⟨c0', _⟩ := cell1 (cells_grown hgr hrr g0)
    obtain ⟨c1', _⟩ := cell1 (cells_grown hgr hrr g1)
    obtain ⟨c2', _⟩ := cell1 (cells_grown hgr hrr g2)
    have htd := run_takeDeferred (P := Tryd.prog) (w := W9.drew) hK9
    generalize hW10 : W9.drew.putObj D (.deferred none) = W10 at bel10 c0' c1' c2' htd own10 pwn10
    have hq := HQ.out ns ts 0 (.slice av N1 cv) (.slice au N2 cu) W10 hnm (by rw [HS.out]; exact own10.base (by omega)) (by rw [HS.out]; exact pwn10.base (by omega)) (by rw [HS.out]; exact bel10)
    have HQQ := hidR hq
    have HC := hidR (And.intro c0' (And.intro c1' c2'))
    have HTD := hidR htd
    clear hW9 g0 g1 g2 ot kk b9 z9 hgr hrr bel10 c0' c1' c2' htd hq hW10 own9 pwn9 own10 pwn10 hnm hn1 hn2 hgv s0 R0
    gi_wp2
    gi_region
    all_goals (rw [HW9.out]; gi_wp2; refine ⟨by simp, .inl ⟨_, _, rfl, HTD.out, ?_⟩⟩; obtain ⟨c0', c1', c2'⟩ := HC.out; exact ⟨.tuple #[.slice av N1 cv, .slice au N2 cu, .nilIface], by simp [results, Tryd.results5, go_sem, c0', c1', c2'], HQQ.out⟩)
  case stop =>
    rintro D c pre W hD hpre ⟨rfl, E, R, hpar⟩ hK
    gi_wp2
    refine ⟨by simp, .inl ⟨_, _, rfl, run_takeDeferred hK, ?_⟩⟩
    have hgr := grownBy_putObj' W D (.deferred none)
    have hrr : ∀ r, some D = some r → S + 4 ≤ r ∧ ∃ o : Obj, W.heap[r]? = some o ∧ o.isCells = false := fun r e => by
      cases e
      exact ⟨by omega, _, hK, rfl⟩
    have R10 := R.turn hgr hrr
    generalize W.putObj D (.deferred none) = W10 at R10 ⊢
    obtain ⟨c0', _⟩ := cell1 R10.q0
    obtain ⟨c1', _⟩ := cell1 R10.q1
    obtain ⟨c2', _⟩ := cell1 R10.q2
    have hq := HQ.out [] [] E (.slice none 0 0) (.slice none 0 0) W10 hpar (OwnS.nil _ _) (OwnS.nil _ _) (by rw [HS.out]; exact R10.bel)
    exact ⟨.tuple #[.slice none 0 0, .slice none 0 0, erO E], by simp [results, Tryd.results5, go_sem, c0', c1', c2'], hq⟩
end Go.Proofs.YtjhofmmmlemfcaaDoor
