/- What Parse returns (package rule): 'parS' of the text's lines. -/
import Derived.Test.YthnkjfgiclolaaaGreatDoorRulePa
namespace Go.Proofs.YthnkjfgiclolaaaGreatDoor
open Go.RowKit
set_option linter.unusedVariables false
set_option maxRecDepth 10000
attribute [local go_sem] Oper.semAt_some

theorem PaSt.new {s : ByteArray} (w : World) : PaSt w (((((w.alloc (.cells #[.slice none 0 0] 22)).alloc (.cells #[.int .i64 0] 3)).alloc (.cells #[.nilIface] 26)).alloc (.cells #[.slice none 0 0] 22)).alloc (.cells #[.string s] 9)) w.heap.size [] (.slice none 0 0) := by
  have z1 : (w.alloc (.cells #[.slice none 0 0] 22)).heap.size = w.heap.size + 1 := by simp
  have b1 : Below w.heap.size w (w.alloc (.cells #[.slice none 0 0] 22)) := (Below.refl _ _).alloc (Nat.le_refl _) _
  have c1 := heap_alloc_new w (.cells #[.slice none 0 0] 22)
  generalize w.alloc (.cells #[.slice none 0 0] 22) = W1 at z1 b1 c1 ⊢
  have z2 : (W1.alloc (.cells #[.int .i64 0] 3)).heap.size = w.heap.size + 2 := by simp; omega
  have b2 : Below W1.heap.size W1 (W1.alloc (.cells #[.int .i64 0] 3)) := (Below.refl _ _).alloc (Nat.le_refl _) _
  have c2 := heap_alloc_new W1 (.cells #[.int .i64 0] 3)
  rw [z1] at c2
  have c1 := (b2.block _ (by omega)).trans c1
  have b2 := b1.trans (b2.mono b1.size)
  generalize W1.alloc (.cells #[.int .i64 0] 3) = W2 at z2 b2 c1 c2 ⊢
  have z3 : (W2.alloc (.cells #[.nilIface] 26)).heap.size = w.heap.size + 3 := by simp; omega
  have b3 : Below W2.heap.size W2 (W2.alloc (.cells #[.nilIface] 26)) := (Below.refl _ _).alloc (Nat.le_refl _) _
  have c3 := heap_alloc_new W2 (.cells #[.nilIface] 26)
  rw [z2] at c3
  have c1 := (b3.block _ (by omega)).trans c1
  have c2 := (b3.block _ (by omega)).trans c2
  have b3 := b2.trans (b3.mono b2.size)
  generalize W2.alloc (.cells #[.nilIface] 26) = W3 at z3 b3 c1 c2 c3 ⊢
  have z4 : (W3.alloc (.cells #[.slice none 0 0] 22)).heap.size = w.heap.size + 4 := by simp; omega
  have b4 : Below W3.heap.size W3 (W3.alloc (.cells #[.slice none 0 0] 22)) := (Below.refl _ _).alloc (Nat.le_refl _) _
  have c4 := heap_alloc_new W3 (.cells #[.slice none 0 0] 22)
  rw [z3] at c4
  have c1 := (b4.block _ (by omega)).trans c1
  have c2 := (b4.block _ (by omega)).trans c2
  have c3 := (b4.block _ (by omega)).trans c3
  have b4 := b3.trans (b4.mono b3.size)
  generalize W3.alloc (.cells #[.slice none 0 0] 22) = W4 at z4 b4 c1 c2 c3 c4 ⊢
  have b5 : Below W4.heap.size W4 (W4.alloc (.cells #[.string s] 9)) := (Below.refl _ _).alloc (Nat.le_refl _) _
  exact ⟨(b5.block _ (by omega)).trans c1, (b5.block _ (by omega)).trans c2, (b5.block _ (by omega)).trans c3, (b5.block _ (by omega)).trans c4, OwnRl.nil _ _, (fun x hx => by cases hx), b4.trans (b5.mono b4.size), by simp; omega⟩
/-- Three variables are stored, in blocks of their own. -/
theorem store3 {W : World} {S : Nat} {a b c : Value} {t1 t2 t3 : TypeId} {u0 u1 u2 : Value} (h0 : W.heap[S]? = some (.cells #[u0] t1 (0, 0))) (h1 : W.heap[S + 1]? = some (.cells #[u1] t2 (0, 0))) (h2 : W.heap[S + 2]? = some (.cells #[u2] t3 (0, 0))) :
    ∃ W', ((W.setCell ⟨S, 0, none⟩ a).setCell ⟨S + 1, 0, none⟩ b).setCell ⟨S + 2, 0, none⟩ c = W' ∧ W'.heap[S]? = some (.cells #[a] t1 (0, 0)) ∧ W'.heap[S + 1]? = some (.cells #[b] t2 (0, 0)) ∧ W'.heap[S + 2]? = some (.cells #[c] t3 (0, 0)) ∧ (∀ k, k ≠ S → k ≠ S + 1 → k ≠ S + 2 → W'.heap[k]? = W.heap[k]?) ∧ KeepsOthers W W' ∧ Below S W W' ∧ W'.heap.size = W.heap.size := by
  have e0 := heap_setCell_same W S 0 _ _ a h0
  have k1 := (heap_setCell_other W ⟨S, 0, none⟩ (S + 1) a (by simp)).trans h1
  have k2 := (heap_setCell_other W ⟨S, 0, none⟩ (S + 2) a (by simp)).trans h2
  have ot1 := fun k (h : k ≠ S) => heap_setCell_other W ⟨S, 0, none⟩ k a h
  have kk1 := KeepsOthers.setCell W ⟨S, 0, none⟩ a
  have b1 := (Below.refl S W).setCell (p := ⟨S, 0, none⟩) (Nat.le_refl _) a
  have z1 : (W.setCell ⟨S, 0, none⟩ a).heap.size = W.heap.size := by simp [World.setCell]
  generalize W.setCell ⟨S, 0, none⟩ a = W1 at e0 k1 k2 ot1 kk1 b1 z1 ⊢
  have f1 := heap_setCell_same W1 (S + 1) 0 _ _ b k1
  have f0 := (heap_setCell_other W1 ⟨S + 1, 0, none⟩ S b (by simp)).trans e0
  have f2 := (heap_setCell_other W1 ⟨S + 1, 0, none⟩ (S + 2) b (by simp)).trans k2
  have ot2 := fun k (h : k ≠ S + 1) => heap_setCell_other W1 ⟨S + 1, 0, none⟩ k b h
  have kk2 := KeepsOthers.setCell W1 ⟨S + 1, 0, none⟩ b
  have b2 := b1.setCell (p := ⟨S + 1, 0, none⟩) (Nat.le_succ S) b
  have z2 : (W1.setCell ⟨S + 1, 0, none⟩ b).heap.size = W1.heap.size := by simp [World.setCell]
  generalize W1.setCell ⟨S + 1, 0, none⟩ b = W2 at f0 f1 f2 ot2 kk2 b2 z2 ⊢
  have g2 := heap_setCell_same W2 (S + 2) 0 _ _ c f2
  have g0 := (heap_setCell_other W2 ⟨S + 2, 0, none⟩ S c (by simp)).trans f0
  have g1 := (heap_setCell_other W2 ⟨S + 2, 0, none⟩ (S + 1) c (by simp)).trans f1
  refine ⟨_, rfl, g0, g1, g2, fun k x0 x1 x2 => ?_, (kk1.trans kk2).trans (KeepsOthers.setCell W2 _ c), b2.setCell (p := ⟨S + 2, 0, none⟩) (by show S ≤ S + 2; omega) c, by simp [World.setCell]; omega⟩
  exact (heap_setCell_other W2 ⟨S + 2, 0, none⟩ k c x2).trans ((ot2 k x1).trans (ot1 k x0))
theorem readO_writ {x : List UInt8} {r : Rl} (h : readO x = some r) : Writ r := by
  unfold readO at h
  split at h
  · rename_i h1
    cases h
    exact loose_writ h1.1
  · cases h
theorem box_news {w : World} {g : Nat} {x : Rx} {t : TypeId} (h : w.heap[g]? = some (.cells (rlCell x).toArray t (0, 0))) : ∀ j u, (rlCell x)[j]? = some u → w.cell? (Addr.add ⟨g, 0, none⟩ j) = some u := by
  intro j u hj
  have add : Addr.add ⟨g, 0, none⟩ j = ⟨g, j, none⟩ := by by_cases hj : j = 0 <;> simp [Addr.add, hj]
  rw [add, cell_of_row w g _ _ _ _ h]
  simpa using hj
theorem OwnRl.cellsAt {W : World} {b : Nat} {v : Value} {rs : List Rx} (h : OwnRl W b v rs) {k : Nat} (hk : v.ownBlock = some k) : ∃ c, W.heap[k]? = some (.cells c 33 (0, 0)) := by
  obtain ⟨_, h2⟩ := h
  rcases h2 with ⟨rfl, _⟩ | ⟨g, cap, cur, rfl, _, hh, _⟩
  · cases hk
  · have e : g = k := by simpa [Value.ownBlock] using hk
    subst e; exact ⟨cur, hh⟩
theorem OwnSp.cellsAt {W : World} {b : Nat} {v : Value} {ps : List Sp} (h : OwnSp W b v ps) {k : Nat} (hk : v.ownBlock = some k) : ∃ c, W.heap[k]? = some (.cells c 42 (0, 0)) := by
  obtain ⟨_, h2⟩ := h
  rcases h2 with ⟨rfl, _⟩ | ⟨g, cap, cur, rfl, _, hh, _⟩
  · cases hk
  · have e : g = k := by simpa [Value.ownBlock] using hk
    subst e; exact ⟨cur, hh⟩
theorem OwnSp.off {W : World} {b b' : Nat} {v v' : Value} {ps : List Sp} {rs : List Rx} (h : OwnSp W b v ps) (h' : OwnRl W b' v' rs) {k : Nat} (hk : v.ownBlock = some k) : ¬ some k = v'.ownBlock := fun e => by
  obtain ⟨c, hc⟩ := h.cellsAt hk
  obtain ⟨c', hc'⟩ := h'.cellsAt e.symm
  rw [hc] at hc'
  have := Option.some.inj hc'
  simp at this
/-- Behind 'l = append(l, r)'. -/
theorem PaSt.more {w W w5 : World} {S : Nat} {rs : List Rx} {v v5 : Value} {x : Rx} {o : Obj} (h : PaSt w W S rs v) (hx : OwnSp W (S + 5) x.2.1 x.1.fr ∧ OwnSp W (S + 5) x.2.2 x.1.tl ∧ x.1.fr.length ≤ 200 ∧ x.1.tl.length ≤ 200)
    (own5 : OwnRl w5 (S + 5) v5 (rs ++ [x])) (gr : (W.alloc o).grownBy w5 v.ownBlock) : PaSt w (w5.setCell ⟨S + 3, 0, none⟩ v5) S (rs ++ [x]) v5 ∧ KeepsOthers W (w5.setCell ⟨S + 3, 0, none⟩ v5) ∧ Left (S + 4) W (w5.setCell ⟨S + 3, 0, none⟩ v5) ∧ w5.cell? ⟨S + 3, 0, none⟩ = some v ∧ w5.frozen? ⟨S + 3, 0, none⟩ = false := by
  have ha : Below W.heap.size W (W.alloc o) := (Below.refl _ _).alloc (Nat.le_refl _) _
  have hA := h.step ha
  have hxA : OwnSp (W.alloc o) (S + 5) x.2.1 x.1.fr ∧ OwnSp (W.alloc o) (S + 5) x.2.2 x.1.tl := ⟨hx.1.below ha, hx.2.1.below ha⟩
  have kA := keeps_below ha
  have lA : Left (S + 4) W (W.alloc o) := ha.block _ (by have := h.sz; omega)
  generalize W.alloc o = A at gr hA hxA kA lA
  have blo : ∀ j, j < S + 5 → w5.heap[j]? = A.heap[j]? := fun j hj => gr.block j (by have := hA.sz; omega) (fun e => by have := (hA.own.block j e.symm).1; omega)
  have sp5 : ∀ {u : Value} {ps : List Sp}, OwnSp A (S + 5) u ps → OwnSp w5 (S + 5) u ps := fun hu => hu.blk (fun k hk => gr.block k (hu.block k hk).2 (hu.off hA.own hk))
  have k5 : KeepsOthers A w5 := KeepsOthers.of_grownBy gr (fun j ob e hj => by
    obtain ⟨c, hc⟩ := hA.own.cellsAt e
    rw [hc] at hj; cases hj; rfl)
  have b5 : Below S A w5 := grown_below gr (by have := hA.sz; omega) (fun k hk => by have := (hA.own.block k hk).1; omega)
  have o6 := (Only.refl (S + 3) w5).setCell 0 v5
  have c3 := cell1 ((blo (S + 3) (by omega)).trans hA.bx)
  refine ⟨⟨?_, ?_, ?_, ?_, ?_, ?_, ?_, ?_⟩, (kA.trans k5).trans (KeepsOthers.setCell w5 _ v5), ?_, c3.1, c3.2⟩
  · exact (o6.block _ (by omega)).trans ((blo _ (by omega)).trans hA.q0)
  · exact (o6.block _ (by omega)).trans ((blo _ (by omega)).trans hA.q1)
  · exact (o6.block _ (by omega)).trans ((blo _ (by omega)).trans hA.q2)
  · exact heap_setCell_same w5 (S + 3) 0 _ _ v5 ((blo (S + 3) (by omega)).trans hA.bx)
  · exact own5.blk (fun k hk => o6.block k (by have := (own5.block k hk).1; omega))
  · intro y hy
    rcases List.mem_append.1 hy with hy | hy
    · exact ⟨(sp5 (hA.pts y hy).1).only o6 (by omega), (sp5 (hA.pts y hy).2.1).only o6 (by omega), (hA.pts y hy).2.2⟩
    · rw [List.mem_singleton] at hy
      subst hy
      exact ⟨(sp5 hxA.1).only o6 (by omega), (sp5 hxA.2).only o6 (by omega), hx.2.2⟩
  · exact o6.below (by omega) (hA.bel.trans b5)
  · rw [o6.size]; exact Nat.le_trans hA.sz gr.size
  · exact (o6.block _ (by omega)).trans ((blo _ (by omega)).trans lA)
theorem OwnRl.snoc {w : World} {b N : Nat} {v : Value} {rs : List Rx} {x : Rx} (e : (rs.map Prod.fst).length = N) (h : w.ownsRow b 33 11 v (N + 1) (rlCells rs ++ rlCell x)) : OwnRl w b v (rs ++ [x]) := by
  unfold OwnRl
  rw [List.length_map] at e
  rw [rlCells_append, List.length_append, e]
  have : rlCells [x] = rlCell x := by simp [rlCells]
  rw [this]
  exact h
theorem OwnRl.is {w : World} {b : Nat} {v : Value} {rs : List Rx} (h : OwnRl w b v rs) : ∃ a n c, v = .slice a n c := by
  obtain ⟨a, c, e⟩ := h.len
  exact ⟨a, _, c, e⟩
theorem paX_drew {w W9 : World} {S N : Nat} {all pre : List (List UInt8)} {E : Int} (g0 : W9.heap[S]? = some (.cells #[.slice none 0 0] 22 (0, 0))) (g1 : W9.heap[S + 1]? = some (.cells #[.int .i64 (N : Int)] 3 (0, 0))) (g2 : W9.heap[S + 2]? = some (.cells #[erV E] 26 (0, 0))) (hb : Below S w W9) (hz : S + 5 ≤ W9.heap.size) (hp : parS [] all = ([], N, E)) (hE : E ≠ 0) : paX w S all .ret pre W9.drew :=
  ⟨rfl, N, E, ⟨g0, g1, g2, hb.drew, hz⟩, hp, hE⟩
set_option maxHeartbeats 16000000 in
theorem ruParse_any (text : List UInt8) (w : World) (hl : text.length ≤ 140737488355328) (hll : ∀ x ∈ lnsL text, x.length ≤ 1048576) (htx : TxE w) (hwd : Wrds w) :
    Calls Tryz.prog 11 #[.string (mkB text)] w fun e w' => ∃ rs v, rs.map Prod.fst = (parS [] (lnsL text)).1 ∧ e = .returned (.tuple #[v, .int .i64 ((parS [] (lnsL text)).2.1 : Int), erV (parS [] (lnsL text)).2.2]) ∧ OwnRl w' w.heap.size v rs ∧ PtsO w' w.heap.size rs ∧ Below w.heap.size w w' := by
  obtain ⟨all, hall⟩ : ∃ all, lnsL text = all := ⟨_, rfl⟩
  rw [hall]
  have HALL : Hid (lnsL text = all) := hall
  obtain ⟨Q, hQ⟩ : ∃ Q : Ending → World → Prop, Q = fun e w' => ∃ rs v, rs.map Prod.fst = (parS [] all).1 ∧ e = .returned (.tuple #[v, .int .i64 ((parS [] all).2.1 : Int), erV (parS [] all).2.2]) ∧ OwnRl w' w.heap.size v rs ∧ PtsO w' w.heap.size rs ∧ Below w.heap.size w w' := ⟨_, rfl⟩
  have HQ : Hid (∀ rs v w', rs.map Prod.fst = (parS [] all).1 → OwnRl w' w.heap.size v rs → PtsO w' w.heap.size rs → Below w.heap.size w w' → Q (.returned (.tuple #[v, .int .i64 ((parS [] all).2.1 : Int), erV (parS [] all).2.2])) w') := by rw [hQ]; exact fun rs v w' h1 h2 h3 h4 => ⟨rs, v, h1, rfl, h2, h3, h4⟩
  rw [← hQ]
  clear hQ hall
  refine (callsIn_wide (n := 3)).1 ?_
  have HTX : Hid (TxE w) := htx
  have HWD : Hid (Wrds w) := hwd
  have R0 := PaSt.new (s := mkB text) w
  obtain ⟨W0, hW0⟩ : ∃ W0, (((((w.alloc (.cells #[.slice none 0 0] 22)).alloc (.cells #[.int .i64 0] 3)).alloc (.cells #[.nilIface] 26)).alloc (.cells #[.slice none 0 0] 22)).alloc (.cells #[.string (mkB text)] 9)) = W0 := ⟨_, rfl⟩
  have z0 : W0.heap.size = w.heap.size + 5 := by rw [← hW0]; simp
  have s0 : StrAt W0 (w.heap.size + 4) text := by
    have := heap_alloc_new ((((w.alloc (.cells #[.slice none 0 0] 22)).alloc (.cells #[.int .i64 0] 3)).alloc (.cells #[.nilIface] 26)).alloc (.cells #[.slice none 0 0] 22)) (.cells #[.string (mkB text)] 9)
    rw [hW0] at this
    rw [show ((((w.alloc (.cells #[.slice none 0 0] 22)).alloc (.cells #[.int .i64 0] 3)).alloc (.cells #[.nilIface] 26)).alloc (.cells #[.slice none 0 0] 22)).heap.size = w.heap.size + 4 by simp] at this
    exact this
  rw [hW0] at R0
  have hlf := fun w => linesF_any (mkB text) w
  refine callsIn_of_wp_marks Tryz.func11 rfl trivial ?_ rfl
  simp only [Tryz.ntmps11, List.size_toArray, List.length_cons, List.length_nil, Nat.reduceAdd, Nat.reduceSub, Array.replicate_succ, Array.replicate_zero, List.push_toArray, List.append_toArray, List.nil_append, List.cons_append]
  gi_wp2_with (refine ⟨trivial, ?_⟩; refine (callsIn_wide.2 (hlf _)).mono ?_; rintro e w' ⟨rfl, hw'⟩; rw [hw']; clear hw')
  have HW0 : Hid True := trivial
  clear hW0 hlf
  obtain ⟨S, hS⟩ : ∃ S, w.heap.size = S := ⟨_, rfl⟩
  have HS : Hid (w.heap.size = S) := hS
  rw [hS] at R0 z0 s0 ⊢
  clear hS
  rw [show S + 1 + 1 = S + 2 from rfl, show S + 2 + 1 = S + 3 from rfl, show S + 3 + 1 = S + 4 from rfl]
  have hLL : Hid (∀ x ∈ lnsL text, x.length ≤ 1048576) := hll
  clear hll
  have hgv := lines_gives 2 (S + 4) text W0 s0 (by omega)
  rw [HALL.out] at hgv hLL
  refine wp_range_box rfl (by decide) (gf := 53) (lb := #[.pointer (some ⟨S + 4, 0, none⟩)]) rfl trivial (enters_of Tryz.func53 (by kernel_rfl) rfl) (B := S + 4) (all := all) (by omega) hgv (fun x => rfl)
    (paI w S all) (paX w S all) (by rw [z0]; exact paI_own w S all) (fun c => by rw [z0]; exact paX_own w S all c) (paI_free w S all) (paX_free w S all) ⟨[], .slice none 0 0, R0, by simp, rfl⟩
    (fun x => { tmps := #[.string (mkB text), undef, .pointer (some ⟨S, 0, none⟩), .pointer (some ⟨S + 1, 0, none⟩), .pointer (some ⟨S + 2, 0, none⟩), .pointer (some ⟨S + 3, 0, none⟩), .string (mkB x), undef, undef, .string (mkB text), .func (.func 53) #[] #[.pointer (some ⟨S + 4, 0, none⟩)], .string (mkB x), undef, undef, undef, undef, undef, undef, undef, undef, undef, undef, undef, undef, undef, undef, undef, undef, undef, undef, undef, undef, undef, undef, undef, undef, undef, undef, undef], defers := [] }) ?assign ?body ?done ?stop
  case assign =>
    intro l x W K hK
    gi_wp2
    exact hK
  case body =>
    rintro l pre x W ⟨rs, v, R, h20, hpar⟩ hpre hsz
    obtain ⟨rest, hrest⟩ := hpre
    have hx : x ∈ all := by rw [← hrest]; simp
    have hxl := hLL.out x hx
    have hdrop : all.drop pre.length = x :: rest := by rw [← hrest]; simp
    have HD2 : Hid (all.drop (pre ++ [x]).length = rest) := by rw [Hid, ← hrest]; simp
    rw [hdrop] at hpar
    have hbw : Below w.heap.size w W := by rw [HS.out]; exact R.bel
    have hrd := ruRead_any x W hxl (HTX.out.below hbw) (HWD.out.below hbw)
    obtain ⟨av, cv, hv⟩ := R.own.len
    obtain ⟨N, hN⟩ : ∃ N, rs.length = N := ⟨_, rfl⟩
    rw [hN] at hv h20
    subst hv
    have HN : Hid ((rs.map Prod.fst).length = N) := by rw [Hid, List.length_map]; exact hN
    have HPAR : Hid (parS [] all = parS (rs.map Prod.fst) (x :: rest)) := hpar
    have HR : Hid (PaSt w W S rs (.slice av N cv)) := R
    clear hrest hx hdrop hpar R hN hgv s0 R0
    rcases hro : readO x with _ | r
    · have hrd' : Calls Tryz.prog 25 #[.string (mkB x)] W fun e w' => e = .returned (.tuple #[.agg #[.bool false, .bool false, .bool false, .int .i64 0, .int .i64 0, .int .i64 0, .int .i64 0, .int .i64 0, .int .i64 0, .slice none 0 0, .slice none 0 0], .iface 45 (.int .i64 2)]) ∧ Below W.heap.size W w' := by
        refine hrd.mono ?_
        rintro e w' ⟨h | ⟨_, rfl⟩, hb⟩
        · obtain ⟨r, fv, tv, h1, _⟩ := h
          rw [hro] at h1; cases h1
        · exact ⟨rfl, hb⟩
      have hlE : lineE (rs.map Prod.fst).length x = 2 := by unfold lineE; rw [hro]
      have HEND : Hid (parS [] all = ([], N, 2)) := by rw [Hid, HPAR.out, parS_bad (by rw [hlE]; decide), hlE, HN.out]
      clear hrd hlE hro
      gi_upto_region 5 with (refine ⟨trivial, ?_⟩; refine (CallsIn.inRound l (callsIn_wide.2 hrd')).mono ?_; rintro e W1 ⟨rfl, b1⟩)
      have b2 : Below W1.heap.size W1 (W1.alloc (.cells #[.bool false, .bool false, .bool false, .int .i64 0, .int .i64 0, .int .i64 0, .int .i64 0, .int .i64 0, .int .i64 0, .slice none 0 0, .slice none 0 0] 33)) := (Below.refl _ _).alloc (Nat.le_refl _) _
      have R2 := (HR.out.step b1).step b2
      have k2 := (keeps_below b1).trans (keeps_below b2)
      obtain ⟨W2, hW2⟩ : ∃ W2, W1.alloc (.cells #[.bool false, .bool false, .bool false, .int .i64 0, .int .i64 0, .int .i64 0, .int .i64 0, .int .i64 0, .int .i64 0, .slice none 0 0, .slice none 0 0] 33) = W2 := ⟨_, rfl⟩
      rw [hW2] at R2 k2 ⊢
      have HR2 : Hid (PaSt w W2 S rs (.slice av N cv)) := R2
      have HK2 : Hid (KeepsOthers W W2) := k2
      clear hrd' b1 b2 hW2 R2 k2
      obtain ⟨c3, f3⟩ := cell1 HR2.out.bx
      obtain ⟨c0, f0⟩ := cell1 HR2.out.q0
      obtain ⟨c1, f1⟩ := cell1 HR2.out.q1
      obtain ⟨c2, f2⟩ := cell1 HR2.out.q2
      obtain ⟨W9, hW9, g0, g1, g2, ot9, kk9, b9, z9⟩ := store3 (a := .slice none 0 0) (b := .int .i64 (N : Int)) (c := .iface 45 (.int .i64 2)) HR2.out.q0 HR2.out.q1 HR2.out.q2
      have HW9 : Hid (((W2.setCell ⟨S, 0, none⟩ (.slice none 0 0)).setCell ⟨S + 1, 0, none⟩ (.int .i64 (N : Int))).setCell ⟨S + 2, 0, none⟩ (.iface 45 (.int .i64 2)) = W9) := hW9
      have HFIN : Hid (KeepsOthers W W9.drew ∧ paX w S all .ret (pre ++ [x]) W9.drew) := ⟨(HK2.out.trans kk9).trans (KeepsOthers.drew _), paX_drew (E := 2) g0 g1 g2 (HR2.out.bel.trans b9) (by rw [z9]; exact HR2.out.sz) HEND.out (by decide)⟩
      clear hW9 g0 g1 g2 ot9 kk9 b9 z9
      gi_wp2
      gi_region
      all_goals (rw [HW9.out]; gi_wp2; exact HFIN.out)
    · have hwt := readO_writ hro
      have hrd' : Calls Tryz.prog 25 #[.string (mkB x)] W fun e w' => ∃ af nf cf at' nt ct, e = .returned (.tuple #[.agg #[.bool r.pass, .bool r.quick, .bool r.keep, .int .i64 r.way, .int .i64 r.kind, .int .i64 r.sa, .int .i64 r.sl, .int .i64 r.da, .int .i64 r.dl, .slice af nf cf, .slice at' nt ct], .nilIface]) ∧ OwnSp w' W.heap.size (.slice af nf cf) r.fr ∧ OwnSp w' W.heap.size (.slice at' nt ct) r.tl ∧ Below W.heap.size W w' := by
        refine hrd.mono ?_
        rintro e w' ⟨h | ⟨h, _⟩, hb⟩
        · obtain ⟨r2, fv, tv, h1, rfl, h2, h3⟩ := h
          rw [hro] at h1
          cases h1
          obtain ⟨af, cf, hf⟩ := h2.len
          obtain ⟨at', ct, ht⟩ := h3.len
          subst hf ht
          exact ⟨af, _, cf, at', _, ct, rfl, h2, h3, hb⟩
        · rw [hro] at h; cases h
      have HWT : Hid (Writ r) := hwt
      have HRO : Hid (readO x = some r) := hro
      clear hrd hwt hro
      gi_upto_region 5 with (refine ⟨trivial, ?_⟩; refine (CallsIn.inRound l (callsIn_wide.2 hrd')).mono ?_; rintro e W1 ⟨af, nf, cf, at', nt, ct, rfl, of1, ot1, b1⟩)
      have b2 : Below W1.heap.size W1 (W1.alloc (.cells #[.bool r.pass, .bool r.quick, .bool r.keep, .int .i64 r.way, .int .i64 r.kind, .int .i64 r.sa, .int .i64 r.sl, .int .i64 r.da, .int .i64 r.dl, .slice af nf cf, .slice at' nt ct] 33)) := (Below.refl _ _).alloc (Nat.le_refl _) _
      have hR2 := RlAt.new W1 r (.slice af nf cf) (.slice at' nt ct)
      have R2 := (HR.out.step b1).step b2
      have k2 := (keeps_below b1).trans (keeps_below b2)
      have l2 : W.heap.size ≤ W1.heap.size := b1.size
      have of2 := (of1.below b2).base (b' := S + 5) HR.out.sz
      have ot2 := (ot1.below b2).base (b' := S + 5) HR.out.sz
      have lf2 : Left (S + 4) W (W1.alloc (.cells #[.bool r.pass, .bool r.quick, .bool r.keep, .int .i64 r.way, .int .i64 r.kind, .int .i64 r.sa, .int .i64 r.sl, .int .i64 r.da, .int .i64 r.dl, .slice af nf cf, .slice at' nt ct] 33)) := (b2.block _ (by have := HR.out.sz; omega)).trans (b1.block _ (by have := HR.out.sz; omega))
      obtain ⟨W2, hW2⟩ : ∃ W2, W1.alloc (.cells #[.bool r.pass, .bool r.quick, .bool r.keep, .int .i64 r.way, .int .i64 r.kind, .int .i64 r.sa, .int .i64 r.sl, .int .i64 r.da, .int .i64 r.dl, .slice af nf cf, .slice at' nt ct] 33) = W2 := ⟨_, rfl⟩
      rw [hW2] at R2 k2 hR2 of2 ot2 lf2 ⊢
      have HR2 : Hid (PaSt w W2 S rs (.slice av N cv)) := R2
      have HK2 : Hid (KeepsOthers W W2) := k2
      have HOF : Hid (OwnSp W2 (S + 5) (.slice af nf cf) r.fr) := of2
      have HOT : Hid (OwnSp W2 (S + 5) (.slice at' nt ct) r.tl) := ot2
      have HLF : Hid (Left (S + 4) W W2) := lf2
      obtain ⟨X, hX⟩ : ∃ X, W1.heap.size = X := ⟨_, rfl⟩
      rw [hX] at hR2 ⊢
      clear hrd' b1 b2 hW2 R2 k2 of1 ot1 of2 ot2 l2 hX lf2
      obtain ⟨c3, f3⟩ := cell1 HR2.out.bx
      obtain ⟨c0, f0⟩ := cell1 HR2.out.q0
      obtain ⟨c1, f1⟩ := cell1 HR2.out.q1
      obtain ⟨c2, f2⟩ := cell1 HR2.out.q2
      by_cases hN20 : N = 20
      · have hn : ((N : Int) == 20) = true := by rw [hN20]; rfl
        have hlE : lineE (rs.map Prod.fst).length x = 4 := by unfold lineE; rw [HRO.out, HN.out]; simp only; rw [if_pos hN20]
        have HEND : Hid (parS [] all = ([], N, 4)) := by rw [Hid, HPAR.out, parS_bad (by rw [hlE]; decide), hlE, HN.out]
        clear hlE hN20
        obtain ⟨W9, hW9, g0, g1, g2, ot9, kk9, b9, z9⟩ := store3 (a := .slice none 0 0) (b := .int .i64 (N : Int)) (c := .iface 45 (.int .i64 4)) HR2.out.q0 HR2.out.q1 HR2.out.q2
        have HW9 : Hid (((W2.setCell ⟨S, 0, none⟩ (.slice none 0 0)).setCell ⟨S + 1, 0, none⟩ (.int .i64 (N : Int))).setCell ⟨S + 2, 0, none⟩ (.iface 45 (.int .i64 4)) = W9) := hW9
        have HFIN : Hid (KeepsOthers W W9.drew ∧ paX w S all .ret (pre ++ [x]) W9.drew) := ⟨(HK2.out.trans kk9).trans (KeepsOthers.drew _), paX_drew (E := 4) g0 g1 g2 (HR2.out.bel.trans b9) (by rw [z9]; exact HR2.out.sz) HEND.out (by decide)⟩
        clear hW9 g0 g1 g2 ot9 kk9 b9 z9
        gi_wp2
        gi_region
        all_goals (rw [HW9.out]; gi_wp2; exact HFIN.out)
      · have hn : ((N : Int) == 20) = false := by rw [beq_eq_false_iff_ne]; omega
        have hN19 : N < 20 := by omega
        have hlE : lineE (rs.map Prod.fst).length x = ruE r := by unfold lineE; rw [HRO.out, HN.out]; simp only; rw [if_neg hN20]
        have hck := ruCheck_any r (.slice af nf cf) (.slice at' nt ct) W2 HOF.out.spns HOT.out.spns (by have := HWT.out.frl; omega) (by have := HWT.out.tll; omega)
        unfold rlV at hck
        obtain ⟨d0, d1, d2, d3, d4, d5, d6, d7, d8, d9, d10⟩ := hR2.cells
        have HRL : Hid (RlAt W2 X r (.slice af nf cf) (.slice at' nt ct)) := hR2
        clear hN20 hR2
        by_cases hr0 : ruE r = 0
        · rw [hr0, show erV 0 = .nilIface from rfl] at hck
          have HNX : Hid (parS [] all = parS ((rs ++ [(r, Value.slice af nf cf, Value.slice at' nt ct)]).map Prod.fst) rest) := by
            rw [Hid, HPAR.out, parS_ok (by rw [hlE]; exact hr0) HRO.out, List.map_append]; rfl
          clear hlE hr0
          gi_upto_region 11 with (refine ⟨trivial, ?_⟩; refine (CallsIn.inRound l (callsIn_wide.2 hck)).mono ?_; rintro e W3 ⟨rfl, b3⟩)
          have HR3 : Hid (PaSt w W3 S rs (.slice av N cv)) := HR2.out.step b3
          have HK3 : Hid (KeepsOthers W W3) := HK2.out.trans (keeps_below b3)
          have HL3 : Hid (Left (S + 4) W W3) := (b3.block _ (by have := HR2.out.sz; omega)).trans HLF.out
          have HX3 : Hid (OwnSp W3 (S + 5) (.slice af nf cf) r.fr ∧ OwnSp W3 (S + 5) (.slice at' nt ct) r.tl ∧ r.fr.length ≤ 200 ∧ r.tl.length ≤ 200) := ⟨HOF.out.below b3, HOT.out.below b3, HWT.out.frl, HWT.out.tll⟩
          have hR3 := HRL.out.below HRL.out.lt b3
          clear hck b3 d0 d1 d2 d3 d4 d5 d6 d7 d8 d9 d10 c0 c1 c2 c3 f0 f1 f2 f3 HRL HOF HOT HLF HR2 HK2 hn
          obtain ⟨d0, d1, d2, d3, d4, d5, d6, d7, d8, d9, d10⟩ := hR3.cells
          obtain ⟨c3, f3⟩ := cell1 HR3.out.bx
          obtain ⟨i0, hi, hz0, hz1, hz2⟩ := info_parts Tryz.infoRl
          have hnw := box_news (x := (r, .slice af nf cf, .slice at' nt ct)) (heap_alloc_new W3 (.cells #[.bool r.pass, .bool r.quick, .bool r.keep, .int .i64 r.way, .int .i64 r.kind, .int .i64 r.sa, .int .i64 r.sl, .int .i64 r.da, .int .i64 r.dl, .slice af nf cf, .slice at' nt ct] 33))
          have hon : ∀ u ∈ rlCell (r, .slice af nf cf, .slice at' nt ct), u.oneCell' = true := (PtsOf.one (w := W3) ⟨HX3.out.1.spns, HX3.out.2.1.spns, by have := HX3.out.2.2.1; show r.fr.length ≤ _; omega, by have := HX3.out.2.2.2; show r.tl.length ≤ _; omega⟩)
          have hrow : (W3.alloc (.cells #[.bool r.pass, .bool r.quick, .bool r.keep, .int .i64 r.way, .int .i64 r.kind, .int .i64 r.sa, .int .i64 r.sl, .int .i64 r.da, .int .i64 r.dl, .slice af nf cf, .slice at' nt ct] 33)).ownsRow (S + 5) 33 11 (.slice av N cv) N (rlCells rs) := by
            have := HR3.out.own.alloc (.cells #[.bool r.pass, .bool r.quick, .bool r.keep, .int .i64 r.way, .int .i64 r.kind, .int .i64 r.sa, .int .i64 r.sl, .int .i64 r.da, .int .i64 r.dl, .slice af nf cf, .slice at' nt ct] 33)
            unfold OwnRl at this
            have e : rs.length = N := by have := HN.out; rw [List.length_map] at this; exact this
            rw [e] at this
            exact this
          have hb5 : S + 5 ≤ (W3.alloc (.cells #[.bool r.pass, .bool r.quick, .bool r.keep, .int .i64 r.way, .int .i64 r.kind, .int .i64 r.sa, .int .i64 r.sl, .int .i64 r.da, .int .i64 r.dl, .slice af nf cf, .slice at' nt ct] 33)).heap.size := by have := HR3.out.sz; simp; omega
          have hb63 : N + 1 ≤ maxLen := by unfold maxLen; omega
          clear hR3
          gi_wp2_with (gi_at_builtin; refine wpListIn_append_own _ rfl _ _ 22 rfl (S + 5) 33 i0 _ 11 104 Tryz.underlying22 hi hz0 hz1 hz2 rfl (by decide) _ _ _ rfl hrow ⟨W3.heap.size, 0, none⟩ 1 1 (rlCell (r, .slice af nf cf, .slice at' nt ct)) rfl rfl hnw hon hb63 (by omega) hb5 ?_; intro v5 w5 own5 grow5 nil5; have own6 := OwnRl.snoc HN.out own5; obtain ⟨m1, m2, m3, m4, m5⟩ := PaSt.more HR3.out HX3.out own6 grow5; obtain ⟨a5, n5, k5, hv5⟩ := own6.is; subst hv5; have HM1 : Hid _ := m1; have HM2 : Hid _ := m2; have HM3 : Hid _ := m3; clear own5 own6 grow5 nil5 m1 m2 m3 hnw hon hrow d0 d1 d2 d3 d4 d5 d6 d7 d8 d9 d10 c3 f3)
          refine ⟨HK3.out.trans HM2.out, HM3.out.trans HL3.out, ?_⟩
          exact ⟨_, _, HM1.out, by rw [List.length_append]; have := HN.out; rw [List.length_map] at this; simp; omega, by rw [HD2.out]; exact HNX.out⟩
        · rw [erV_ne hr0] at hck
          have HEND : Hid (parS [] all = ([], N, ruE r)) := by rw [Hid, HPAR.out, parS_bad (by rw [hlE]; exact hr0), hlE, HN.out]
          have HG2 : Hid (.iface 45 (.int .i64 (ruE r)) = erV (ruE r)) := (erV_ne hr0).symm
          have HR0 : Hid (ruE r ≠ 0) := hr0
          generalize ruE r = z at hck HEND HG2 HR0
          clear hlE hr0
          gi_upto_region 9 with (refine ⟨trivial, ?_⟩; refine (CallsIn.inRound l (callsIn_wide.2 hck)).mono ?_; rintro e W3 ⟨rfl, b3⟩)
          have HR3 : Hid (PaSt w W3 S rs (.slice av N cv)) := HR2.out.step b3
          have HK3 : Hid (KeepsOthers W W3) := HK2.out.trans (keeps_below b3)
          clear hck b3 d0 d1 d2 d3 d4 d5 d6 d7 d8 d9 d10 c0 c1 c2 c3 f0 f1 f2 f3 HRL HOF HOT HLF HR2 HK2 hn
          have HR2 := HR3
          have HK2 := HK3
          obtain ⟨c3, f3⟩ := cell1 HR2.out.bx
          obtain ⟨c0, f0⟩ := cell1 HR2.out.q0
          obtain ⟨c1, f1⟩ := cell1 HR2.out.q1
          obtain ⟨c2, f2⟩ := cell1 HR2.out.q2
          obtain ⟨W9, hW9, g0, g1, g2, ot9, kk9, b9, z9⟩ := store3 (a := .slice none 0 0) (b := .int .i64 (N : Int)) (c := .iface 45 (.int .i64 z)) HR2.out.q0 HR2.out.q1 HR2.out.q2
          have HW9 : Hid (((W3.setCell ⟨S, 0, none⟩ (.slice none 0 0)).setCell ⟨S + 1, 0, none⟩ (.int .i64 (N : Int))).setCell ⟨S + 2, 0, none⟩ (.iface 45 (.int .i64 z)) = W9) := hW9
          have HFIN : Hid (KeepsOthers W W9.drew ∧ paX w S all .ret (pre ++ [x]) W9.drew) := ⟨(HK2.out.trans kk9).trans (KeepsOthers.drew _), paX_drew (E := z) g0 g1 (by rw [← HG2.out]; exact g2) (HR2.out.bel.trans b9) (by rw [z9]; exact HR2.out.sz) HEND.out HR0.out⟩
          clear hW9 g0 g1 g2 ot9 kk9 b9 z9
          gi_wp2
          gi_region
          all_goals (rw [HW9.out]; gi_wp2; exact HFIN.out)
  case done =>
    rintro D W hD ⟨rs, v, R, h20, hpar⟩ hK
    obtain ⟨av, cv, hv⟩ := R.own.len
    generalize hNe : rs.length = N at hv
    subst hv
    obtain ⟨c3, f3⟩ := cell1 R.bx
    obtain ⟨c0, f0⟩ := cell1 R.q0
    obtain ⟨c1, f1⟩ := cell1 R.q1
    obtain ⟨c2, f2⟩ := cell1 R.q2
    obtain ⟨W9, hW9, g0, g1, g2, ot, kk, b9, z9⟩ := store3 (a := .slice av N cv) (b := .int .i64 0) (c := .nilIface) R.q0 R.q1 R.q2
    have HW9 : Hid (((W.setCell ⟨S, 0, none⟩ (.slice av N cv)).setCell ⟨S + 1, 0, none⟩ (.int .i64 0)).setCell ⟨S + 2, 0, none⟩ .nilIface = W9) := hW9
    clear hW9
    gi_wp2
    rw [HW9.out]
    have hK9 := kk.same D _ hK rfl
    refine ⟨by simp, .inl ⟨_, _, rfl, run_takeDeferred hK9, ?_⟩⟩
    have hgr := grownBy_putObj' W9 D (.deferred none)
    have hrr : ∀ r, some D = some r → S + 5 ≤ r ∧ ∃ o : Obj, W9.heap[r]? = some o ∧ o.isCells = false := fun r e => by
      cases e
      exact ⟨by omega, _, hK9, rfl⟩
    have own9 := R.own.blk (w' := W9) (fun k hk => by have := (R.own.block k hk).1; exact ot k (by omega) (by omega) (by omega))
    have pts9 : PtsO W9 (S + 5) rs := fun x hx => ⟨(R.pts x hx).1.blk (fun k hk => by have := ((R.pts x hx).1.block k hk).1; exact ot k (by omega) (by omega) (by omega)), (R.pts x hx).2.1.blk (fun k hk => by have := ((R.pts x hx).2.1.block k hk).1; exact ot k (by omega) (by omega) (by omega)), (R.pts x hx).2.2⟩
    have own10 := own9.grown hgr hrr
    have pts10 : PtsO (W9.putObj D (.deferred none)) (S + 5) rs := fun x hx => ⟨(pts9 x hx).1.grown hgr hrr, (pts9 x hx).2.1.grown hgr hrr, (pts9 x hx).2.2⟩
    have bel10 : Below S w (W9.putObj D (.deferred none)) := (R.bel.trans b9).trans (grown_below hgr (by have := R.sz; omega) (fun k hk => by cases hk; omega))
    obtain ⟨c0', _⟩ := cell1 (cells_grown hgr hrr g0)
    obtain ⟨c1', _⟩ := cell1 (cells_grown hgr hrr g1)
    obtain ⟨c2', _⟩ := cell1 (cells_grown hgr hrr g2)
    generalize W9.putObj D (.deferred none) = W10 at own10 pts10 bel10 c0' c1' c2' ⊢
    rw [List.drop_length, show parS (rs.map Prod.fst) [] = (rs.map Prod.fst, 0, 0) from rfl] at hpar
    have hq := HQ.out rs (.slice av N cv) W10 (by rw [hpar]) (by rw [HS.out]; exact own10.base (by omega)) (fun x hx => ⟨by rw [HS.out]; exact (pts10 x hx).1.base (by omega), by rw [HS.out]; exact (pts10 x hx).2.1.base (by omega), (pts10 x hx).2.2⟩) (by rw [HS.out]; exact bel10)
    rw [hpar] at hq
    exact ⟨.tuple #[.slice av N cv, .int .i64 0, .nilIface], by simp [results, Tryz.results11, go_sem, c0', c1', c2'], hq⟩
  case stop =>
    rintro D c pre W hD hpre ⟨rfl, at', E, R, hpar, hE⟩ hK
    gi_wp2
    refine ⟨by simp, .inl ⟨_, _, rfl, run_takeDeferred hK, ?_⟩⟩
    have hgr := grownBy_putObj' W D (.deferred none)
    have hrr : ∀ r, some D = some r → S + 5 ≤ r ∧ ∃ o : Obj, W.heap[r]? = some o ∧ o.isCells = false := fun r e => by
      cases e
      exact ⟨by omega, _, hK, rfl⟩
    have R10 := R.turn hgr hrr
    generalize W.putObj D (.deferred none) = W10 at R10 ⊢
    obtain ⟨c0', _⟩ := cell1 R10.q0
    obtain ⟨c1', _⟩ := cell1 R10.q1
    obtain ⟨c2', _⟩ := cell1 R10.q2
    have hq := HQ.out [] (.slice none 0 0) W10 (by rw [hpar]; rfl) (OwnRl.nil _ _) (fun x hx => by cases hx) (by rw [HS.out]; exact R10.bel)
    rw [hpar] at hq
    exact ⟨.tuple #[.slice none 0 0, .int .i64 (at' : Int), erV E], by simp [results, Tryz.results11, go_sem, c0', c1', c2'], hq⟩
end Go.Proofs.YthnkjfgiclolaaaGreatDoor
