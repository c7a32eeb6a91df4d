/- What 'decide' returns (package plan): the rule that counts. -/
import Derived.Test.YtdellfmkmbabhaaPlanLay
namespace Go.Proofs.Ytdellfmkmbabhaa
open Go.RowKit
set_option linter.unusedVariables false
set_option maxRecDepth 10000

theorem bit_is {F k : Nat} (hF : F < 2 ^ 64) : (bits .and .u64 ((F : Int) / 2 ^ k) 1 == 0) = !F.testBit k := by
  have e : (F : Int) / 2 ^ k = ((F / 2 ^ k : Nat) : Int) := by simp
  have h1 : F / 2 ^ k < 2 ^ 64 := Nat.lt_of_le_of_lt (Nat.div_le_self _ _) hF
  have h2 := and64 h1 (b := 1) (by decide)
  rw [e, show (1 : Int) = ((1 : Nat) : Int) from rfl, h2, Nat.and_one_is_mod, Nat.testBit_eq_decide_div_mod_eq]
  rcases Nat.mod_two_eq_zero_or_one (F / 2 ^ k) with h | h
  · rw [h]; rfl
  · rw [h]; rfl
theorem decF_no {F n : Nat} {q : Rl} {l : List Rl} {acc : Rl × Int} (h : F.testBit n = false) : decF F n (q :: l) acc = decF F (n + 1) l acc := by rw [decF, h]; rfl
theorem decF_quick {F n : Nat} {q : Rl} {l : List Rl} {acc : Rl × Int} (h : F.testBit n = true) (hq : q.quick = true) : decF F n (q :: l) acc = (q, (n : Int)) := by rw [decF, if_pos h, if_pos hq]
theorem decF_yes {F n : Nat} {q : Rl} {l : List Rl} {acc : Rl × Int} (h : F.testBit n = true) (hq : q.quick = false) : decF F n (q :: l) acc = decF F (n + 1) l (q, (n : Int)) := by rw [decF, if_pos h, hq]; rfl
/-- Where 'decide' stands. -/
structure DeSt (w W : World) (S : Nat) (r : Rl) : Prop where
  c0 : W.heap[S]? = some (.cells #[.bool false, .bool false, .bool false] 64 (0, 0))
  c1 : W.heap[S + 1]? = some (.cells #[.bool r.pass, .bool r.quick, .bool r.keep] 64 (0, 0))
  bel : Below S w W
  sz : S + 2 ≤ W.heap.size
theorem DeSt.below {w W W' : World} {S : Nat} {r : Rl} (h : DeSt w W S r) (hb : Below W.heap.size W W') : DeSt w W' S r :=
  ⟨(hb.block _ (by have := h.sz; omega)).trans h.c0, (hb.block _ (by have := h.sz; omega)).trans h.c1, h.bel.trans (hb.mono (by have := h.sz; omega)), Nat.le_trans h.sz hb.size⟩
theorem set3 {W : World} {g : Nat} {a0 a1 a2 : Value} {t : TypeId} (h : W.heap[g]? = some (.cells #[a0, a1, a2] t (0, 0))) (x y z : Value) :
    ∃ W', ((W.setCell ⟨g, 0, none⟩ x).setCell ⟨g, 1, none⟩ y).setCell ⟨g, 2, none⟩ z = W' ∧ W'.heap[g]? = some (.cells #[x, y, z] t (0, 0)) ∧ (∀ k, k ≠ g → W'.heap[k]? = W.heap[k]?) ∧ Below g W W' ∧ W'.heap.size = W.heap.size := by
  have e0 := heap_setCell_same W g 0 _ _ x h
  have ot0 := fun k (hk : k ≠ g) => heap_setCell_other W ⟨g, 0, none⟩ k x hk
  have b0 := (Below.refl g W).setCell (p := ⟨g, 0, none⟩) (Nat.le_refl _) x
  have z0 : (W.setCell ⟨g, 0, none⟩ x).heap.size = W.heap.size := by simp [World.setCell]
  generalize W.setCell ⟨g, 0, none⟩ x = W1 at e0 ot0 b0 z0 ⊢
  have e1 := heap_setCell_same W1 g 1 _ _ y e0
  have ot1 := fun k (hk : k ≠ g) => heap_setCell_other W1 ⟨g, 1, none⟩ k y hk
  have b1 := b0.setCell (p := ⟨g, 1, none⟩) (Nat.le_refl _) y
  have z1 : (W1.setCell ⟨g, 1, none⟩ y).heap.size = W1.heap.size := by simp [World.setCell]
  generalize W1.setCell ⟨g, 1, none⟩ y = W2 at e1 ot1 b1 z1 ⊢
  have e2 := heap_setCell_same W2 g 2 _ _ z e1
  refine ⟨_, rfl, e2, fun k hk => (heap_setCell_other W2 ⟨g, 2, none⟩ k z hk).trans ((ot1 k hk).trans (ot0 k hk)), b1.setCell (p := ⟨g, 2, none⟩) (Nat.le_refl _) z, ?_⟩
  have z2 : (W2.setCell ⟨g, 2, none⟩ z).heap.size = W2.heap.size := by simp [World.setCell]
  omega
theorem DeSt.put {w W : World} {S : Nat} {r : Rl} (h : DeSt w W S r) (q : Rl) : ∃ W', ((W.setCell ⟨S + 1, 0, none⟩ (.bool q.pass)).setCell ⟨S + 1, 1, none⟩ (.bool q.quick)).setCell ⟨S + 1, 2, none⟩ (.bool q.keep) = W' ∧ DeSt w W' S q ∧ ∀ k, k ≠ S + 1 → W'.heap[k]? = W.heap[k]? := by
  obtain ⟨W', h1, h2, h3, h4, h5⟩ := set3 h.c1 (.bool q.pass) (.bool q.quick) (.bool q.keep)
  exact ⟨W', h1, ⟨(h3 _ (by omega)).trans h.c0, h2, h.bel.trans (h4.mono (by omega)), by rw [h5]; exact h.sz⟩, h3⟩
theorem row3 {W : World} {g : Nat} {a0 a1 a2 : Value} {t : TypeId} (h : W.heap[g]? = some (.cells #[a0, a1, a2] t (0, 0))) : (W.cell? ⟨g, 0, none⟩ = some a0 ∧ W.cell? ⟨g, 1, none⟩ = some a1 ∧ W.cell? ⟨g, 2, none⟩ = some a2) ∧ (W.frozen? ⟨g, 0, none⟩ = false ∧ W.frozen? ⟨g, 1, none⟩ = false ∧ W.frozen? ⟨g, 2, none⟩ = false) :=
  ⟨⟨by rw [cell_of_row _ _ _ _ _ _ h]; rfl, by rw [cell_of_row _ _ _ _ _ _ h]; rfl, by rw [cell_of_row _ _ _ _ _ _ h]; rfl⟩, frozen_of_row _ _ _ _ _ h, frozen_of_row _ _ _ _ _ h, frozen_of_row _ _ _ _ _ h⟩
theorem DeSt.new (w : World) : DeSt w ((w.alloc (.cells #[.bool false, .bool false, .bool false] 64)).alloc (.cells #[.bool true, .bool false, .bool false] 64)) w.heap.size zeroR := by
  have z1 : (w.alloc (.cells #[.bool false, .bool false, .bool false] 64)).heap.size = w.heap.size + 1 := by simp
  have b1 : Below w.heap.size w (w.alloc (.cells #[.bool false, .bool false, .bool false] 64)) := (Below.refl _ _).alloc (Nat.le_refl _) _
  have c1 := heap_alloc_new w (.cells #[.bool false, .bool false, .bool false] 64)
  generalize w.alloc (.cells #[.bool false, .bool false, .bool false] 64) = W1 at z1 b1 c1 ⊢
  have b2 : Below W1.heap.size W1 (W1.alloc (.cells #[.bool true, .bool false, .bool false] 64)) := (Below.refl _ _).alloc (Nat.le_refl _) _
  have c2 := heap_alloc_new W1 (.cells #[.bool true, .bool false, .bool false] 64)
  rw [z1] at c2
  exact ⟨(b2.block _ (by omega)).trans c1, c2, b1.trans (b2.mono b1.size), by simp; omega⟩
set_option maxHeartbeats 16000000 in
theorem decide_any (v : Value) (RS : List Rl) (F base : Nat) (w : World) (hv : OwnD w base v RS) (hn : RS.length ≤ 20) (hF : F < 2 ^ 64) :
    Calls Try.prog 15 #[v, .int .u64 (F : Int)] w fun e w' => e = .returned (.tuple #[.agg #[.bool (decF F 0 RS (zeroR, -1)).1.pass, .bool (decF F 0 RS (zeroR, -1)).1.quick, .bool (decF F 0 RS (zeroR, -1)).1.keep], .int .i64 (decF F 0 RS (zeroR, -1)).2]) ∧ Below w.heap.size w w' := by
  obtain ⟨ao, co, hve⟩ := OwnN.len hv
  obtain ⟨N, hN⟩ : ∃ N, RS.length = N := ⟨_, rfl⟩
  rw [hN] at hve hn
  subst hve
  obtain ⟨D, hD⟩ : ∃ D, decF F 0 RS (zeroR, -1) = D := ⟨_, rfl⟩
  rw [hD]
  obtain ⟨Q, hQ⟩ : ∃ Q : Ending → World → Prop, Q = fun e w' => e = .returned (.tuple #[.agg #[.bool D.1.pass, .bool D.1.quick, .bool D.1.keep], .int .i64 D.2]) ∧ Below w.heap.size w w' := ⟨_, rfl⟩
  have HQ : Hid (∀ w', Below w.heap.size w w' → Q (.returned (.tuple #[.agg #[.bool D.1.pass, .bool D.1.quick, .bool D.1.keep], .int .i64 D.2])) w') := by rw [hQ]; exact fun w' h => ⟨rfl, h⟩
  rw [← hQ]
  clear hQ
  have HD := hidE hD
  have HV := hidE hv
  have HN := hidE hN
  clear hv hN hD
  go_enter Try.func15, Try.ntmps15
  go_upto_region 2 with fail
  have S0 := DeSt.new w
  obtain ⟨W0, hW0⟩ : ∃ W0, (w.alloc (.cells #[.bool false, .bool false, .bool false] 64)).alloc (.cells #[.bool true, .bool false, .bool false] 64) = W0 := ⟨_, rfl⟩
  rw [hW0] at S0 ⊢
  obtain ⟨S, hS⟩ : ∃ S, w.heap.size = S := ⟨_, rfl⟩
  rw [hS] at S0 HQ ⊢
  have HS := hidE hS
  have HS0 := hidE S0
  clear S0 hW0 hS
  go_upto_region 3 with fail
  go_loopw [7, 8, 9, 13] (fun n _ _ i wr => ∃ (k : Nat) (r : Rl) (z : Int), k ≤ N ∧ i = .int .i64 (k : Int) ∧ n = .int .i64 z ∧ Hid (DeSt w wr S r) ∧ Hid (decF F k (RS.drop k) (r, z) = D)) (fun _ _ _ i _ => ((N : Int) - intOf i).toNat)
  case atStart => exact ⟨0, zeroR, -1, by omega, rfl, rfl, HS0.out, HD.out⟩
  case round =>
    clear HS0 HD
    obtain ⟨k, r, z, hk, rfl, rfl, HE, HD⟩ := hrel
    by_cases hkn : k < N
    · have j1 : (k : Int) < (N : Int) := by omega
      have j2 : (0 : Int) ≤ (k : Int) := by omega
      have hkl : k < RS.length := by rw [HN.out]; exact hkn
      have hv2 : OwnD wr base (.slice ao N co) RS := OwnN.below HV.out (by rw [HS.out]; exact HE.out.bel)
      obtain ⟨g, cap, hvv, hg1, hg2, hg3, hg4⟩ := OwnN.shape hv2 (by omega)
      rw [HN.out] at hvv
      simp only [Value.slice.injEq] at hvv
      obtain ⟨rfl, _, rfl⟩ := hvv
      have hco : co ≤ 9223372036854775807 := by unfold maxLen at hg4; omega
      have c0 := OwnN.cell hv2 encD_len k hkl 0 _ rfl
      have c1 := OwnN.cell hv2 encD_len k hkl 1 _ rfl
      have c2 := OwnN.cell hv2 encD_len k hkl 2 _ rfl
      rw [Nat.add_zero] at c0
      have hd : RS.drop k = RS[k] :: RS.drop (k + 1) := List.drop_eq_getElem_cons hkl
      rw [hd] at HD
      generalize RS[k] = q at c0 c1 c2 HD
      have b3 : Below wr.heap.size wr (wr.alloc (.cells #[.bool q.pass, .bool q.quick, .bool q.keep] 64)) := (Below.refl _ _).alloc (Nat.le_refl _) _
      have n3 := heap_alloc_new wr (.cells #[.bool q.pass, .bool q.quick, .bool q.keep] 64)
      have E3 := HE.out.below b3
      obtain ⟨W3, hW3⟩ : ∃ W3, wr.alloc (.cells #[.bool q.pass, .bool q.quick, .bool q.keep] 64) = W3 := ⟨_, rfl⟩
      have HW3 := hidE hW3
      rw [hW3] at n3 E3
      have hSX : S + 2 ≤ wr.heap.size := HE.out.sz
      obtain ⟨⟨d0, d1, d2⟩, _⟩ := row3 n3
      obtain ⟨⟨e0, e1, e2⟩, f0, f1, f2⟩ := row3 E3.c1
      have HE3 := hidE E3
      have HN3 := hidE n3
      clear hd hv2 hg1 hg2 hg3 hg4 hkl b3 n3 E3 hW3 HE
      go_upto_region 5 with fail
      rw [HW3.out]
      clear c0 c1 c2
      have hbi := bit_is (k := k) hF
      obtain ⟨W4, hW4, E4, ot4⟩ := HE3.out.put q
      rcases hb : F.testBit k with _ | _
      · rw [decF_no hb] at HD
        rw [hb] at hbi
        clear hb hW4 E4 ot4
        go_wp2_with fail
        go_roundw
        case rel => exact ⟨k + 1, r, z, by omega, by go_num, rfl, HE3.out, HD.out⟩
        case measure => simp [intOf]; omega
      · rw [hb] at hbi
        have x1 : W4.cell? ⟨wr.heap.size, 1, none⟩ = some (.bool q.quick) := by rw [World.cell?_of_block (w := W3) (a := ⟨wr.heap.size, 1, none⟩) (ot4 _ (by show wr.heap.size ≠ S + 1; omega))]; exact d1
        have HW4 := hidE hW4
        obtain ⟨⟨y0, y1, y2⟩, _⟩ := row3 E4.c1
        obtain ⟨_, v0, v1, v2⟩ := row3 E4.c0
        have HE4 := hidE E4
        have HBB := hidE hb
        obtain ⟨W9, hW9, q9, o9, b9, z9⟩ := set3 E4.c0 (.bool q.pass) (.bool q.quick) (.bool q.keep)
        have HW9 := hidE hW9
        have HB9 := hidE (E4.bel.trans (b9.mono (Nat.le_refl _)))
        obtain ⟨⟨w0, w1, w2⟩, _⟩ := row3 q9
        have HQ9 := hidE (And.intro w0 (And.intro w1 w2))
        obtain ⟨⟨g0, g1, g2⟩, _⟩ := row3 E4.c0
        clear hb hW4 E4 ot4 hW9 q9 o9 b9 z9 w0 w1 w2
        go_upto_region 7 with fail
        rw [HW4.out]
        clear d0 d1 d2 e0 e1 e2 f0 f1 f2
        rcases hq : q.quick with _ | _
        · rw [decF_yes HBB.out hq] at HD
          rw [hq] at x1
          clear hq y0 y1 y2 v0 v1 v2 g0 g1 g2
          go_wp2_with fail
          go_roundw
          case rel => exact ⟨k + 1, q, (k : Int), by omega, by go_num, rfl, HE4.out, HD.out⟩
          case measure => simp [intOf]; omega
        · rw [decF_quick HBB.out hq] at HD
          have hD := HD.out
          rw [← hD] at HQ
          have HQ2 := hidE (HQ.out W9 HB9.out)
          simp only at HQ2
          rw [hq] at x1 HQ2 HW9 HQ9
          clear hD HD HQ HE4 HE3
          go_wp2_with fail
          rw [HW9.out]
          obtain ⟨w0, w1, w2⟩ := HQ9.out
          exact bodyPost_ret (v := .tuple #[.agg #[.bool q.pass, .bool true, .bool q.keep], .int .i64 (k : Int)]) (by simp [results, Try.results15, go_sem, w0, w1, w2]) rfl HQ2.out
    · have j1 : ¬ (k : Int) < (N : Int) := by omega
      have hd : RS.drop k = [] := List.drop_eq_nil_of_le (by rw [HN.out]; omega)
      rw [hd, decF] at HD
      have hD := HD.out
      rw [← hD] at HQ
      obtain ⟨W9, hW9, q9, o9, b9, z9⟩ := set3 HE.out.c0 (.bool r.pass) (.bool r.quick) (.bool r.keep)
      have HW9 := hidE hW9
      have HQ2 := hidE (HQ.out W9 (HE.out.bel.trans (b9.mono (Nat.le_refl _))))
      simp only at HQ2
      obtain ⟨⟨w0, w1, w2⟩, _⟩ := row3 q9
      have HQ9 := hidE (And.intro w0 (And.intro w1 w2))
      obtain ⟨⟨g0, g1, g2⟩, v0, v1, v2⟩ := row3 HE.out.c0
      obtain ⟨⟨y0, y1, y2⟩, _⟩ := row3 HE.out.c1
      clear hD HD HQ HE hd hW9 q9 o9 b9 z9 w0 w1 w2
      go_wp2_with fail
      rw [HW9.out]
      obtain ⟨w0, w1, w2⟩ := HQ9.out
      exact bodyPost_ret (v := .tuple #[.agg #[.bool r.pass, .bool r.quick, .bool r.keep], .int .i64 z]) (by simp [results, Try.results15, go_sem, w0, w1, w2]) rfl HQ2.out
end Go.Proofs.Ytdellfmkmbabhaa
