/- What the reference's 'wrong' returns (package portref2) of packets that may be: 'wrongB'. -/
import Derived.Test.YtgodjaffmojhlaaDoorPoolAt
import Derived.Deep.DeepMust
namespace Go.Proofs.YtgodjaffmojhlaaDoor
open Go.RowKit
set_option linter.unusedVariables false
set_option maxRecDepth 4000

theorem hidR {p : Prop} (h : p) : Hid p := h
theorem wrongY_iff (x y : Pk) : wrongY x y = true ↔ (8 * x.pos < 8 * y.pos + (y.body.length : Int) ∧ 8 * y.pos < 8 * x.pos + (x.body.length : Int)) ∨ (y.more = false ∧ (x.more = false ∨ 8 * y.pos + (y.body.length : Int) < 8 * x.pos + (x.body.length : Int))) ∨ (x.more = false ∧ 8 * x.pos + (x.body.length : Int) < 8 * y.pos + (y.body.length : Int)) := by
  unfold wrongY
  simp only [Bool.or_eq_true, Bool.and_eq_true, Bool.not_eq_true', decide_eq_true_eq, gt_iff_lt, or_assoc]
theorem wrongB_iff (l : List Pk) (x : Pk) : wrongB l x = true ↔ x.body.length = 0 ∨ (x.more = true ∧ ¬ x.body.length % 8 = 0) ∨ 4000 < 8 * x.pos + (x.body.length : Int) ∨ ∃ y ∈ l, wrongY x y = true := by
  unfold wrongB
  simp only [Bool.or_eq_true, Bool.and_eq_true, decide_eq_true_eq, List.any_eq_true, or_assoc]
theorem packs_len {w : World} {v : Value} {qs : List (Pk × Value)} (h : Packs w v qs) : ∃ a c, v = .slice a qs.length c := by
  rcases h with ⟨rfl, a, c, rfl⟩ | ⟨b, off, len, cap, rfl, _, _, rfl, _⟩
  · exact ⟨a, c, rfl⟩
  · exact ⟨_, _, rfl⟩
theorem packs_shape {w : World} {a : Option Addr} {n c : Nat} {qs : List (Pk × Value)} (h : Packs w (.slice a n c) qs) (hz : 0 < qs.length) : ∃ b off, a = some ⟨b, off, none⟩ ∧ n ≤ c ∧ c ≤ maxLen ∧ ∀ i (h : i < qs.length), PkCells w b (off + i * 8) qs[i].1 qs[i].2 := by
  rcases h with ⟨rfl, _⟩ | ⟨b, off, len, cap, hv, h1, h2, h3, h4⟩
  · simp at hz
  · simp only [Value.slice.injEq] at hv
    obtain ⟨rfl, rfl, rfl⟩ := hv
    exact ⟨b, off, rfl, h1, h2, h4⟩
theorem Packs.below {w w' : World} {v : Value} {qs : List (Pk × Value)} (h : Packs w v qs) (hb : Below w.heap.size w w') : Packs w' v qs := by
  rcases h with h | ⟨b, off, len, cap, hv, h1, h2, h3, h4⟩
  · exact .inl h
  · exact .inr ⟨b, off, len, cap, hv, h1, h2, h3, fun i hi => (h4 i hi).below hb⟩
set_option maxHeartbeats 32000000 in
theorem refWrong_any (v : Value) (qs : List (Pk × Value)) (x : Pk) (bv : Value) (w : World) (hv : Packs w v qs) (hq : ∀ q ∈ qs, 0 ≤ q.1.pos ∧ q.1.pos ≤ 32767 ∧ q.1.body.length ≤ 4000) (hb : Bytes w bv x.body) (hx : 0 ≤ x.pos ∧ x.pos ≤ 32767 ∧ x.body.length ≤ 4000) :
    Calls Tryd.prog 18 #[v, pkV x bv] w fun e w' => e = .returned (.bool (wrongB (qs.map Prod.fst) x)) ∧ Below w.heap.size w w' := by
  obtain ⟨a, c, hbv⟩ := len_body hb
  obtain ⟨ao, co, hvv⟩ := packs_len hv
  subst hbv hvv
  obtain ⟨R, hR⟩ : ∃ R, wrongB (qs.map Prod.fst) x = R := ⟨_, rfl⟩
  have HI : Hid (R = true ↔ x.body.length = 0 ∨ (x.more = true ∧ ¬ x.body.length % 8 = 0) ∨ 4000 < 8 * x.pos + (x.body.length : Int) ∨ ∃ y ∈ qs.map Prod.fst, wrongY x y = true) := by rw [← hR]; exact wrongB_iff _ _
  have HYY : Hid (∀ k (h : k < qs.length), wrongY x qs[k].1 = true ↔ (8 * x.pos < 8 * qs[k].1.pos + (qs[k].1.body.length : Int) ∧ 8 * qs[k].1.pos < 8 * x.pos + (x.body.length : Int)) ∨ (qs[k].1.more = false ∧ (x.more = false ∨ 8 * qs[k].1.pos + (qs[k].1.body.length : Int) < 8 * x.pos + (x.body.length : Int))) ∨ (x.more = false ∧ 8 * x.pos + (x.body.length : Int) < 8 * qs[k].1.pos + (qs[k].1.body.length : Int))) := fun k h => wrongY_iff _ _
  rw [hR]
  have HQ2 : Hid (∀ k (h : k < qs.length), wrongY x qs[k].1 = true → R = true) := fun k h hy => HI.out.2 (.inr (.inr (.inr ⟨qs[k].1, List.mem_map_of_mem (List.getElem_mem h), hy⟩)))
  have HQ3 : Hid (¬ x.body.length = 0 → ¬ (x.more = true ∧ ¬ x.body.length % 8 = 0) → ¬ 4000 < 8 * x.pos + (x.body.length : Int) → (∀ k (h : k < qs.length), wrongY x qs[k].1 = false) → R = false) := fun h1 h2 h3 h4 => by
    rcases hr : R with _ | _
    · rfl
    · exfalso
      rcases HI.out.1 hr with h | h | h | ⟨y, hy, h⟩
      · exact h1 h
      · exact h2 h
      · exact h3 h
      · obtain ⟨q, hq, rfl⟩ := List.mem_map.1 hy
        obtain ⟨k, hk, rfl⟩ := List.getElem_of_mem hq
        rw [h4 k hk] at h; cases h
  have HQ1 : Hid (x.body.length = 0 ∨ (x.more = true ∧ ¬ x.body.length % 8 = 0) ∨ 4000 < 8 * x.pos + (x.body.length : Int) → R = true) := fun h => HI.out.2 (by rcases h with h | h | h; exact .inl h; exact .inr (.inl h); exact .inr (.inr (.inl h)))
  have HV : Hid (Packs (w.alloc (.cells #[.int .i64 x.kind, .int .i64 x.ttl, .int .i64 x.ident, .int .i64 x.src, .int .i64 x.dst, .int .i64 x.pos, .bool x.more, .slice a x.body.length c] 40)) (.slice ao qs.length co) qs) := hv.below ((Below.refl _ _).alloc (Nat.le_refl _) _)
  obtain ⟨x0, x1, x2, x3, x4, x5, x6, x7⟩ := (PkAt.new w x (.slice a x.body.length c)).cells
  have HB : Hid (Below w.heap.size w (w.alloc (.cells #[.int .i64 x.kind, .int .i64 x.ttl, .int .i64 x.ident, .int .i64 x.src, .int .i64 x.dst, .int .i64 x.pos, .bool x.more, .slice a x.body.length c] 40))) := (Below.refl _ _).alloc (Nat.le_refl _) _
  have HTT : Hid (∀ w', Below w.heap.size w w' → R = true → (fun (e : Ending) (w' : World) => e = .returned (.bool R) ∧ Below w.heap.size w w') (.returned (.bool true)) w') := fun w' h1 h2 => ⟨by rw [h2], h1⟩
  have HFF : Hid (∀ w', Below w.heap.size w w' → R = false → (fun (e : Ending) (w' : World) => e = .returned (.bool R) ∧ Below w.heap.size w w') (.returned (.bool false)) w') := fun w' h1 h2 => ⟨by rw [h2], h1⟩
  generalize (fun (e : Ending) (w' : World) => e = .returned (.bool R) ∧ Below w.heap.size w w') = Q at HTT HFF ⊢
  unfold pkV
  obtain ⟨k, t, i, s, d, o, m, body⟩ := x
  simp only at HYY HQ1 HQ3 hx x5 x6 x7
  obtain ⟨L, hL⟩ : ∃ L, body.length = L := ⟨_, rfl⟩
  simp only at HV HB x0 x1 x2 x3 x4 ⊢
  rw [hL] at HYY HQ1 HQ3 hx x0 x1 x2 x3 x4 x5 x6 x7 HV HB ⊢
  obtain ⟨ho0, ho1, hLL⟩ := hx
  obtain ⟨N, hN⟩ : ∃ N, qs.length = N := ⟨_, rfl⟩
  have HN : Hid (qs.length = N) := hN
  rw [hN] at HV ⊢
  have HQB : Hid (∀ q ∈ qs, 0 ≤ q.1.pos ∧ q.1.pos ≤ 32767 ∧ q.1.body.length ≤ 4000) := hq
  have HX : Hid (Pk.mk k t i s d o m body = Pk.mk k t i s d o m body) := rfl
  have HYZ : Hid (∀ k' (h : k' < qs.length), wrongY (Pk.mk k t i s d o m body) qs[k'].1 = true ↔ _) := HYY
  generalize Pk.mk k t i s d o m body = X at HYZ HQ2 HQ3
  clear hL hN hv hb hR HI hq x0 x1 x2 x3 x4 HX HYY
  have e1 : ∀ z : Int, (L : Int) = z ∨ ¬ (L : Int) = z := fun z => Classical.em _
  clear e1
  rcases m with _ | _
  · as_aux_lemma =>
    by_cases c1 : L = 0
    · as_aux_lemma =>
      have c1' : ((L : Int) == 0) = true := by rw [beq_iff_eq]; omega
      have c1'' : (L : Int) = 0 := by omega
      have HQ := hidR (HTT.out _ HB.out (HQ1.out (.inl c1)))
      clear HTT HFF HQ1 HQ2 HQ3 HYZ HV HB HQB c1
      go_enter Tryd.func18, Tryd.ntmps18
      go_wp2_with fail
      exact HQ.out
    have d1 : ((L : Int) == 0) = false := by rw [beq_eq_false_iff_ne]; omega
    have d1' : ¬ (L : Int) = 0 := by omega
    by_cases c3 : 4000 < 8 * o + (L : Int)
    · as_aux_lemma =>
      have HQ := hidR (HTT.out _ HB.out (HQ1.out (.inr (.inr c3))))
      clear HTT HFF HQ1 HQ2 HQ3 HYZ HV HB HQB 
      go_enter Tryd.func18, Tryd.ntmps18
      go_wp2_with fail
      exact HQ.out
    have HR3 := hidR (HQ3.out c1 (by rintro ⟨h, _⟩; cases h) c3)
    clear HQ3 HQ1 c1
    go_enter Tryd.func18, Tryd.ntmps18
    go_upto_region 1 with fail
    obtain ⟨W1, hW1⟩ : ∃ W1, w.alloc (.cells #[.int .i64 k, .int .i64 t, .int .i64 i, .int .i64 s, .int .i64 d, .int .i64 o, .bool false, .slice a L c] 40) = W1 := ⟨_, rfl⟩
    rw [hW1] at x5 x6 x7 HV HB ⊢
    clear hW1
    go_upto_region 7 with fail
    go_loopw [8] (fun v8 wr => ∃ k : Nat, k ≤ N ∧ v8 = .int .i64 (k : Int) ∧ wr = W1 ∧ Hid (∀ j (h : j < qs.length), j < k → wrongY X qs[j].1 = false)) (fun v8 _ => ((N : Int) - intOf v8).toNat)
    case atStart => exact ⟨0, by omega, rfl, rfl, fun j _ hj => by omega⟩
    case round =>
      obtain ⟨k, hk, rfl, rfl, HO⟩ := hrel
      by_cases hlt : k < N
      case neg =>
        as_aux_lemma =>
        have hlt' : ¬ (k : Int) < (N : Int) := by omega
        have HQ := hidR (HFF.out _ HB.out (HR3.out (fun j h => HO.out j h (by have := HN.out; omega))))
        clear HTT HFF HQ2 HR3 HYZ HV HB HQB HO
        go_wp2_with fail
        exact HQ.out
      case pos =>
      have hlt' : (k : Int) < (N : Int) := by omega
      have hk0 : (0 : Int) ≤ (k : Int) := by omega
      have hkl : k < qs.length := by rw [HN.out]; exact hlt
      obtain ⟨b, off, hab, hcc, hcm, hcs⟩ := packs_shape HV.out (by omega)
      subst hab
      obtain ⟨⟨_, _, _, _, _, y5, y6, y7⟩, hby⟩ := hcs k hkl
      obtain ⟨ay, cy, hbv⟩ := len_body hby
      rw [hbv] at y7
      obtain ⟨hp0, hp1, hpl⟩ := HQB.out qs[k] (List.getElem_mem _)
      have HY := hidR (HYZ.out k hkl)
      have HY2 := hidR (HQ2.out k hkl)
      have HO2 : Hid (wrongY X qs[k].1 = false → ∀ j (h : j < qs.length), j < k + 1 → wrongY X qs[j].1 = false) := fun h j hj hjk => by
        by_cases e : j = k
        · subst e; exact h
        · exact HO.out j hj (by omega)
      unfold maxLen at hcm
      clear hcs hby hbv HYZ HQ2 HR3 HFF HO HQB HV
      generalize wrongY X qs[k].1 = wy at HY HY2 HO2
      obtain ⟨py, hpy⟩ : ∃ py, qs[k].1.pos = py := ⟨_, rfl⟩
      obtain ⟨my, hmy⟩ : ∃ my, qs[k].1.more = my := ⟨_, rfl⟩
      obtain ⟨ly, hly⟩ : ∃ ly, qs[k].1.body.length = ly := ⟨_, rfl⟩
      rw [hpy] at y5 hp0 hp1 HY
      rw [hmy] at y6 HY
      rw [hly] at y7 hpl HY
      clear hpy hmy hly
      go_upto_region 9 with fail
      go_upto_region 10 with fail
      go_upto_region 11 with fail
      clear y5 y7
      by_cases h1 : 8 * o < 8 * py + (ly : Int) ∧ 8 * py < 8 * o + (L : Int)
      · as_aux_lemma =>
        obtain ⟨h1a, h1b⟩ := h1
        have HQ := hidR (HTT.out _ HB.out (HY2.out (HY.out.2 (.inl ⟨h1a, h1b⟩))))
        clear HTT HY HY2 HO2 HB
        go_wp2_with fail
        exact HQ.out
      have HN1 := hidR h1
      clear h1
      by_cases h1a : 8 * o < 8 * py + (ly : Int)
      · as_aux_lemma =>
        have h1b : ¬ 8 * py < 8 * o + (L : Int) := fun h => HN1.out ⟨h1a, h⟩
        rcases my with _ | _
        · as_aux_lemma =>
          have HQ := hidR (HTT.out _ HB.out (HY2.out (HY.out.2 (.inr (.inl ⟨by simp, .inl (by simp)⟩)))))
          clear HTT HY HY2 HO2 HB HN1
          go_upto_region 13 with fail
          go_wp2_with fail
          exact HQ.out
        · as_aux_lemma =>
          by_cases h2 : 8 * o + (L : Int) < 8 * py + (ly : Int)
          · as_aux_lemma =>
            have HQ := hidR (HTT.out _ HB.out (HY2.out (HY.out.2 (.inr (.inr ⟨by simp, h2⟩)))))
            clear HTT HY HY2 HO2 HB HN1
            go_upto_region 13 with fail
            go_upto_region 15 with fail
            go_wp2_with fail
            exact HQ.out
          · as_aux_lemma =>
            have hf : wy = false := by
              rcases hw : wy with _ | _
              · rfl
              · exfalso
                rcases HY.out.1 hw with h | ⟨h1, h2⟩ | ⟨h1, h2⟩
                · exact HN1.out h
                · first | (simp at h1; done) | (rcases h2 with h2 | h2 <;> first | omega | (simp at h2; done))
                · first | omega | (simp at h1; done)
            have HO3 := hidR (HO2.out hf)
            clear HTT HY HY2 HO2 HB HN1 hf
            go_upto_region 13 with fail
            go_upto_region 15 with fail
            go_wp2_with fail
            go_roundw
            case rel => exact ⟨k + 1, by omega, by go_num, by first | rfl | trivial, HO3.out⟩
            case measure => simp [intOf]; omega
      · as_aux_lemma =>
        rcases my with _ | _
        · as_aux_lemma =>
          have HQ := hidR (HTT.out _ HB.out (HY2.out (HY.out.2 (.inr (.inl ⟨by simp, .inl (by simp)⟩)))))
          clear HTT HY HY2 HO2 HB HN1
          go_upto_region 13 with fail
          go_wp2_with fail
          exact HQ.out
        · as_aux_lemma =>
          by_cases h2 : 8 * o + (L : Int) < 8 * py + (ly : Int)
          · as_aux_lemma =>
            exfalso
            omega
          · as_aux_lemma =>
            have hf : wy = false := by
              rcases hw : wy with _ | _
              · rfl
              · exfalso
                rcases HY.out.1 hw with h | ⟨h1, h2⟩ | ⟨h1, h2⟩
                · exact HN1.out h
                · first | (simp at h1; done) | (rcases h2 with h2 | h2 <;> first | omega | (simp at h2; done))
                · first | omega | (simp at h1; done)
            have HO3 := hidR (HO2.out hf)
            clear HTT HY HY2 HO2 HB HN1 hf
            go_upto_region 13 with fail
            go_upto_region 15 with fail
            go_wp2_with fail
            go_roundw
            case rel => exact ⟨k + 1, by omega, by go_num, by first | rfl | trivial, HO3.out⟩
            case measure => simp [intOf]; omega
  · as_aux_lemma =>
    by_cases c1 : L = 0
    · as_aux_lemma =>
      have c1' : ((L : Int) == 0) = true := by rw [beq_iff_eq]; omega
      have c1'' : (L : Int) = 0 := by omega
      have HQ := hidR (HTT.out _ HB.out (HQ1.out (.inl c1)))
      clear HTT HFF HQ1 HQ2 HQ3 HYZ HV HB HQB c1
      go_enter Tryd.func18, Tryd.ntmps18
      go_wp2_with fail
      exact HQ.out
    have d1 : ((L : Int) == 0) = false := by rw [beq_eq_false_iff_ne]; omega
    have d1' : ¬ (L : Int) = 0 := by omega
    by_cases c2 : L % 8 = 0
    case neg =>
      as_aux_lemma =>
      have e2 : ¬ (L : Int) % 8 = 0 := by omega
      have HQ := hidR (HTT.out _ HB.out (HQ1.out (.inr (.inl ⟨rfl, c2⟩))))
      clear HTT HFF HQ1 HQ2 HQ3 HYZ HV HB HQB 
      go_enter Tryd.func18, Tryd.ntmps18
      go_wp2_with fail
      exact HQ.out
    case pos =>
    have e2 : (L : Int) % 8 = 0 := by omega
    by_cases c3 : 4000 < 8 * o + (L : Int)
    · as_aux_lemma =>
      have HQ := hidR (HTT.out _ HB.out (HQ1.out (.inr (.inr c3))))
      clear HTT HFF HQ1 HQ2 HQ3 HYZ HV HB HQB 
      go_enter Tryd.func18, Tryd.ntmps18
      go_wp2_with fail
      exact HQ.out
    have HR3 := hidR (HQ3.out c1 (by rintro ⟨_, h⟩; exact h c2) c3)
    clear HQ3 HQ1 c1 c2
    go_enter Tryd.func18, Tryd.ntmps18
    go_upto_region 1 with fail
    obtain ⟨W1, hW1⟩ : ∃ W1, w.alloc (.cells #[.int .i64 k, .int .i64 t, .int .i64 i, .int .i64 s, .int .i64 d, .int .i64 o, .bool true, .slice a L c] 40) = W1 := ⟨_, rfl⟩
    rw [hW1] at x5 x6 x7 HV HB ⊢
    clear hW1
    go_upto_region 7 with fail
    go_loopw [8] (fun v8 wr => ∃ k : Nat, k ≤ N ∧ v8 = .int .i64 (k : Int) ∧ wr = W1 ∧ Hid (∀ j (h : j < qs.length), j < k → wrongY X qs[j].1 = false)) (fun v8 _ => ((N : Int) - intOf v8).toNat)
    case atStart => exact ⟨0, by omega, rfl, rfl, fun j _ hj => by omega⟩
    case round =>
      obtain ⟨k, hk, rfl, rfl, HO⟩ := hrel
      by_cases hlt : k < N
      case neg =>
        as_aux_lemma =>
        have hlt' : ¬ (k : Int) < (N : Int) := by omega
        have HQ := hidR (HFF.out _ HB.out (HR3.out (fun j h => HO.out j h (by have := HN.out; omega))))
        clear HTT HFF HQ2 HR3 HYZ HV HB HQB HO
        go_wp2_with fail
        exact HQ.out
      case pos =>
      have hlt' : (k : Int) < (N : Int) := by omega
      have hk0 : (0 : Int) ≤ (k : Int) := by omega
      have hkl : k < qs.length := by rw [HN.out]; exact hlt
      obtain ⟨b, off, hab, hcc, hcm, hcs⟩ := packs_shape HV.out (by omega)
      subst hab
      obtain ⟨⟨_, _, _, _, _, y5, y6, y7⟩, hby⟩ := hcs k hkl
      obtain ⟨ay, cy, hbv⟩ := len_body hby
      rw [hbv] at y7
      obtain ⟨hp0, hp1, hpl⟩ := HQB.out qs[k] (List.getElem_mem _)
      have HY := hidR (HYZ.out k hkl)
      have HY2 := hidR (HQ2.out k hkl)
      have HO2 : Hid (wrongY X qs[k].1 = false → ∀ j (h : j < qs.length), j < k + 1 → wrongY X qs[j].1 = false) := fun h j hj hjk => by
        by_cases e : j = k
        · subst e; exact h
        · exact HO.out j hj (by omega)
      unfold maxLen at hcm
      clear hcs hby hbv HYZ HQ2 HR3 HFF HO HQB HV
      generalize wrongY X qs[k].1 = wy at HY HY2 HO2
      obtain ⟨py, hpy⟩ : ∃ py, qs[k].1.pos = py := ⟨_, rfl⟩
      obtain ⟨my, hmy⟩ : ∃ my, qs[k].1.more = my := ⟨_, rfl⟩
      obtain ⟨ly, hly⟩ : ∃ ly, qs[k].1.body.length = ly := ⟨_, rfl⟩
      rw [hpy] at y5 hp0 hp1 HY
      rw [hmy] at y6 HY
      rw [hly] at y7 hpl HY
      clear hpy hmy hly
      go_upto_region 9 with fail
      go_upto_region 10 with fail
      go_upto_region 11 with fail
      clear y5 y7
      by_cases h1 : 8 * o < 8 * py + (ly : Int) ∧ 8 * py < 8 * o + (L : Int)
      · as_aux_lemma =>
        obtain ⟨h1a, h1b⟩ := h1
        have HQ := hidR (HTT.out _ HB.out (HY2.out (HY.out.2 (.inl ⟨h1a, h1b⟩))))
        clear HTT HY HY2 HO2 HB
        go_wp2_with fail
        exact HQ.out
      have HN1 := hidR h1
      clear h1
      by_cases h1a : 8 * o < 8 * py + (ly : Int)
      · as_aux_lemma =>
        have h1b : ¬ 8 * py < 8 * o + (L : Int) := fun h => HN1.out ⟨h1a, h⟩
        rcases my with _ | _
        · as_aux_lemma =>
          by_cases h2 : 8 * py + (ly : Int) < 8 * o + (L : Int)
          · as_aux_lemma =>
            exfalso
            omega
          · as_aux_lemma =>
            have hf : wy = false := by
              rcases hw : wy with _ | _
              · rfl
              · exfalso
                rcases HY.out.1 hw with h | ⟨h1, h2⟩ | ⟨h1, h2⟩
                · exact HN1.out h
                · first | (simp at h1; done) | (rcases h2 with h2 | h2 <;> first | omega | (simp at h2; done))
                · first | omega | (simp at h1; done)
            have HO3 := hidR (HO2.out hf)
            clear HTT HY HY2 HO2 HB HN1 hf
            go_upto_region 13 with fail
            go_upto_region 15 with fail
            go_wp2_with fail
            go_roundw
            case rel => exact ⟨k + 1, by omega, by go_num, by first | rfl | trivial, HO3.out⟩
            case measure => simp [intOf]; omega
        · as_aux_lemma =>
          have hf : wy = false := by
            rcases hw : wy with _ | _
            · rfl
            · exfalso
              rcases HY.out.1 hw with h | ⟨h1, h2⟩ | ⟨h1, h2⟩
              · exact HN1.out h
              · first | (simp at h1; done) | (rcases h2 with h2 | h2 <;> first | omega | (simp at h2; done))
              · first | omega | (simp at h1; done)
          have HO3 := hidR (HO2.out hf)
          clear HTT HY HY2 HO2 HB HN1 hf
          go_upto_region 13 with fail
          go_upto_region 15 with fail
          go_wp2_with fail
          go_roundw
          case rel => exact ⟨k + 1, by omega, by go_num, by first | rfl | trivial, HO3.out⟩
          case measure => simp [intOf]; omega
      · as_aux_lemma =>
        rcases my with _ | _
        · as_aux_lemma =>
          by_cases h2 : 8 * py + (ly : Int) < 8 * o + (L : Int)
          · as_aux_lemma =>
            have HQ := hidR (HTT.out _ HB.out (HY2.out (HY.out.2 (.inr (.inl ⟨by simp, .inr h2⟩)))))
            clear HTT HY HY2 HO2 HB HN1
            go_upto_region 13 with fail
            go_wp2_with fail
            exact HQ.out
          · as_aux_lemma =>
            exfalso
            omega
        · as_aux_lemma =>
          have hf : wy = false := by
            rcases hw : wy with _ | _
            · rfl
            · exfalso
              rcases HY.out.1 hw with h | ⟨h1, h2⟩ | ⟨h1, h2⟩
              · exact HN1.out h
              · first | (simp at h1; done) | (rcases h2 with h2 | h2 <;> first | omega | (simp at h2; done))
              · first | omega | (simp at h1; done)
          have HO3 := hidR (HO2.out hf)
          clear HTT HY HY2 HO2 HB HN1 hf
          go_upto_region 13 with fail
          go_upto_region 15 with fail
          go_wp2_with fail
          go_roundw
          case rel => exact ⟨k + 1, by omega, by go_num, by first | rfl | trivial, HO3.out⟩
          case measure => simp [intOf]; omega
end Go.Proofs.YtgodjaffmojhlaaDoor
