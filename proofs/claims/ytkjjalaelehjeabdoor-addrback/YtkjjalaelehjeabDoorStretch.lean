/- What the program's stretches returns (package addr): the addresses of prefixes as lows and highs, rising, with a gap between any two, in a row of the call's own. -/
import Derived.Test.YtkjjalaelehjeabDoorSortP
import Derived.Test.YtkjjalaelehjeabDoorOwnA
import Derived.Test.YtkjjalaelehjeabDoorMergeMath
import Derived.Test.YtkjjalaelehjeabDoorAddrNum
import Derived.Test.YtkjjalaelehjeabDoorPairs
namespace Go.Proofs.YtkjjalaelehjeabDoor
open Go.RowKit
set_option linter.unusedVariables false

set_option maxHeartbeats 4000000 in
set_option maxRecDepth 100000 in
theorem stretches_any (w : World) (v : Value) (ps : List (Int × Int)) (hv : Prefs w v ps) (hok : ∀ p ∈ ps, prefE p.1 p.2 = 0) (hl : ps.length ≤ 1000) :
    Calls Tryd.prog 19 #[v] w fun e w' => ∃ v' Q, e = .returned v' ∧ OwnA w' w.heap.size v' Q ∧ Mrg ps Q ∧ Below w.heap.size w w' := by
  have hcl := clone_any w v ps hv hl
  have hwf : ∀ p ∈ ps, (Lit.int .i64 p.1).wf = true ∧ (Lit.int .i64 p.2).wf = true := by
    rcases hv with ⟨rfl, _⟩ | ⟨_, _, _, _, _, _, _, _, _, h⟩
    · intro p h; cases h
    · exact h
  rcases Nat.eq_zero_or_pos ps.length with hz | hz
  · have hz' : ps = [] := List.length_eq_zero_iff.1 hz
    subst hz'
    have hno : ∀ v1 w1, OwnP w1 w.heap.size v1 [] → ∃ a c, v1 = .slice a 0 c := by
      intro v1 w1 h
      rcases h.2 with ⟨rfl, _⟩ | ⟨g, cap, cur, rfl, _⟩
      · exact ⟨_, _, rfl⟩
      · exact ⟨_, _, rfl⟩
    have hso := fun a c w => AnyF.slices_SortFunc_none Tryd.sortP a c (.func (.func 26) #[] #[]) w
    change ∀ a c w, Calls Tryd.prog 25 _ _ _ at hso
    go_enter Tryd.func19, Tryd.ntmps19
    go_wp2_with (first
      | (go_at_call 24; refine hcl.mono ?_; rintro e w1 ⟨v1, rfl, own1, b1⟩; obtain ⟨a1, c1, rfl⟩ := hno v1 w1 own1)
      | (go_at_call 25; refine (hso _ _ _).mono ?_; rintro e w2 ⟨rfl, rfl⟩))
    refine wp_loop_rounds 1 ?_
    rw [rounds_succ]
    go_wp2
    go_ret
    exact ⟨_, [], rfl, OwnA.nil _ _, Mrg.nil, b1⟩
  · go_enter Tryd.func19, Tryd.ntmps19
    go_upto_region 2 with (go_at_call 24; refine hcl.mono ?_; rintro e w1 ⟨v1, rfl, own1, b1⟩)
    have hso := sort_any w1 w.heap.size v1 ps own1 hwf hz hl b1.size
    obtain ⟨g, cap, hv1, _, _⟩ := own1.shape hz
    subst hv1
    go_upto_region 3 with (go_at_call 25; refine hso.mono ?_; rintro e w2 ⟨rfl, qs, hperm, hsrt, hpr, b2⟩)
    have hql : qs.length = ps.length := hperm.length_eq
    have bw2 : Below w.heap.size w w2 := b1.trans b2
    obtain ⟨b, off, hbo, hcell⟩ := hpr.cells (by omega)
    simp only [Option.some.injEq, Addr.mk.injEq] at hbo
    obtain ⟨rfl, rfl, _⟩ := hbo
    obtain ⟨n, hn⟩ : ∃ n, n = ps.length := ⟨_, rfl⟩
    rw [← hn] at hpr hl hz hql ⊢
    have HQ : Hid (∀ i, i < qs.length → w2.cell? ⟨g, 0 + i * 2, none⟩ = some (.int .i64 (qs.getD i (0, 0)).1) ∧ w2.cell? ⟨g, 0 + i * 2 + 1, none⟩ = some (.int .i64 (qs.getD i (0, 0)).2)) := hcell
    have HL : Hid (qs.length = n) := hql
    have hgl : g < w2.heap.size := by
      have := (hcell 0 (by omega)).1
      rcases Nat.lt_or_ge g w2.heap.size with h | h
      · exact h
      · simp [World.cell?, Array.getElem?_eq_none h] at this
    have hokq : Hid (∀ p ∈ qs, prefE p.1 p.2 = 0) := fun p hp => hok p (hperm.mem_iff.1 hp)
    have HM : Hid (∀ Q, Mrg qs Q → Mrg ps Q) := by
      intro Q hQ
      obtain ⟨m1, m2, m3, m4⟩ := hQ
      refine ⟨m1, m2, fun x => (m3 x).trans ?_, fun q hq => ?_⟩
      · constructor
        · rintro ⟨p, hp, h⟩; exact ⟨p, hperm.mem_iff.1 hp, h⟩
        · rintro ⟨p, hp, h⟩; exact ⟨p, hperm.mem_iff.2 hp, h⟩
      · obtain ⟨p, hp, h⟩ := m4 q hq; exact ⟨p, hperm.mem_iff.1 hp, h⟩
    have HS : Hid (qs.Pairwise (fun p q => p.1 ≤ q.1)) := hsrt
    clear hcell hql hn hso hcl hok hwf hperm hsrt hpr own1 hv
    go_wp2_with fail
    go_loopw [4, 16] (fun v4 i wr => ∃ (k : Nat) (Q : List (Int × Int)), k ≤ n ∧ i = .int .i64 k ∧ OwnA wr w2.heap.size v4 Q ∧ Below w2.heap.size w2 wr ∧ Q.length ≤ k ∧ Hid (Mrg (qs.take k) Q)) (fun _ i _ => n - (intOf i).toNat)
    case atStart => exact ⟨0, [], by omega, rfl, OwnA.nil _ _, Below.refl _ _, by simp, Mrg.nil⟩
    case round =>
      obtain ⟨k, Q, hk, rfl, hown, hbel, hQl, hM⟩ := hrel
      by_cases hlt : k < n
      · have hkq : k < qs.length := by rw [HL.out]; exact hlt
        obtain ⟨p, hp⟩ : ∃ p, p = qs[k] := ⟨_, rfl⟩
        have hgd : qs.getD k (0, 0) = p := by rw [hp]; simp [List.getD, hkq]
        obtain ⟨c0, c1⟩ := HQ.out k hkq
        rw [hgd] at c0 c1
        have d0 := (hbel.cell (p := ⟨g, 0 + k * 2, none⟩) hgl).trans c0
        have d1 := (hbel.cell (p := ⟨g, 0 + k * 2 + 1, none⟩) hgl).trans c1
        obtain ⟨x, y⟩ := p
        simp only at d0 d1
        rw [Nat.zero_add] at d0 d1
        have hpe : prefE x y = 0 := hokq.out (x, y) (by rw [hp]; exact List.getElem_mem _)
        have hen := fun w => ends_ok x y w hpe
        have hlt' : (k : Int) < (n : Int) := by omega
        clear c0 c1 hgd
        go_upto_region 8 with (go_at_call 7; refine (hen _).mono ?_; rintro e w3 ⟨rfl, b3⟩)
        have hw3 : (wr.alloc (.cells #[.int .i64 x, .int .i64 y] 28)).heap.size = wr.heap.size + 1 := by simp
        have bw3 : Below w2.heap.size w2 w3 := (hbel.alloc hbel.size _).trans (b3.mono (by have := hbel.size; omega))
        have own3 : OwnA w3 w2.heap.size u4 Q := (hown.alloc _).below b3
        have hT : qs.take (k + 1) = qs.take k ++ [(x, y)] := by rw [List.take_succ_eq_append_getElem hkq, ← hp]
        have hbd := end_ok (p := (x, y)) hpe
        have hE : endP (x, y) = x + pw (32 - y) - 1 := rfl
        obtain ⟨e1, he1⟩ : ∃ e1, e1 = x + pw (32 - y) - 1 := ⟨_, rfl⟩
        rw [← he1] at hE ⊢
        have HE : Hid (endP (x, y) = e1) := hE
        have HT : Hid (qs.take (k + 1) = qs.take k ++ [(x, y)]) := hT
        rw [hE] at hbd
        obtain ⟨hb0, hb1, hb2⟩ := hbd
        simp only at hb0 hb1
        have hsrt : Hid (∀ q ∈ qs.take k, q.1 ≤ x) := by
          intro q hq
          obtain ⟨j, hj, rfl⟩ := List.getElem_of_mem hq
          have hj' : j < k := by simp at hj; omega
          have := (List.pairwise_iff_getElem.1 HS.out) j k (by omega) hkq hj'
          rw [List.getElem_take, ← show (x, y) = qs[k] from hp] at *
          exact this
        have hz3 := bw3.size
        clear hT hE he1 hp d0 d1 hen hown hbel b3 hw3
        rcases List.eq_nil_or_concat Q with hQ | ⟨R, ⟨a, b⟩, hQ⟩
        · subst hQ
          obtain ⟨a4, c4, h4⟩ : ∃ a c, u4 = .slice a 0 c := by
            rcases own3.2 with ⟨h, _⟩ | ⟨g, cap, cur, h, _⟩
            · exact ⟨_, _, h⟩
            · exact ⟨_, _, h⟩
          subst h4
          go_wp2_with (at_builtin; refine wpList_append_arr rfl (.tmp 51) (.tmp 55) rfl w2.heap.size _ [] rfl own3 x e1 rfl (by simp) hz3 ?_; intro v5 w5 own5 grow5)
          have b5 : Below w2.heap.size w2 w5 := (bw3.alloc hz3 _).grown grow5 (by simp; omega) (fun j hj => (World.ownsRow.lt own3 j hj).1)
          go_roundw
          case rel =>
            refine ⟨k + 1, [] ++ [(x, e1)], by omega, by go_num, own5, b5, by simp, ?_⟩
            show Mrg (qs.take (k + 1)) _
            rw [HT.out, ← HE.out]
            exact hM.out.new hpe (fun q hq => by cases hq)
          case measure => simp [intOf]; omega
        · rw [List.concat_eq_append] at hQ
          subst hQ
          obtain ⟨g4, cap4, h4, hg4, hg4'⟩ := own3.shape (by simp)
          subst h4
          obtain ⟨r, hr⟩ : ∃ r, r = R.length := ⟨_, rfl⟩
          have hlen : (R ++ [(a, b)]).length = r + 1 := by rw [hr]; simp
          obtain ⟨c0, c1, c2⟩ := own3.cells rfl R.length (by simp)
          have hgd : (R ++ [(a, b)]).getD R.length (0, 0) = (a, b) := by simp [List.getD]
          rw [hgd, ← hr] at c0 c1
          rw [← hr] at c2
          simp only at c0 c1
          rw [hlen] at own3 hQl ⊢
          have HR : Hid (r = R.length) := hr
          have hab := hM.out.2.1 (a, b) (by simp)
          simp only at hab
          have hax : a ≤ x := by
            obtain ⟨q, hq, e⟩ := hM.out.2.2.2 (a, b) (by simp)
            have := hsrt.out q hq
            simp only at e; omega
          have hRl : (R ++ [(a, b)]).length ≤ 4398046511104 := by rw [hlen]; omega
          clear hgd hr hlen c0
          by_cases hj : x ≤ b + 1
          · go_upto_region 10 with fail
            have o5 := own3.set (by simp [HR.out]) (max b e1)
            rw [← HR.out] at o5
            have b5 := bw3.setCell (p := ⟨g4, r * 2 + 1, none⟩) hg4 (.int .i64 (max b e1))
            have HJ : Hid (Mrg (qs.take (k + 1)) (R ++ [(a, max b e1)])) := by
              show Mrg (qs.take (k + 1)) _
              rw [HT.out]
              exact hM.out.join hpe hax hj _ (by rw [HE.out]; exact Int.max_def b e1)
            go_region
            all_goals
              go_wp2_with fail
              go_roundw
              case rel => exact ⟨k + 1, R ++ [(a, max b e1)], by omega, by go_num, o5, b5.drew, by have := HR.out; simp; omega, HJ⟩
              case measure => simp [intOf]; omega
          · have hj' : b + 1 < x := by omega
            clear hj
            go_wp2_with (at_builtin; refine wpList_append_arr rfl (.tmp 51) (.tmp 55) rfl w2.heap.size _ (R ++ [(a, b)]) rfl own3 x e1 rfl hRl hz3 ?_; intro v5 w5 own5 grow5)
            have b5 : Below w2.heap.size w2 w5 := (bw3.alloc hz3 _).grown grow5 (by simp; omega) (fun j hj => (World.ownsRow.lt own3 j hj).1)
            go_roundw
            case rel =>
              refine ⟨k + 1, (R ++ [(a, b)]) ++ [(x, e1)], by omega, by go_num, own5, b5, by have := HR.out; simp; omega, ?_⟩
              show Mrg (qs.take (k + 1)) _
              rw [HT.out, ← HE.out]
              exact hM.out.new hpe (hM.out.gap hj')
            case measure => simp [intOf]; omega
      · have hge : (n : Int) ≤ (k : Int) := by omega
        have hM' : Mrg qs Q := by
          have := hM.out
          rw [List.take_of_length_le (by rw [HL.out]; omega)] at this
          exact this
        have HF : Hid (Mrg ps Q) := HM.out Q hM'
        clear hM hM' hlt
        go_wp2
        go_ret
        exact ⟨_, Q, rfl, hown.base bw2.size, HF.out, bw2.trans (hbel.mono bw2.size)⟩
end Go.Proofs.YtkjjalaelehjeabDoor
