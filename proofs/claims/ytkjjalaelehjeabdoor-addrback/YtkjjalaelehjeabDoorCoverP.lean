/- What the program's Cover returns (package addr), for every slice of prefixes: an error, or the prefixes of its stretches, in a row of the call's own. -/
import Derived.Test.YtkjjalaelehjeabDoorStretch
import Derived.Test.YtkjjalaelehjeabDoorBlocks
namespace Go.Proofs.YtkjjalaelehjeabDoor
open Go.RowKit
set_option linter.unusedVariables false

def AllOk (ps : List (Int × Int)) : Prop := ∀ p ∈ ps, prefE p.1 p.2 = 0
def flatQ (Q : List (Int × Int)) : List (Int × Int) := Q.flatMap fun q => spreadL q.1 q.2
theorem flatQ_snoc (Q : List (Int × Int)) (a b : Int) : flatQ (Q ++ [(a, b)]) = flatQ Q ++ spreadL a b := (flat_snoc Q a b).symm
theorem flatQ_take_le {Q : List (Int × Int)} (hs : List.Pairwise (fun p q => p.2 + 1 < q.1) Q) (hok : OkP Q) (k : Nat) : (flatQ (Q.take k)).length ≤ 4294967296 :=
  flat_len0 (hs.sublist (List.take_sublist _ _)) (fun p hp => hok p (List.mem_of_mem_take hp))
theorem spread_le {a b : Int} (h0 : 0 ≤ a) (h1 : b ≤ 4294967295) : (spreadL a b).length ≤ 4294967296 := by
  have := spreadL_len a b; omega

theorem OwnA.slice {w : World} {base : Nat} {v : Value} {Q : List (Int × Int)} (h : OwnA w base v Q) : ∃ a m c, v = .slice a m c ∧ Hid (m = Q.length) := by
  obtain ⟨_, h2⟩ := h
  rcases h2 with ⟨rfl, h⟩ | ⟨g, cap, cur, rfl, _⟩
  · exact ⟨_, _, _, rfl, h.symm⟩
  · exact ⟨_, _, _, rfl, rfl⟩

set_option maxHeartbeats 4000000 in
set_option maxRecDepth 100000 in
theorem cover_any (w : World) (v : Value) (ps : List (Int × Int)) (hv : Prefs w v ps) (hl : ps.length ≤ 4611686018427387904) :
    Calls Tryd.prog 9 #[v] w fun e w' => ∃ v' er, e = .returned (.tuple #[v', er]) ∧ Below w.heap.size w w' ∧
      ((er = .nilIface ∧ ps.length ≤ 200 ∧ AllOk ps ∧ ∃ Q, Mrg ps Q ∧ OwnP w' w.heap.size v' (flatQ Q)) ∨ (v' = .slice none 0 0 ∧ ∃ k : Int, er = .iface 46 (.int .i64 k) ∧ (ps.length ≤ 200 → ¬ AllOk ps))) := by
  obtain ⟨ao, n, cap, rfl, hn⟩ : ∃ ao n cap, v = .slice ao n cap ∧ n = ps.length := by
    rcases hv with ⟨rfl, a, cap, rfl, _⟩ | ⟨b, off, len, cap, rfl, _, _, h, _⟩
    · exact ⟨_, _, _, rfl, rfl⟩
    · exact ⟨_, _, _, rfl, h.symm⟩
  have HN : Hid (n = ps.length) := hn
  rw [← hn] at hl
  have hcell : Hid (∀ k, k < n → ∃ b off x y, ao = some ⟨b, off, none⟩ ∧ b < w.heap.size ∧ ps[k]? = some (x, y) ∧ w.cell? ⟨b, off + k * 2, none⟩ = some (.int .i64 x) ∧ w.cell? ⟨b, off + k * 2 + 1, none⟩ = some (.int .i64 y)) := by
    intro k hk
    obtain ⟨b, off, hb, hc⟩ := hv.cells (by omega)
    have hk' : k < ps.length := by omega
    obtain ⟨c0, c1⟩ := hc k hk'
    have hlt : b < w.heap.size := by
      rcases Nat.lt_or_ge b w.heap.size with h | h
      · exact h
      · simp [World.cell?, Array.getElem?_eq_none h] at c0
    have e : ps.getD k (0, 0) = ps[k] := by simp [List.getD, hk']
    rw [e] at c0 c1
    exact ⟨b, off, ps[k].1, ps[k].2, hb, hlt, by simp [hk'], c0, c1⟩
  have hst : ∀ w', Below w.heap.size w w' → AllOk ps → n ≤ 200 → Calls Tryd.prog 19 #[.slice ao n cap] w' fun e w'' => ∃ v' Q, e = .returned v' ∧ OwnA w'' w'.heap.size v' Q ∧ Mrg ps Q ∧ Below w'.heap.size w' w'' :=
    fun w' hb ha hn' => stretches_any w' _ ps (hv.below (Nat.le_refl _) hb) ha (by omega)
  have HST : Hid (∀ w', Below w.heap.size w w' → AllOk ps → n ≤ 200 → Calls Tryd.prog 19 #[.slice ao n cap] w' fun e w'' => ∃ v' Q, e = .returned v' ∧ OwnA w'' w'.heap.size v' Q ∧ Mrg ps Q ∧ Below w'.heap.size w' w'') := hst
  clear hst hv hn
  go_enter Tryd.func9, Tryd.ntmps9
  go_wp2_with fail
  go_loopw [12] (fun i wr => ∃ k : Nat, k ≤ n ∧ i = .int .i64 k ∧ Below w.heap.size w wr ∧ Hid (AllOk (ps.take k))) (fun i _ => n - (intOf i).toNat)
  case atStart => exact ⟨0, by omega, rfl, Below.refl _ _, fun p hp => by simp at hp⟩
  case round =>
    obtain ⟨k, hk, rfl, hbel, hA⟩ := hrel
    by_cases hlt : k < n
    · obtain ⟨b, off, x, y, hao, hb, hpk, c0, c1⟩ := hcell.out k hlt
      subst hao
      have d0 := (hbel.cell (p := ⟨b, off + k * 2, none⟩) hb).trans c0
      have d1 := (hbel.cell (p := ⟨b, off + k * 2 + 1, none⟩) hb).trans c1
      have hlt' : (k : Int) < (n : Int) := by omega
      have hbz := hbel.size
      have HP : Hid (ps[k]? = some (x, y)) := hpk
      clear c0 c1 hpk
      by_cases hpe : prefE x y = 0
      · have hck := fun w => check_ok x y w hpe
        have HA : Hid (AllOk (ps.take (k + 1))) := by
          intro p hp
          rw [List.take_add_one, HP.out] at hp
          rcases List.mem_append.1 hp with h | h
          · exact hA.out p h
          · simp at h; subst h; exact hpe
        clear hA hpe
        go_wp2_with (go_at_call 8; refine (hck _).mono ?_; rintro e w3 ⟨rfl, b3⟩)
        have b4 : Below w.heap.size w w3 := (hbel.alloc hbz _).trans (b3.mono (by simp; omega))
        go_roundw
        case rel => exact ⟨k + 1, by omega, by go_num, b4, HA⟩
        case measure => simp [intOf]; omega
      · have hck := fun w => check_bad x y w hpe
        have HB : Hid (¬ AllOk ps) := by
          intro h
          exact hpe (h (x, y) (List.mem_of_getElem? HP.out))
        clear hA
        go_wp2_with (go_at_call 8; refine (hck _).mono ?_; rintro e w3 ⟨rfl, b3⟩)
        have b4 : Below w.heap.size w w3 := (hbel.alloc hbz _).trans (b3.mono (by simp; omega))
        exact bodyPost_ret (v := .tuple #[.slice none 0 0, .iface 46 (.int .i64 (prefE x y))]) (by simp [results, Tryd.results9, go_sem]) rfl ⟨_, _, rfl, b4, .inr ⟨rfl, _, rfl, fun _ => HB.out⟩⟩
    · have hge : (n : Int) ≤ (k : Int) := by omega
      have HA : Hid (AllOk ps) := by
        have := hA.out
        rw [List.take_of_length_le (by rw [← HN.out]; omega)] at this
        exact this
      clear hA hlt
      by_cases hfull : 200 < (n : Int)
      · go_wp2_with fail
        exact bodyPost_ret (v := .tuple #[.slice none 0 0, .iface 46 (.int .i64 4)]) (by simp [results, Tryd.results9, go_sem]) rfl ⟨_, _, rfl, hbel, .inr ⟨rfl, _, rfl, fun h => by have := HN.out; omega⟩⟩
      · have hn2 : n ≤ 200 := by omega
        have hst := HST.out wr hbel HA.out hn2
        have hfull' : (n : Int) ≤ 200 := by omega
        clear hfull
        obtain ⟨w0, rfl⟩ : ∃ w0, w0 = wr := ⟨wr, rfl⟩
        go_upto_region 12 with (go_at_call 19; refine hst.mono ?_; rintro e w2 ⟨v2, Q, rfl, own2, hM, b2⟩; obtain ⟨a2, m, c2, rfl, HQ⟩ := own2.slice)
        have bw2 : Below w.heap.size w w2 := hbel.trans (b2.mono hbel.size)
        have HM : Hid (Mrg ps Q) := hM
        have hQl : m ≤ 4294967296 := by
          rw [HQ.out]
          have h1 : ∀ (Q : List (Int × Int)), OkP Q → Q.length ≤ (flatQ Q).length := by
            intro Q
            induction Q with
            | nil => intro _; simp [flatQ]
            | cons q r ih =>
              intro h
              have := ih (fun p hp => h p (List.mem_cons_of_mem _ hp))
              have h2 := spreadL_pos (h q (List.mem_cons_self ..)).2.1
              simp only [flatQ, List.flatMap_cons, List.length_append, List.length_cons] at this ⊢
              omega
          exact Nat.le_trans (h1 Q hM.2.1) (flat_len0 hM.1 hM.2.1)
        have hcell2 : Hid (∀ k, k < m → ∃ g a b, a2 = some ⟨g, 0, none⟩ ∧ g < w2.heap.size ∧ Q[k]? = some (a, b) ∧ 0 ≤ a ∧ a ≤ b ∧ b ≤ 4294967295 ∧ w2.cell? ⟨g, k * 2, none⟩ = some (.int .i64 a) ∧ w2.cell? ⟨g, k * 2 + 1, none⟩ = some (.int .i64 b)) := by
          intro k hk
          have hk' : k < Q.length := by have := HQ.out; omega
          obtain ⟨g, cap', h1, _, h2⟩ := own2.shape (by omega)
          simp only [Value.slice.injEq] at h1
          obtain ⟨rfl, _, rfl⟩ := h1
          obtain ⟨c0, c1, _⟩ := own2.cells HQ.out k hk'
          have e : Q.getD k (0, 0) = Q[k] := by simp [List.getD, hk']
          rw [e] at c0 c1
          have hok := hM.2.1 Q[k] (List.getElem_mem _)
          exact ⟨g, Q[k].1, Q[k].2, rfl, h2, by simp [hk'], hok.1, hok.2.1, hok.2.2, c0, c1⟩
        clear hst own2 hM b2
        go_wp2_with fail
        go_loopw [7, 29] (fun v7 i wr => ∃ k : Nat, k ≤ m ∧ i = .int .i64 k ∧ OwnP wr w2.heap.size v7 (flatQ (Q.take k)) ∧ Below w2.heap.size w2 wr) (fun _ i _ => m - (intOf i).toNat)
        case atStart => exact ⟨0, by omega, rfl, OwnP.nil _ _, Below.refl _ _⟩
        case round =>
          obtain ⟨j, hj, rfl, hown, hb7⟩ := hrel
          by_cases hlt : j < m
          · obtain ⟨g, a, b, hao, hg, hqk, q0, q1, q2, c0, c1⟩ := hcell2.out j hlt
            subst hao
            have d0 := (hb7.cell (p := ⟨g, j * 2, none⟩) hg).trans c0
            have d1 := (hb7.cell (p := ⟨g, j * 2 + 1, none⟩) hg).trans c1
            have hlt' : (j : Int) < (m : Int) := by omega
            have hbz := hb7.size
            have HF : Hid (flatQ (Q.take (j + 1)) = flatQ (Q.take j) ++ spreadL a b) := by
              show flatQ (Q.take (j + 1)) = _
              rw [List.take_add_one, hqk]
              exact flatQ_snoc _ _ _
            have hl1 := flatQ_take_le HM.out.1 HM.out.2.1 j
            have hl2 := spread_le q0 q2
            have hl3 : (flatQ (Q.take j)).length + (spreadL a b).length ≤ 4398046511104 := by omega
            have hps := spreadL_pos q1
            have hbk := fun w => blocks_any a b w q0 q2 (by omega)
            clear c0 c1 hqk hl1 hl2
            go_upto_region 14 with fail
            have bs : Below w2.heap.size w2 (wr.alloc (.cells #[.int .i64 a, .int .i64 b] 51)) := hb7.alloc hbz _
            have os := hown.alloc (.cells #[.int .i64 a, .int .i64 b] 51)
            have ps' := PairAt.new wr a b 51
            have hz7 : w2.heap.size ≤ (wr.alloc (.cells #[.int .i64 a, .int .i64 b] 51)).heap.size := by simp; omega
            go_wp2_with (first
              | (go_at_call 17; refine (hbk _).mono ?_; rintro e w8 ⟨v8, rfl, own8, b8⟩; have o8 := os.below b8; have z8 := Nat.le_trans hz7 b8.size)
              | (at_builtin; refine wpList_append_prefs rfl (.tmp 33) (.tmp 38) rfl w2.heap.size _ _ rfl o8 _ v8 (spreadL a b) rfl own8 hps hl3 z8 ?_; intro v9 w9 own9 grow9 _))
            have b9 : Below w2.heap.size w2 w9 := (bs.trans (b8.mono hz7)).grown grow9 z8 (fun j hj => (World.ownsRow.lt o8 j hj).1)
            go_roundw
            case rel => exact ⟨j + 1, by omega, by go_num, by rw [HF.out]; exact own9, b9⟩
            case measure => simp [intOf]; omega
          · have hge : (m : Int) ≤ (j : Int) := by omega
            have HO : Hid (flatQ (Q.take j) = flatQ Q) := by
              show flatQ (Q.take j) = flatQ Q
              rw [List.take_of_length_le (by rw [← HQ.out]; omega)]
            clear hlt
            go_wp2_with fail
            rw [HO.out] at hown
            exact bodyPost_ret (v := .tuple #[u7, .nilIface]) (by simp [results, Tryd.results9, go_sem]) rfl ⟨_, _, rfl, bw2.trans (hb7.mono bw2.size), .inl ⟨rfl, by have := HN.out; omega, HA.out, Q, HM.out, hown.base bw2.size⟩⟩
end Go.Proofs.YtkjjalaelehjeabDoor
