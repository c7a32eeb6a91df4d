/- What the reference's letter and Names return (package portref1): 'nmAll', and the text without its lines. -/
import Derived.Test.YtjhofmmmlemfcaaDoorExP7
import Derived.Test.YtjhofmmmlemfcaaDoorCut
namespace Go.Proofs.YtjhofmmmlemfcaaDoor
open Go.RowKit
set_option linter.unusedVariables false
set_option maxRecDepth 10000

theorem letter_any (c : UInt8) (w : World) : Calls Tryd.prog 10 #[.int .u8 (c.toNat : Int)] w fun e w' => e = .returned (.bool (isLet c)) ∧ w' = w := by
  have HB : Hid (isLet c = (decide ((c.toNat : Int) ≥ 97) && decide ((c.toNat : Int) ≤ 122))) := by
    unfold isLet
    show _ = _
    congr 1
    · rw [decide_eq_decide]; omega
    · rw [decide_eq_decide]; omega
  rw [HB.out]
  generalize (c.toNat : Int) = x
  clear HB
  by_cases h1 : x ≥ 97
  · by_cases h2 : x ≤ 122
    · have e : (decide (x ≥ 97) && decide (x ≤ 122)) = true := by rw [decide_eq_true h1, decide_eq_true h2]; rfl
      rw [e]
      clear e
      go_enter Tryd.func10, Tryd.ntmps10
      go_wp2
      go_ret
      exact ⟨rfl, rfl⟩
    · have e : (decide (x ≥ 97) && decide (x ≤ 122)) = false := by rw [decide_eq_false h2]; simp
      rw [e]
      clear e
      go_enter Tryd.func10, Tryd.ntmps10
      go_wp2
      go_ret
      exact ⟨rfl, rfl⟩
  · have e : (decide (x ≥ 97) && decide (x ≤ 122)) = false := by rw [decide_eq_false h1]; rfl
    rw [e]
    clear e
    go_enter Tryd.func10, Tryd.ntmps10
    go_wp2
    go_ret
    exact ⟨rfl, rfl⟩
theorem lets_in {y : List UInt8} {j : Nat} (h : j < (lets y).length) : j < y.length ∧ isLet (y.getD j 0) = true := by
  have e : lets y ++ y.drop (lets y).length = y := takeWhile_app y
  have hl : j < y.length := by
    have := congrArg List.length e
    rw [List.length_append] at this
    omega
  refine ⟨hl, ?_⟩
  have hm : y.getD j 0 = (lets y)[j] := by
    have : y[j]? = some (lets y)[j] := by
      conv => lhs; rw [← e]
      rw [List.getElem?_append_left h, List.getElem?_eq_getElem h]
    simp [List.getD, this]
  rw [hm]
  exact takeWhile_all _ (List.getElem_mem h)
theorem lets_out {y : List UInt8} (h : (lets y).length < y.length) : isLet (y.getD (lets y).length 0) = false := by
  have key : ∀ (l : List UInt8), (lets l).length < l.length → isLet (l.getD (lets l).length 0) = false := by
    intro l
    unfold lets
    induction l with
    | nil => intro h; simp at h
    | cons c r ih =>
      intro h
      rw [List.takeWhile_cons] at h ⊢
      rcases hc : isLet c with _ | _
      · simp [hc]
      · rw [hc] at h
        simp only [if_true, List.length_cons] at h ⊢
        have := ih (by omega)
        simpa using this
  exact key y h
theorem lets_take (y : List UInt8) : y.take (lets y).length = lets y := by
  have e : lets y ++ y.drop (lets y).length = y := takeWhile_app y
  have h := congrArg (List.take (lets y).length) e
  rw [List.take_left] at h
  exact h.symm
theorem pre_iff (x : List UInt8) : Lib.hasPrefix x letP = true ↔ 4 ≤ x.length ∧ x.take 4 = letP := by
  rw [← Lib.hasPrefix_of_take, Bool.and_eq_true, decide_eq_true_iff, beq_iff_eq]
  exact Iff.rfl
structure NrSt (w1 wr : World) (v u : Value) (ns ts : List (List UInt8)) : Prop where
  o1 : OwnS wr w1.heap.size v (ns.map mkB)
  o2 : OwnS wr w1.heap.size u (ts.map mkB)
  ap : ∀ k, v.ownBlock = some k → u.ownBlock ≠ some k
  bel : Below w1.heap.size w1 wr
theorem NrSt.addA {w1 A B : World} {v u v' : Value} {ns ts : List (List UInt8)} {t : List UInt8} (h : NrSt w1 A v u ns ts) (own : OwnS B w1.heap.size v' (ns.map mkB ++ [mkB t])) (gr : (A.alloc (.cells #[.string (mkB t)] 9)).grownBy B v.ownBlock) (at' : v'.ownBlock = v.ownBlock ∨ v'.ownBlock = some (A.heap.size + 1)) : NrSt w1 B v' u (ns ++ [t]) ts := by
  have ha : Below A.heap.size A (A.alloc (.cells #[.string (mkB t)] 9)) := (Below.refl _ _).alloc (Nat.le_refl _) _
  have hsz : (A.alloc (.cells #[.string (mkB t)] 9)).heap.size = A.heap.size + 1 := by simp
  have hz := h.bel.size
  refine ⟨by rw [List.map_append]; exact own, (h.o2.below ha).blk (fun k hk => gr.block k (by have := (h.o2.lt k hk).2; omega) (fun e => h.ap k e.symm hk)), ?_, (h.bel.trans (ha.mono hz)).trans (grown_below gr (by omega) (fun k hk => (h.o1.lt k hk).1))⟩
  intro k hk hu
  rcases at' with e | e
  · rw [e] at hk; exact h.ap k hk hu
  · rw [e] at hk; cases hk
    have := (h.o2.lt _ hu).2; omega
theorem NrSt.addB {w1 A B : World} {v u u' : Value} {ns ts : List (List UInt8)} {t : List UInt8} (h : NrSt w1 A v u ns ts) (own : OwnS B w1.heap.size u' (ts.map mkB ++ [mkB t])) (gr : (A.alloc (.cells #[.string (mkB t)] 9)).grownBy B u.ownBlock) (at' : u'.ownBlock = u.ownBlock ∨ u'.ownBlock = some (A.heap.size + 1)) : NrSt w1 B v u' ns (ts ++ [t]) := by
  have ha : Below A.heap.size A (A.alloc (.cells #[.string (mkB t)] 9)) := (Below.refl _ _).alloc (Nat.le_refl _) _
  have hsz : (A.alloc (.cells #[.string (mkB t)] 9)).heap.size = A.heap.size + 1 := by simp
  have hz := h.bel.size
  refine ⟨(h.o1.below ha).blk (fun k hk => gr.block k (by have := (h.o1.lt k hk).2; omega) (fun e => h.ap k hk e.symm)), by rw [List.map_append]; exact own, ?_, (h.bel.trans (ha.mono hz)).trans (grown_below gr (by omega) (fun k hk => (h.o2.lt k hk).1))⟩
  intro k hk hu
  rcases at' with e | e
  · rw [e] at hu; exact h.ap k hk hu
  · rw [e] at hu; cases hu
    have := (h.o1.lt _ hk).2; omega
theorem sub_ext (x : List UInt8) (a b : Nat) : (mkB x).extract a b = mkB ((x.drop a).take (b - a)) := by rw [extract_mkB, mkB_toList]
set_option maxHeartbeats 64000000 in
theorem refNames_any (s : List UInt8) (w : World) :
    Calls Tryd.prog 4 #[.string (mkB s)] w fun e w' => ∃ v u, e = .returned (.tuple #[v, u, .string (mkB (if (nmAll s).2.2 = 0 then outL (lnsL s) else [])), .int .i64 (nmAll s).2.2]) ∧ NmR w s v u w' := by
  obtain ⟨Q, hQ⟩ : ∃ Q : Ending → World → Prop, Q = fun e w' => ∃ v u, e = .returned (.tuple #[v, u, .string (mkB (if (nmAll s).2.2 = 0 then outL (lnsL s) else [])), .int .i64 (nmAll s).2.2]) ∧ NmR w s v u w' := ⟨_, rfl⟩
  have HQe : Hid (∀ E w', nmAll s = ([], [], E) → E ≠ 0 → Below w.heap.size w w' → Q (.returned (.tuple #[.slice none 0 0, .slice none 0 0, .string ⟨#[]⟩, .int .i64 E])) w') := by
    rw [hQ]; intro E w' e h0 hb
    refine ⟨_, _, ?_, ⟨by rw [e]; exact OwnS.nil _ _, by rw [e]; exact OwnS.nil _ _, hb⟩⟩
    rw [e]; simp only; rw [if_neg h0]; rfl
  have HQo : Hid (∀ ns ts v u w', nmAll s = (ns, ts, 0) → OwnS w' w.heap.size v (ns.map mkB) → OwnS w' w.heap.size u (ts.map mkB) → Below w.heap.size w w' → Q (.returned (.tuple #[v, u, .string (mkB (outL (lnsL s))), .int .i64 0])) w') := by
    rw [hQ]; intro ns ts v u w' e h1 h2 hb
    refine ⟨v, u, ?_, ⟨by rw [e]; exact h1, by rw [e]; exact h2, hb⟩⟩
    rw [e]; simp
  rw [← hQ]
  clear hQ
  have hsz := sizeM s
  by_cases hbig : 2000 < s.length
  · have hn : ((mkB s).size : Int) > 2000 := by rw [hsz]; omega
    have hq := HQe.out 4 w (by unfold nmAll; rw [if_pos hbig]) (by decide) (Below.refl _ _)
    have HQQ := hidR hq
    clear hsz hbig hq
    go_enter Tryd.func4, Tryd.ntmps4
    go_wp2
    exact bodyPost_ret (v := .tuple #[.slice none 0 0, .slice none 0 0, .string ⟨#[]⟩, .int .i64 4]) (by simp [results, Tryd.results4, go_sem]) rfl HQQ.out
  have hn : ¬ ((mkB s).size : Int) > 2000 := by rw [hsz]; omega
  have hct := fun w => cut_any (mkB s) 10 w (by rw [mkB_size]; omega)
  rw [mkB_toList] at hct
  rw [show ((10 : UInt8).toNat : Int) = 10 from rfl] at hct
  have HNM : Hid (nmAll s = nmF [] [] (cutL 10 s)) := by rw [Hid, nm_is s.length s [] [] (Nat.le_refl _)]; unfold nmAll; rw [if_neg hbig]
  have HRS : Hid (restF (cutL 10 s) = outL (lnsL s)) := rest_is s.length s (Nat.le_refl _) (.inr trivial)
  have hol : (outL (lnsL s)).length ≤ 2000 := by
    have := outL_len (lnsL s) (lnsL s) (List.prefix_refl _)
    rw [lnsL_flat] at this; omega
  have hcl : ∀ x ∈ cutL 10 s, x.length ≤ 2000 := fun x hx => by have := cut_len 10 s x hx; omega
  have hcc : (cutL 10 s).length ≤ 2001 := by have := cut_cnt 10 s; omega
  obtain ⟨ls, hls⟩ : ∃ ls, cutL 10 s = ls := ⟨_, rfl⟩
  rw [hls] at hct HNM HRS hcl hcc
  obtain ⟨os, hos⟩ : ∃ os, outL (lnsL s) = os := ⟨_, rfl⟩
  rw [hos] at HRS hol HQo
  have HCL := hidR (And.intro hcl hol)
  clear hls hos hcl hol hsz hbig
  go_enter Tryd.func4, Tryd.ntmps4
  go_upto_region 7 with (go_at_call 9; go_must (refine (hct _).mono ?_; rintro e w1 ⟨lv, rfl, own1, b1⟩))
  obtain ⟨al, cl, hlv⟩ := own1.len'
  rw [List.length_map] at hlv
  obtain ⟨N, hN⟩ : ∃ N, ls.length = N := ⟨_, rfl⟩
  rw [hN] at hlv hcc
  subst hlv
  have HN := hidR hN
  have hrow := own1.rowT
  have HROW := hidR hrow
  have HB1 := hidR b1
  clear hct own1 b1 hrow hN
  go_loopw [6, 7, 8, 10, 11, 12, 13, 14, 15] (fun v u r i _ _ _ _ _ wr => ∃ (k : Nat) (ns ts : List (List UInt8)) (rs : List UInt8), k ≤ N ∧ i = .int .i64 (k : Int) ∧ r = .string (mkB rs) ∧ Hid (NrSt w1 wr v u ns ts) ∧ Hid (nmAll s = nmF ns ts (ls.drop k)) ∧ Hid (os = rs ++ restF (ls.drop k)) ∧ Hid (ns.length ≤ k ∧ ts.length ≤ k)) (fun _ _ _ i _ _ _ _ _ _ => ((N : Int) - intOf i).toNat)
  case atStart => exact ⟨0, [], [], [], by omega, rfl, rfl, ⟨OwnS.nil _ _, OwnS.nil _ _, (fun k hk => by cases hk), Below.refl _ _⟩, HNM.out, HRS.out.symm, ⟨by simp, by simp⟩⟩
  case round =>
    clear HNM HRS
    obtain ⟨k, ns, ts, rs, hk, rfl, rfl, HST, HNM, HRS, HNL⟩ := hrel
    by_cases hlt : k < N
    · have hlt' : (k : Int) < (N : Int) := by omega
      have hk0 : (0 : Int) ≤ (k : Int) := by omega
      have hkl : k < ls.length := by rw [HN.out]; exact hlt
      obtain ⟨g, hg, hgl, hcel⟩ := (by obtain ⟨a', c', e, h⟩ := HROW.out; injection e with e1 _ _; subst e1; exact h (by rw [HN.out]; omega) : ∃ g, al = some ⟨g, 0, none⟩ ∧ g < w1.heap.size ∧ ∀ j (hj : j < ls.length), w1.cell? ⟨g, j, none⟩ = some (.string (mkB ls[j])))
      subst hg
      have c0 := (HST.out.bel.cell (p := ⟨g, k, none⟩) hgl).trans (hcel k hkl)
      have hdr : ls.drop k = ls[k] :: ls.drop (k + 1) := List.drop_eq_getElem_cons hkl
      have hxl := HCL.out.1 _ (List.getElem_mem hkl)
      have hrl : rs.length ≤ 2000 := by
        have := congrArg List.length HRS.out
        rw [List.length_append] at this
        have := HCL.out.2
        omega
      have hnil : ls.drop (k + 1) = [] ↔ k + 1 = N := by rw [List.drop_eq_nil_iff, HN.out]; omega
      have h1 := HNM.out
      have h2 := HRS.out
      rw [hdr] at h1 h2
      rw [nmF] at h1
      rw [restF] at h2
      generalize ls[k] = x at c0 h1 h2 hxl
      have HNX := hidR h1
      have HRX := hidR h2
      have HNIL := hidR hnil
      have sx := sizeM x
      have sr := sizeM rs
      clear h1 h2 HNM HRS hdr hcel hnil
      by_cases h4 : x.length < 4
      · have h4x : ((mkB x).size : Int) < 4 := by rw [sx]; omega
        have hpx : Lib.hasPrefix x letP = false := by rw [← Bool.not_eq_true, pre_iff]; omega
        clear sx
        by_cases hlast : k + 1 = N
        · as_aux_lemma =>
          have hlb : ((k : Int) == (N : Int) - 1) = true := by rw [beq_iff_eq]; omega
          have HN2 : Hid (ls.drop (k + 1) = []) := HNIL.out.2 (by omega)
          have hpn : ¬ Lib.hasPrefix x letP = true := by rw [hpx]; simp
          have H1 : Hid (nmAll s = nmF ns ts (ls.drop (k + 1))) := by have := HNX.out; rw [if_neg hpn] at this; exact this
          have H2 : Hid (os = (rs ++ x) ++ restF (ls.drop (k + 1))) := by have := HRX.out; rw [if_neg hpn, if_pos HN2.out] at this; rw [List.append_nil, ← List.append_assoc] at this; exact this
          have he1 := hidR (mkB_append rs x)
          have hs1 : (mkB rs).size + (mkB x).size ≤ 1048576 := by rw [mkB_size, mkB_size]; omega
          have hs1b : (mkB rs).size ≤ 1048576 ∧ (mkB x).size ≤ 1048576 := by rw [mkB_size, mkB_size]; omega
          obtain ⟨hs2, hs3⟩ := hs1b
          clear HNX HRX hpn hpx sr HN2
          go_upto_region 13 with fail
          rw [he1.out]
          clear he1 hs1 hs2 hs3
          go_wp2
          go_roundw
          case rel => exact ⟨k + 1, ns, ts, rs ++ x, by omega, by go_num, rfl, HST.out, H1.out, H2.out, by have := HNL.out; exact ⟨by omega, by omega⟩⟩
          case measure => simp [intOf]; omega
        · as_aux_lemma =>
          have hlb : ((k : Int) == (N : Int) - 1) = false := by rw [beq_eq_false_iff_ne]; omega
          have HN2 : Hid (ls.drop (k + 1) ≠ []) := fun e => hlast (HNIL.out.1 e)
          have hpn : ¬ Lib.hasPrefix x letP = true := by rw [hpx]; simp
          have H1 : Hid (nmAll s = nmF ns ts (ls.drop (k + 1))) := by have := HNX.out; rw [if_neg hpn] at this; exact this
          have H2 : Hid (os = (rs ++ x ++ [10]) ++ restF (ls.drop (k + 1))) := by have := HRX.out; rw [if_neg hpn, if_neg HN2.out] at this; simpa [Hid] using this
          have he1 := hidR (mkB_append rs x)
          have hs1 : (mkB rs).size + (mkB x).size ≤ 1048576 := by rw [mkB_size, mkB_size]; omega
          have hs1b : (mkB rs).size ≤ 1048576 ∧ (mkB x).size ≤ 1048576 := by rw [mkB_size, mkB_size]; omega
          obtain ⟨hs2, hs3⟩ := hs1b
          clear HNX HRX hpn hpx sr HN2
          go_upto_region 13 with fail
          rw [he1.out]
          clear he1 hs1 hs2 hs3
          have he2 := hidR (mkB_append (rs ++ x) [10])
          rw [show mkB [10] = (⟨#[10]⟩ : ByteArray) from rfl] at he2
          have hs4 : (mkB (rs ++ x)).size ≤ 1048576 ∧ (mkB (rs ++ x)).size + 1 ≤ 1048576 := by rw [mkB_size]; simp; omega
          obtain ⟨hs4, hs5⟩ := hs4
          go_wp2
          go_roundw
          case rel => exact ⟨k + 1, ns, ts, rs ++ x ++ [10], by omega, by go_num, by rw [he2.out], HST.out, H1.out, H2.out, by have := HNL.out; exact ⟨by omega, by omega⟩⟩
          case measure => simp [intOf]; omega
      have h4x : ¬ ((mkB x).size : Int) < 4 := by rw [sx]; omega
      have h4y : (4 : Int) ≤ ((mkB x).size : Int) := by omega
      have het := sub_ext x 0 4
      rw [List.drop_zero, show 4 - 0 = 4 from rfl] at het
      by_cases hp4 : x.take 4 = letP
      · have hpx : Lib.hasPrefix x letP = true := (pre_iff x).2 ⟨by omega, hp4⟩
        have hq4 : (((mkB x).extract 0 4).toList == [108, 101, 116, 32]) = true := by rw [het, beq_iff_eq, ByteArray.toList_eq, mkB_toList]; exact hp4
        have h1 := HNX.out
        rw [if_pos hpx] at h1
        obtain ⟨y, hy⟩ : ∃ y, x.drop 4 = y := ⟨_, rfl⟩
        rw [hy] at h1
        have HNX := hidR h1
        have HY := hidR hy
        have HYX : Hid (y.length + 4 = x.length) := by rw [← hy, List.length_drop]; show _ = _; omega
        have hpx := hidR hpx
        have HGET : Hid (∀ m (hm : m < (mkB x).size), 4 ≤ m → (mkB x)[m] = y.getD (m - 4) 0) := fun m hm h => by
          rw [mkB_get, ← hy]
          simp [List.getD, List.getElem?_drop, show 4 + (m - 4) = m by omega]
        have HLL : Hid ((lets y).length ≤ y.length) := by
          have := congrArg List.length (takeWhile_app (p := isLet) y)
          rw [List.length_append] at this
          show (List.takeWhile isLet y).length ≤ _
          omega
        obtain ⟨a6, c6, h6⟩ := HST.out.o1.len'
        obtain ⟨a7, c7, h7⟩ := HST.out.o2.len'
        have hr6 := HST.out.o1.rowT
        rw [List.length_map] at h6 h7
        obtain ⟨M6, hM6⟩ : ∃ m, ns.length = m := ⟨_, rfl⟩
        rw [hM6] at h6
        subst h6 h7
        have HR6 : Hid (0 < ns.length → ∃ g, a6 = some ⟨g, 0, none⟩ ∧ g < wr.heap.size ∧ ∀ j (hj : j < ns.length), wr.cell? ⟨g, j, none⟩ = some (.string (mkB ns[j]))) := by
          obtain ⟨a', c', e, h⟩ := hr6
          injection e with e1 _ _
          subst e1
          exact h
        have HM6 := hidR hM6
        have hM6b : M6 ≤ 2001 := by have := HNL.out.1; omega
        clear h1 hy hp4 het hr6 hM6
        go_upto_region 16 with fail
        go_loopw [13] (fun n w2 => ∃ m : Nat, 4 ≤ m ∧ m ≤ 4 + (lets y).length ∧ n = .int .i64 (m : Int) ∧ w2 = wr) (fun n _ => ((x.length : Int) - intOf n).toNat)
        case atStart => exact ⟨4, by omega, by omega, rfl, rfl⟩
        case round =>
          obtain ⟨M, hM4, hML, rfl, hwr⟩ := hrel
          subst hwr
          by_cases hlt2 : M < x.length
          · have hlt2' : (M : Int) < ((mkB x).size : Int) := by rw [sx]; omega
            have hm0 : (0 : Int) ≤ (M : Int) := by omega
            have hmz : M < (mkB x).size := by rw [mkB_size]; exact hlt2
            have hge := HGET.out M hmz hM4
            have hle := fun w => letter_any ((mkB x)[M]'hmz) w
            by_cases hj : M - 4 < (lets y).length
            · as_aux_lemma =>
              have hb : isLet ((mkB x)[M]'hmz) = true := by rw [hge]; exact (lets_in hj).2
              simp only [hb] at hle
              have hML2 : M + 1 ≤ 4 + (lets y).length := by omega
              clear hb hge hj
              go_wp2_with (go_at_call 10; go_must (refine (hle _).mono ?_; rintro e w3 ⟨rfl, hw3⟩; rw [hw3]; clear hw3))
              go_roundw
              case rel => exact ⟨M + 1, by omega, by omega, by go_num, by first | rfl | trivial⟩
              case measure => simp [intOf]; omega
            · as_aux_lemma =>
              have hb : isLet ((mkB x)[M]'hmz) = false := by rw [hge, show M - 4 = (lets y).length by omega]; exact lets_out (by have := HYX.out; omega)
              simp only [hb] at hle
              have HML : Hid (M = 4 + (lets y).length) := by show _ = _; omega
              clear hb hge hj hML
              go_upto_region 18 with (go_at_call 10; go_must (refine (hle _).mono ?_; rintro e w3 ⟨rfl, hw3⟩; rw [hw3]; clear hw3))
              clear hle
              by_cases hlast : k + 1 = N
              · as_aux_lemma =>
                have hlb : ((k : Int) == (N : Int) - 1) = true := by rw [beq_iff_eq]; omega
                have HLET : Hid ((if ls.drop (k + 1) = [] then none else letO y) = none) := by rw [Hid, if_pos (HNIL.out.2 hlast)]
                have hq := HQe.out 2 wr (by have := HNX.out; rw [HLET.out] at this; exact this) (by decide) (HB1.out.trans (HST.out.bel.mono HB1.out.size))
                have HQQ := hidR hq
                clear hq HNX HRX
                go_wp2
                exact bodyPost_ret (v := .tuple #[.slice none 0 0, .slice none 0 0, .string ⟨#[]⟩, .int .i64 2]) (by simp [results, Tryd.results4, go_sem]) rfl HQQ.out
              have hlb : ((k : Int) == (N : Int) - 1) = false := by rw [beq_eq_false_iff_ne]; omega
              have HLT : Hid ((if ls.drop (k + 1) = [] then none else letO y) = letO y) := by rw [Hid, if_neg (fun e => hlast (HNIL.out.1 e))]
              clear hlast
              by_cases hl0 : (M : Int) = 4
              · as_aux_lemma =>
                have hb4 : ((M : Int) == 4) = true := by rw [beq_iff_eq]; exact hl0
                have HLET : Hid ((if ls.drop (k + 1) = [] then none else letO y) = none) := by
                  rw [Hid, HLT.out]; unfold letO; rw [if_neg]; intro h; have := HML.out; omega
                have hq := HQe.out 2 wr (by have := HNX.out; rw [HLET.out] at this; exact this) (by decide) (HB1.out.trans (HST.out.bel.mono HB1.out.size))
                have HQQ := hidR hq
                clear hq HNX HRX
                go_wp2
                exact bodyPost_ret (v := .tuple #[.slice none 0 0, .slice none 0 0, .string ⟨#[]⟩, .int .i64 2]) (by simp [results, Tryd.results4, go_sem]) rfl HQQ.out
              have hb4 : ((M : Int) == 4) = false := by rw [beq_eq_false_iff_ne]; exact hl0
              by_cases hl8 : (M : Int) > 12
              · as_aux_lemma =>
                have HLET : Hid ((if ls.drop (k + 1) = [] then none else letO y) = none) := by
                  rw [Hid, HLT.out]; unfold letO; rw [if_neg]; intro h; have := HML.out; omega
                have hq := HQe.out 2 wr (by have := HNX.out; rw [HLET.out] at this; exact this) (by decide) (HB1.out.trans (HST.out.bel.mono HB1.out.size))
                have HQQ := hidR hq
                clear hq HNX HRX
                go_wp2
                exact bodyPost_ret (v := .tuple #[.slice none 0 0, .slice none 0 0, .string ⟨#[]⟩, .int .i64 2]) (by simp [results, Tryd.results4, go_sem]) rfl HQQ.out
              by_cases hl3 : (M : Int) + 3 ≥ ((mkB x).size : Int)
              · as_aux_lemma =>
                have HLET : Hid ((if ls.drop (k + 1) = [] then none else letO y) = none) := by
                  rw [Hid, HLT.out]; unfold letO; rw [if_neg]; intro h; have := HML.out; have := HYX.out; have := sx; omega
                have hq := HQe.out 2 wr (by have := HNX.out; rw [HLET.out] at this; exact this) (by decide) (HB1.out.trans (HST.out.bel.mono HB1.out.size))
                have HQQ := hidR hq
                clear hq HNX HRX
                go_wp2
                exact bodyPost_ret (v := .tuple #[.slice none 0 0, .slice none 0 0, .string ⟨#[]⟩, .int .i64 2]) (by simp [results, Tryd.results4, go_sem]) rfl HQQ.out
              have hsu := sub_ext x M (M + 3)
              rw [show M + 3 - M = 3 by omega, show x.drop M = y.drop (lets y).length by rw [HML.out, ← HY.out, List.drop_drop]] at hsu
              by_cases hsp : (y.drop (lets y).length).take 3 = sepL
              · have hqs : (((mkB x).extract M (M + 3)).toList == [32, 61, 32]) = true := by rw [hsu, beq_iff_eq, ByteArray.toList_eq, mkB_toList]; exact hsp
                have HLET : Hid ((if ls.drop (k + 1) = [] then none else letO y) = some (lets y, y.drop ((lets y).length + 3))) := by
                  rw [Hid, HLT.out]; unfold letO; rw [if_pos]
                  have := HML.out; have := HYX.out
                  exact ⟨by omega, by omega, by omega, hsp⟩
                have h1 := HNX.out
                rw [HLET.out] at h1
                have HNAME : Hid ((mkB x).extract 4 M = mkB (lets y)) := by
                  rw [Hid, sub_ext, HY.out, HML.out, show 4 + (lets y).length - 4 = (lets y).length by omega, lets_take]
                have HTX : Hid ((mkB x).extract (M + 3) (mkB x).size = mkB (y.drop ((lets y).length + 3))) := by
                  rw [Hid, drop_extX, HML.out, ← HY.out, List.drop_drop]
                  congr 2 <;> omega
                obtain ⟨tx, htx⟩ : ∃ tx, y.drop ((lets y).length + 3) = tx := ⟨_, rfl⟩
                rw [htx] at HTX h1
                obtain ⟨nme, hnme⟩ : ∃ nme, lets y = nme := ⟨_, rfl⟩
                rw [hnme] at h1 HNAME
                have H1 : Hid (nmAll s = if nme ∈ ns then ([], [], 7) else nmF (ns ++ [nme]) (ts ++ [tx]) (ls.drop (k + 1))) := h1
                have hmi : (M : Int) ≤ ((mkB x).size : Int) := by omega
                have hm4 : (4 : Int) ≤ (M : Int) := by have := HML.out; omega
                have hmi3 : (M : Int) + 3 ≤ ((mkB x).size : Int) := by omega
                clear h1 hsu hsp HLET HLT HNX hnme htx hl0
                go_upto_region 22 with fail
                rw [HNAME.out]
                clear hqs hl8 hb4 hlb hl3
                go_loopw [15] (fun k2 w2 => ∃ m : Nat, m ≤ M6 ∧ k2 = .int .i64 (m : Int) ∧ w2 = wr ∧ Hid (∀ i, i < m → ns.getD i [] ≠ nme)) (fun k2 _ => ((M6 : Int) - intOf k2).toNat)
                case atStart => exact ⟨0, by omega, rfl, rfl, fun i hi => absurd hi (Nat.not_lt_zero _)⟩
                case round =>
                  obtain ⟨m, hm, rfl, hwr, HNE⟩ := hrel
                  subst hwr
                  by_cases hml : m < M6
                  · as_aux_lemma =>
                    have hml' : (m : Int) < (M6 : Int) := by omega
                    have hm0 : (0 : Int) ≤ (m : Int) := by omega
                    have hmn : m < ns.length := by rw [HM6.out]; exact hml
                    obtain ⟨g6, hg6, _, hc6⟩ := HR6.out (by rw [HM6.out]; omega)
                    subst hg6
                    have c6' := hc6 m hmn
                    have hgd : ns.getD m [] = ns[m] := by simp [List.getD, hmn]
                    have hmem : ns[m] ∈ ns := List.getElem_mem hmn
                    generalize ns[m] = nx at c6' hgd hmem
                    by_cases heq : nx = nme
                    · have hqe : ((mkB nx).toList == (mkB nme).toList) = true := by rw [heq]; simp
                      have hq := HQe.out 7 _ (by rw [H1.out, if_pos (heq ▸ hmem)]) (by decide) (HB1.out.trans (HST.out.bel.mono HB1.out.size))
                      have HQQ := hidR hq
                      clear hq heq hmem hgd hc6 HNE
                      go_wp2
                      exact bodyPost_ret (v := .tuple #[.slice none 0 0, .slice none 0 0, .string ⟨#[]⟩, .int .i64 7]) (by simp [results, Tryd.results4, go_sem]) rfl HQQ.out
                    · have hqe : ((mkB nx).toList == (mkB nme).toList) = false := by rw [beq_eq_false_iff_ne, ByteArray.toList_eq, ByteArray.toList_eq, mkB_toList, mkB_toList]; exact heq
                      have HNE2 : Hid (∀ i, i < m + 1 → ns.getD i [] ≠ nme) := fun i hi => by
                        by_cases h : i = m
                        · rw [h, hgd]; exact heq
                        · exact HNE.out i (by omega)
                      clear heq hmem hgd hc6 HNE
                      go_wp2
                      go_roundw
                      case rel => exact ⟨m + 1, by omega, by go_num, by first | rfl | trivial, HNE2⟩
                      case measure => simp [intOf]; omega
                  · as_aux_lemma =>
                    have hml' : ¬ (m : Int) < (M6 : Int) := by omega
                    have hni : ¬ nme ∈ ns := fun h => by
                      obtain ⟨i, hi, e⟩ := List.getElem_of_mem h
                      exact HNE.out i (by have := HM6.out; omega) (by simp [List.getD, hi, e])
                    have H2 : Hid (nmAll s = nmF (ns ++ [nme]) (ts ++ [tx]) (ls.drop (k + 1))) := by rw [Hid, H1.out, if_neg hni]
                    have HR2 : Hid (os = rs ++ restF (ls.drop (k + 1))) := by
                      have := HRX.out
                      rw [if_pos hpx.out, List.nil_append] at this
                      exact this
                    have HL1 : Hid ((ns.map mkB).length ≤ 4398046511104 ∧ (ts.map mkB).length ≤ 4398046511104) := by
                      have := HNL.out
                      simp [Hid]; omega
                    have hbz := HST.out.bel.size
                    clear hni HNE H1 HRX
                    go_upto_region 27 with (at_builtin; go_must (refine wpList_append_strA rfl (.tmp 102) (.tmp 104) rfl w1.heap.size _ (ns.map mkB) rfl HST.out.o1 (mkB nme) rfl HL1.out.1 hbz ?_; intro v1 w3 own1 gr1 at1))
                    have st1 := HST.out.addA own1 gr1 at1
                    have HS1 := hidR st1
                    have hbz1 := st1.bel.size
                    clear own1 gr1 at1 st1 hbz HR6
                    go_wp2_with (at_builtin; go_must (refine wpList_append_strA rfl (.tmp 106) (.tmp 111) rfl w1.heap.size _ (ts.map mkB) rfl HS1.out.o2 ((mkB x).extract (M + 3) (mkB x).size) rfl HL1.out.2 hbz1 ?_; intro v2 w4 own2 gr2 at2; rw [HTX.out] at own2 gr2; have st2 := HS1.out.addB own2 gr2 at2; have HS2 := hidR st2; clear own2 gr2 at2 st2))
                    go_roundw
                    case rel => exact ⟨k + 1, ns ++ [nme], ts ++ [tx], rs, by omega, by go_num, rfl, HS2.out, H2.out, HR2.out, by have := HNL.out; exact ⟨by simp; omega, by simp; omega⟩⟩
                    case measure => simp [intOf]; omega
              · as_aux_lemma =>
                have hqs : (((mkB x).extract M (M + 3)).toList == [32, 61, 32]) = false := by rw [hsu, beq_eq_false_iff_ne, ByteArray.toList_eq, mkB_toList]; exact hsp
                have HLET : Hid ((if ls.drop (k + 1) = [] then none else letO y) = none) := by
                  rw [Hid, HLT.out]; unfold letO; rw [if_neg]; intro h; have := HML.out; exact hsp h.2.2.2
                have hmi : (M : Int) ≤ ((mkB x).size : Int) := by omega
                have hmi3 : (M : Int) + 3 ≤ ((mkB x).size : Int) := by omega
                clear hsu hsp
                have hq := HQe.out 2 wr (by have := HNX.out; rw [HLET.out] at this; exact this) (by decide) (HB1.out.trans (HST.out.bel.mono HB1.out.size))
                have HQQ := hidR hq
                clear hq HNX HRX
                go_wp2
                exact bodyPost_ret (v := .tuple #[.slice none 0 0, .slice none 0 0, .string ⟨#[]⟩, .int .i64 2]) (by simp [results, Tryd.results4, go_sem]) rfl HQQ.out
          · as_aux_lemma =>
            have hlt2' : ¬ (M : Int) < ((mkB x).size : Int) := by rw [sx]; omega
            have HML : Hid (M = 4 + (lets y).length) := by have := HLL.out; have := HYX.out; show _ = _; omega
            clear hML
            go_upto_region 18 with fail
            by_cases hlast : k + 1 = N
            · as_aux_lemma =>
              have hlb : ((k : Int) == (N : Int) - 1) = true := by rw [beq_iff_eq]; omega
              have HLET : Hid ((if ls.drop (k + 1) = [] then none else letO y) = none) := by rw [Hid, if_pos (HNIL.out.2 hlast)]
              have hq := HQe.out 2 wr (by have := HNX.out; rw [HLET.out] at this; exact this) (by decide) (HB1.out.trans (HST.out.bel.mono HB1.out.size))
              have HQQ := hidR hq
              clear hq HNX HRX
              go_wp2
              exact bodyPost_ret (v := .tuple #[.slice none 0 0, .slice none 0 0, .string ⟨#[]⟩, .int .i64 2]) (by simp [results, Tryd.results4, go_sem]) rfl HQQ.out
            have hlb : ((k : Int) == (N : Int) - 1) = false := by rw [beq_eq_false_iff_ne]; omega
            have HLT : Hid ((if ls.drop (k + 1) = [] then none else letO y) = letO y) := by rw [Hid, if_neg (fun e => hlast (HNIL.out.1 e))]
            clear hlast
            by_cases hl0 : (M : Int) = 4
            · as_aux_lemma =>
              have hb4 : ((M : Int) == 4) = true := by rw [beq_iff_eq]; exact hl0
              have HLET : Hid ((if ls.drop (k + 1) = [] then none else letO y) = none) := by
                rw [Hid, HLT.out]; unfold letO; rw [if_neg]; intro h; have := HML.out; omega
              have hq := HQe.out 2 wr (by have := HNX.out; rw [HLET.out] at this; exact this) (by decide) (HB1.out.trans (HST.out.bel.mono HB1.out.size))
              have HQQ := hidR hq
              clear hq HNX HRX
              go_wp2
              exact bodyPost_ret (v := .tuple #[.slice none 0 0, .slice none 0 0, .string ⟨#[]⟩, .int .i64 2]) (by simp [results, Tryd.results4, go_sem]) rfl HQQ.out
            have hb4 : ((M : Int) == 4) = false := by rw [beq_eq_false_iff_ne]; exact hl0
            by_cases hl8 : (M : Int) > 12
            · as_aux_lemma =>
              have HLET : Hid ((if ls.drop (k + 1) = [] then none else letO y) = none) := by
                rw [Hid, HLT.out]; unfold letO; rw [if_neg]; intro h; have := HML.out; omega
              have hq := HQe.out 2 wr (by have := HNX.out; rw [HLET.out] at this; exact this) (by decide) (HB1.out.trans (HST.out.bel.mono HB1.out.size))
              have HQQ := hidR hq
              clear hq HNX HRX
              go_wp2
              exact bodyPost_ret (v := .tuple #[.slice none 0 0, .slice none 0 0, .string ⟨#[]⟩, .int .i64 2]) (by simp [results, Tryd.results4, go_sem]) rfl HQQ.out
            by_cases hl3 : (M : Int) + 3 ≥ ((mkB x).size : Int)
            · as_aux_lemma =>
              have HLET : Hid ((if ls.drop (k + 1) = [] then none else letO y) = none) := by
                rw [Hid, HLT.out]; unfold letO; rw [if_neg]; intro h; have := HML.out; have := HYX.out; have := sx; omega
              have hq := HQe.out 2 wr (by have := HNX.out; rw [HLET.out] at this; exact this) (by decide) (HB1.out.trans (HST.out.bel.mono HB1.out.size))
              have HQQ := hidR hq
              clear hq HNX HRX
              go_wp2
              exact bodyPost_ret (v := .tuple #[.slice none 0 0, .slice none 0 0, .string ⟨#[]⟩, .int .i64 2]) (by simp [results, Tryd.results4, go_sem]) rfl HQQ.out
            exfalso
            omega
      · have hpx : Lib.hasPrefix x letP = false := by rw [← Bool.not_eq_true, pre_iff]; exact fun h => hp4 h.2
        have hq4 : (((mkB x).extract 0 4).toList == [108, 101, 116, 32]) = false := by rw [het, beq_eq_false_iff_ne, ByteArray.toList_eq, mkB_toList]; exact hp4
        clear het hp4 sx
        by_cases hlast : k + 1 = N
        · as_aux_lemma =>
          have hlb : ((k : Int) == (N : Int) - 1) = true := by rw [beq_iff_eq]; omega
          have HN2 : Hid (ls.drop (k + 1) = []) := HNIL.out.2 (by omega)
          have hpn : ¬ Lib.hasPrefix x letP = true := by rw [hpx]; simp
          have H1 : Hid (nmAll s = nmF ns ts (ls.drop (k + 1))) := by have := HNX.out; rw [if_neg hpn] at this; exact this
          have H2 : Hid (os = (rs ++ x) ++ restF (ls.drop (k + 1))) := by have := HRX.out; rw [if_neg hpn, if_pos HN2.out] at this; rw [List.append_nil, ← List.append_assoc] at this; exact this
          have he1 := hidR (mkB_append rs x)
          have hs1 : (mkB rs).size + (mkB x).size ≤ 1048576 := by rw [mkB_size, mkB_size]; omega
          have hs1b : (mkB rs).size ≤ 1048576 ∧ (mkB x).size ≤ 1048576 := by rw [mkB_size, mkB_size]; omega
          obtain ⟨hs2, hs3⟩ := hs1b
          clear HNX HRX hpn hpx sr HN2
          go_upto_region 13 with fail
          rw [he1.out]
          clear he1 hs1 hs2 hs3
          go_wp2
          go_roundw
          case rel => exact ⟨k + 1, ns, ts, rs ++ x, by omega, by go_num, rfl, HST.out, H1.out, H2.out, by have := HNL.out; exact ⟨by omega, by omega⟩⟩
          case measure => simp [intOf]; omega
        · as_aux_lemma =>
          have hlb : ((k : Int) == (N : Int) - 1) = false := by rw [beq_eq_false_iff_ne]; omega
          have HN2 : Hid (ls.drop (k + 1) ≠ []) := fun e => hlast (HNIL.out.1 e)
          have hpn : ¬ Lib.hasPrefix x letP = true := by rw [hpx]; simp
          have H1 : Hid (nmAll s = nmF ns ts (ls.drop (k + 1))) := by have := HNX.out; rw [if_neg hpn] at this; exact this
          have H2 : Hid (os = (rs ++ x ++ [10]) ++ restF (ls.drop (k + 1))) := by have := HRX.out; rw [if_neg hpn, if_neg HN2.out] at this; simpa [Hid] using this
          have he1 := hidR (mkB_append rs x)
          have hs1 : (mkB rs).size + (mkB x).size ≤ 1048576 := by rw [mkB_size, mkB_size]; omega
          have hs1b : (mkB rs).size ≤ 1048576 ∧ (mkB x).size ≤ 1048576 := by rw [mkB_size, mkB_size]; omega
          obtain ⟨hs2, hs3⟩ := hs1b
          clear HNX HRX hpn hpx sr HN2
          go_upto_region 13 with fail
          rw [he1.out]
          clear he1 hs1 hs2 hs3
          have he2 := hidR (mkB_append (rs ++ x) [10])
          rw [show mkB [10] = (⟨#[10]⟩ : ByteArray) from rfl] at he2
          have hs4 : (mkB (rs ++ x)).size ≤ 1048576 ∧ (mkB (rs ++ x)).size + 1 ≤ 1048576 := by rw [mkB_size]; simp; omega
          obtain ⟨hs4, hs5⟩ := hs4
          go_wp2
          go_roundw
          case rel => exact ⟨k + 1, ns, ts, rs ++ x ++ [10], by omega, by go_num, by rw [he2.out], HST.out, H1.out, H2.out, by have := HNL.out; exact ⟨by omega, by omega⟩⟩
          case measure => simp [intOf]; omega
    · as_aux_lemma =>
      have hlt' : ¬ (k : Int) < (N : Int) := by omega
      have hd : ls.drop k = [] := List.drop_of_length_le (by rw [HN.out]; omega)
      have h1 := HNM.out
      have h2 := HRS.out
      rw [hd] at h1 h2
      rw [nmF] at h1
      rw [restF, List.append_nil] at h2
      have hq := HQo.out ns ts u6 u7 wr h1 (HST.out.o1.base HB1.out.size) (HST.out.o2.base HB1.out.size) (HB1.out.trans (HST.out.bel.mono HB1.out.size))
      rw [h2] at hq
      have HQQ := hidR hq
      clear h1 h2 hd hq HNM HRS HST
      go_wp2
      exact bodyPost_ret (v := .tuple #[u6, u7, .string (mkB rs), .int .i64 0]) (by simp [results, Tryd.results4, go_sem]) rfl HQQ.out
end Go.Proofs.YtjhofmmmlemfcaaDoor
