/- What the reference's Norm returns (package portref1): 'normR'. -/
import Derived.Test.YtaimahlhlfifnaaGreatDoorRefSpn
namespace Go.Proofs.YtaimahlhlfifnaaGreatDoor
open Go.RowKit
set_option linter.unusedVariables false
set_option maxRecDepth 4000

/-- Where the reference stands among those that were laid: k of them looked at. -/
def NrmAt (out fin : List Sp) (k : Nat) (a b : Int) (done : Bool) (next : List Sp) : Prop :=
  next.length ≤ k + 1 ∧ (done = false → next ++ mergeIn (out.drop k) a b = fin) ∧ (done = true → next ++ out.drop k = fin ∧ ∀ s ∈ out.drop k, b + 1 < s.1)
theorem NrmAt.below {out fin next : List Sp} {k : Nat} {a b : Int} (h : NrmAt out fin k a b false next) (hk : k < out.length) (h1 : out[k].2 + 1 < a) (hl : next.length ≤ k) : NrmAt out fin (k + 1) a b false (next ++ [out[k]]) := by
  refine ⟨by simp; omega, fun _ => ?_, fun h => by cases h⟩
  have := h.2.1 rfl
  rw [List.drop_eq_getElem_cons hk, mergeIn, if_pos h1] at this
  rw [List.append_assoc]; exact this
theorem NrmAt.above {out fin next : List Sp} {k : Nat} {a b : Int} (hn : Nrm out) (h : NrmAt out fin k a b false next) (hk : k < out.length) (h1 : ¬ out[k].2 + 1 < a) (h2 : b + 1 < out[k].1) (hl : next.length ≤ k) : NrmAt out fin (k + 1) a b true (next ++ [(a, b)] ++ [out[k]]) := by
  refine ⟨by simp; omega, (fun h => by cases h), fun _ => ⟨?_, fun s hs => ?_⟩⟩
  · have := h.2.1 rfl
    rw [List.drop_eq_getElem_cons hk, mergeIn, if_neg h1, if_pos h2] at this
    rw [← this]; simp
  · obtain ⟨j, hj, rfl⟩ := List.getElem_of_mem hs
    rw [List.getElem_drop]
    rw [List.length_drop] at hj
    have h3 := (List.pairwise_iff_getElem.1 hn.2) k (k + 1 + j) hk (by omega) (by omega)
    have h4 := hn.1 out[k] (List.getElem_mem _)
    omega
theorem NrmAt.merge {out fin next : List Sp} {k : Nat} {a b a' b' : Int} (h : NrmAt out fin k a b false next) (hk : k < out.length) (h1 : ¬ out[k].2 + 1 < a) (h2 : ¬ b + 1 < out[k].1) (ha : a' = if out[k].1 < a then out[k].1 else a) (hb : b' = if out[k].2 > b then out[k].2 else b) : NrmAt out fin (k + 1) a' b' false next := by
  refine ⟨by have := h.1; omega, fun _ => ?_, fun h => by cases h⟩
  have := h.2.1 rfl
  rw [List.drop_eq_getElem_cons hk, mergeIn, if_neg h1, if_neg h2, ← ha, ← hb] at this
  exact this
theorem NrmAt.behind {out fin next : List Sp} {k : Nat} {a b : Int} (h : NrmAt out fin k a b true next) (hk : k < out.length) : NrmAt out fin (k + 1) a b true (next ++ [out[k]]) ∧ b + 1 < out[k].1 := by
  obtain ⟨h1, h2⟩ := h.2.2 rfl
  rw [List.drop_eq_getElem_cons hk] at h1 h2
  refine ⟨⟨by have := h.1; simp; omega, (fun h => by cases h), fun _ => ⟨by rw [← h1]; simp, fun s hs => h2 s (List.mem_cons_of_mem _ hs)⟩⟩, h2 _ List.mem_cons_self⟩
theorem NrmAt.endNo {out fin next : List Sp} {k : Nat} {a b : Int} (h : NrmAt out fin k a b false next) (hk : out.length ≤ k) : next ++ [(a, b)] = fin := by
  have := h.2.1 rfl
  rw [List.drop_of_length_le hk] at this; exact this
theorem NrmAt.endYes {out fin next : List Sp} {k : Nat} {a b : Int} (h : NrmAt out fin k a b true next) (hk : out.length ≤ k) : next = fin := by
  have := (h.2.2 rfl).1
  rw [List.drop_of_length_le hk, List.append_nil] at this; exact this
set_option maxHeartbeats 16000000 in
theorem refNorm_any (v : Value) (l : List Sp) (w : World) (hv : Spns w v l) (hN : l.length ≤ 100000) (hok : OkS l) :
    Calls Tryz.prog 7 #[v] w fun e w' => ∃ v', e = .returned v' ∧ OwnSp w' w.heap.size v' (normR l) ∧ Below w.heap.size w w' := by
  obtain ⟨ao, co, rfl⟩ := hv.len
  obtain ⟨N, hNe⟩ : ∃ N, l.length = N := ⟨_, rfl⟩
  rw [hNe] at hv hN ⊢
  have HN : Hid (l.length = N) := hNe
  have HV : Hid (Spns w (.slice ao N co) l) := hv
  have HOK : Hid (OkS l) := hok
  clear hv hNe hok
  go_enter Tryz.func7, Tryz.ntmps7
  go_wp2
  go_loopw [3, 4] (fun v3 i wr => ∃ (k : Nat), k ≤ N ∧ i = .int .i64 (k : Int) ∧ OwnSp wr w.heap.size v3 (normR (l.take k)) ∧ Below w.heap.size w wr) (fun _ i _ => ((N : Int) - intOf i).toNat)
  case atStart => exact ⟨0, by omega, rfl, OwnSp.nil _ _, Below.refl _ _⟩
  case round =>
    obtain ⟨k, hk, rfl, hown, hb⟩ := hrel
    by_cases hlt : k < N
    · have hlt' : (k : Int) < (N : Int) := by omega
      have hkl : k < l.length := by rw [HN.out]; exact hlt
      obtain ⟨b, off, rfl, hbl, hcc, hcm, hcs⟩ := HV.out.shape (by omega)
      obtain ⟨c0, c1⟩ := (hcs k hkl).keep (hb.block b hbl)
      unfold maxLen at hcm
      have hs := HOK.out l[k] (List.getElem_mem _)
      obtain ⟨n1, n2, n3⟩ := normR_is (l.take k) (fun s hs => HOK.out s (List.mem_of_mem_take hs))
      have HF : Hid (normR (l.take (k + 1)) = mergeIn (normR (l.take k)) l[k].1 l[k].2) := by rw [Hid, List.take_succ_eq_append_getElem hkl, normR_snoc]
      have hlen : (normR (l.take k)).length ≤ k := by rw [List.length_take] at n3; omega
      generalize normR (l.take k) = out at hown n1 HF hlen
      generalize l[k] = t at c0 c1 hs HF
      obtain ⟨p0, q0⟩ := t
      simp only at c0 c1 hs HF
      obtain ⟨O, hO⟩ : ∃ O, out.length = O := ⟨_, rfl⟩
      have HO : Hid (out.length = O) := hO
      obtain ⟨a3, c3, he3⟩ := hown.len
      rw [hO] at he3 hlen
      subst he3
      have HW : Hid (OwnSp wr w.heap.size (.slice a3 O c3) out) := hown
      have HNR : Hid (Nrm out) := n1
      have HBW : Hid (Below w.heap.size w wr) := hb
      obtain ⟨fin, hfin⟩ : ∃ fin, mergeIn out p0 q0 = fin := ⟨_, rfl⟩
      rw [hfin] at HF
      have H0 : Hid (NrmAt out fin 0 p0 q0 false []) := ⟨by simp, fun _ => by rw [List.drop_zero]; exact hfin, fun h => by cases h⟩
      obtain ⟨wO, hwO⟩ : ∃ wO, wO = wr := ⟨_, rfl⟩
      subst hwO
      obtain ⟨hs0, hs1, hs2⟩ := hs
      clear hO n1 n2 n3 hfin hown hb hcs
      go_wp2
      go_loopw [5, 6, 7, 8, 9] (fun av bv nv dv iv wr => ∃ (m : Nat) (a b : Int) (done : Bool) (next : List Sp), m ≤ O ∧ iv = .int .i64 (m : Int) ∧ av = .int .i64 a ∧ bv = .int .i64 b ∧ dv = .bool done ∧ 0 ≤ a ∧ a ≤ b ∧ b ≤ 65535 ∧ OwnSp wr wO.heap.size nv next ∧ next.length ≤ m + 1 ∧ (done = false → next.length ≤ m) ∧ Below wO.heap.size wO wr ∧ Hid (NrmAt out fin m a b done next)) (fun _ _ _ _ iv _ => ((O : Int) - intOf iv).toNat)
      case atStart => exact ⟨0, p0, q0, false, [], by omega, rfl, rfl, rfl, rfl, hs0, hs1, hs2, OwnSp.nil _ _, by simp, fun _ => by simp, Below.refl _ _, H0.out⟩
      case round =>
        obtain ⟨m, a, b, done, next, hm, rfl, rfl, rfl, rfl, ha0, hab, hb1, hnx, hnl, hnl2, hbw, hat⟩ := hrel
        by_cases hml : m < O
        · have hml' : (m : Int) < (O : Int) := by omega
          have hmo : m < out.length := by rw [HO.out]; exact hml
          obtain ⟨g3, cap3, hv3, _, hg3, hl3, hc3⟩ := HW.out.shape (by omega)
          simp only [Value.slice.injEq] at hv3
          obtain ⟨rfl, hmid, rfl⟩ := hv3
          clear hmid
          obtain ⟨d0, d1⟩ := (HW.out.cells m hmo).keep (hbw.block g3 hg3)
          unfold maxLen at hc3
          have hl3' : O ≤ c3 := by have := HO.out; omega
          have hso := HNR.out.1 out[m] (List.getElem_mem _)
          have HBE : Hid (∀ (h : out[m].2 + 1 < a) (hd : done = false), NrmAt out fin (m + 1) a b false (next ++ [out[m]])) := fun h hd => by subst hd; exact hat.out.below hmo h (hnl2 rfl)
          have HAB : Hid (∀ (h1 : ¬ out[m].2 + 1 < a) (h2 : b + 1 < out[m].1) (hd : done = false), NrmAt out fin (m + 1) a b true (next ++ [(a, b)] ++ [out[m]])) := fun h1 h2 hd => by subst hd; exact hat.out.above HNR.out hmo h1 h2 (hnl2 rfl)
          have HME : Hid (∀ (a' b' : Int) (h1 : ¬ out[m].2 + 1 < a) (h2 : ¬ b + 1 < out[m].1) (hd : done = false) (ha : a' = if out[m].1 < a then out[m].1 else a) (hb : b' = if out[m].2 > b then out[m].2 else b), NrmAt out fin (m + 1) a' b' false next) := fun a' b' h1 h2 hd ha hb => by subst hd; exact hat.out.merge hmo h1 h2 ha hb
          have HBH : Hid (∀ (hd : done = true), NrmAt out fin (m + 1) a b true (next ++ [out[m]]) ∧ b + 1 < out[m].1) := fun hd => by subst hd; exact hat.out.behind hmo
          generalize out[m] = s at d0 d1 hso HBE HAB HME HBH
          obtain ⟨p, q⟩ := s
          simp only at d0 d1 hso HBE HAB HME HBH
          obtain ⟨ho0, ho1, ho2⟩ := hso
          have ba := (Below.refl wr.heap.size wr).alloc (Nat.le_refl _) (.cells #[.int .i64 p, .int .i64 q] 38)
          have hna := hnx.below ba
          have hwa := hbw.trans (ba.mono hbw.size)
          have f0 : (wr.alloc (.cells #[.int .i64 p, .int .i64 q] 38)).cell? ⟨wr.heap.size, 0, none⟩ = some (.int .i64 p) := by simp
          have f1 : (wr.alloc (.cells #[.int .i64 p, .int .i64 q] 38)).cell? ⟨wr.heap.size, 1, none⟩ = some (.int .i64 q) := by simp
          have hgn : ∀ k, u7.ownBlock = some k → k < wr.heap.size := fun k h => (hnx.block k h).2
          have hWs : (wr.alloc (.cells #[.int .i64 p, .int .i64 q] 38)).heap.size = wr.heap.size + 1 := by simp
          have HGN : Hid (∀ k, u7.ownBlock = some k → k < wr.heap.size) := hgn
          clear hnx hbw ba hgn
          go_upto_region 13 with fail
          generalize wr.alloc (.cells #[.int .i64 p, .int .i64 q] 38) = W at hna hwa f0 f1 hWs ⊢
          have HWS : Hid (W.heap.size = wr.heap.size + 1) := hWs
          obtain ⟨gs, hgs⟩ : ∃ gs, wr.heap.size = gs := ⟨_, rfl⟩
          rw [hgs] at f0 f1 HGN HWS ⊢
          have hWb := hwa.size
          have HNA : Hid (OwnSp W wO.heap.size u7 next) := hna
          have HWA : Hid (Below wO.heap.size wO W) := hwa
          have hnx5 : next.length ≤ 1000000 := by omega
          clear d0 d1 hgs hWs hwa
          by_cases h1 : q + 1 < a
          · have hdn : done = false := by
              cases done with
              | false => rfl
              | true => have := (HBH.out rfl).2; omega
            subst hdn
            have HX : Hid (NrmAt out fin (m + 1) a b false (next ++ [(p, q)])) := HBE.out h1 rfl
            clear HBE HAB HME HBH
            go_wp2_with (at_builtin; go_must (refine wpList_append_sp rfl (.tmp 42) (.tmp 44) rfl wO.heap.size u7 next rfl hna p q rfl hnx5 hWb ?_; intro g5 c5 W5 own5 grow5 lie5))
            go_roundw
            case rel => exact ⟨m + 1, a, b, false, next ++ [(p, q)], by omega, by go_num, rfl, rfl, rfl, ha0, hab, hb1, own5, by simp; omega, fun _ => by have := hnl2 rfl; simp; omega, HWA.out.trans (app_below HNA.out grow5 hWb), HX.out⟩
            case measure => simp [intOf]; omega
          · by_cases h2 : b + 1 < p
            · cases done with
              | true =>
                have HX : Hid (NrmAt out fin (m + 1) a b true (next ++ [(p, q)])) := (HBH.out rfl).1
                clear HBE HAB HME HBH
                go_wp2_with (at_builtin; go_must (refine wpList_append_sp rfl (.tmp 59) (.tmp 61) rfl wO.heap.size u7 next rfl hna p q rfl hnx5 hWb ?_; intro g5 c5 W5 own5 grow5 lie5))
                go_roundw
                case rel => exact ⟨m + 1, a, b, true, next ++ [(p, q)], by omega, by go_num, rfl, rfl, rfl, ha0, hab, hb1, own5, by simp; omega, (fun h => by cases h), HWA.out.trans (app_below HNA.out grow5 hWb), HX.out⟩
                case measure => simp [intOf]; omega
              | false =>
                have HX : Hid (NrmAt out fin (m + 1) a b true (next ++ [(a, b)] ++ [(p, q)])) := HAB.out h1 h2 rfl
                clear HBE HAB HME HBH
                go_upto_region 19 with (at_builtin; go_must (refine wpList_append_sp rfl (.tmp 53) (.tmp 57) rfl wO.heap.size u7 next rfl hna a b rfl hnx5 hWb ?_; intro g5 c5 W5 own5 grow5 lie5))
                have HB5 : Hid (Below wO.heap.size wO W5) := HWA.out.trans (app_below HNA.out grow5 hWb)
                have hb5 := HB5.out.size
                have hbk : W5.heap[gs]? = W.heap[gs]? := by
                  have h3 := HWS.out
                  rw [grow5.block gs (by simp; omega) (fun e => by have := HGN.out gs e.symm; omega)]
                  exact ((Below.refl W.heap.size W).alloc (Nat.le_refl _) _).block gs (by omega)
                have e0 : W5.cell? ⟨gs, 0, none⟩ = some (.int .i64 p) := (World.cell?_of_block (w := W) (a := ⟨gs, 0, none⟩) hbk).trans f0
                have e1 : W5.cell? ⟨gs, 1, none⟩ = some (.int .i64 q) := (World.cell?_of_block (w := W) (a := ⟨gs, 1, none⟩) hbk).trans f1
                have hnx6 : (next ++ [(a, b)]).length ≤ 1000000 := by simp; omega
                have hln : (next ++ [(a, b)] ++ [(p, q)]).length ≤ m + 1 + 1 := by have := hnl2 rfl; simp; omega
                have HLN : Hid ((next ++ [(a, b)] ++ [(p, q)]).length ≤ m + 1 + 1) := hln
                have HO5 : Hid (OwnSp W5 wO.heap.size (.slice (some ⟨g5, 0, none⟩) (next.length + 1) c5) (next ++ [(a, b)])) := own5
                clear f0 f1 hbk grow5 lie5 hna hln
                generalize next ++ [(a, b)] = nx6 at own5 hnx6 HO5 HX HLN
                generalize next.length + 1 = n6 at own5 HO5 ⊢
                go_wp2_with (at_builtin; go_must (refine wpList_append_sp rfl (.tmp 59) (.tmp 61) rfl wO.heap.size (.slice (some ⟨g5, 0, none⟩) n6 c5) nx6 rfl own5 p q rfl hnx6 hb5 ?_; intro g6 c6 W6 own6 grow6 lie6))
                go_roundw
                case rel => exact ⟨m + 1, a, b, true, nx6 ++ [(p, q)], by omega, by go_num, rfl, rfl, rfl, ha0, hab, hb1, own6, HLN.out, (fun h => by cases h), HB5.out.trans (app_below HO5.out grow6 hb5), HX.out⟩
                case measure => simp [intOf]; omega
            · have hdn : done = false := by
                cases done with
                | false => rfl
                | true => have := (HBH.out rfl).2; omega
              subst hdn
              have HX := HME
              clear HBE HAB HBH
              by_cases h3 : p < a
              · by_cases h4 : b < q
                · have HY : Hid (NrmAt out fin (m + 1) p q false next) := HX.out p q h1 h2 rfl (by rw [if_pos h3]) (by rw [if_pos h4])
                  clear HX HME
                  go_wp2_with fail
                  go_roundw
                  case rel => exact ⟨m + 1, p, q, false, next, by omega, by go_num, rfl, rfl, rfl, ho0, ho1, ho2, HNA.out, by omega, fun _ => by have := hnl2 rfl; omega, HWA.out, HY.out⟩
                  case measure => simp [intOf]; omega
                · have HY : Hid (NrmAt out fin (m + 1) p b false next) := HX.out p b h1 h2 rfl (by rw [if_pos h3]) (by rw [if_neg h4])
                  clear HX HME
                  go_wp2_with fail
                  go_roundw
                  case rel => exact ⟨m + 1, p, b, false, next, by omega, by go_num, rfl, rfl, rfl, ho0, by omega, hb1, HNA.out, by omega, fun _ => by have := hnl2 rfl; omega, HWA.out, HY.out⟩
                  case measure => simp [intOf]; omega
              · by_cases h4 : b < q
                · have HY : Hid (NrmAt out fin (m + 1) a q false next) := HX.out a q h1 h2 rfl (by rw [if_neg h3]) (by rw [if_pos h4])
                  clear HX HME
                  go_wp2_with fail
                  go_roundw
                  case rel => exact ⟨m + 1, a, q, false, next, by omega, by go_num, rfl, rfl, rfl, ha0, by omega, ho2, HNA.out, by omega, fun _ => by have := hnl2 rfl; omega, HWA.out, HY.out⟩
                  case measure => simp [intOf]; omega
                · have HY : Hid (NrmAt out fin (m + 1) a b false next) := HX.out a b h1 h2 rfl (by rw [if_neg h3]) (by rw [if_neg h4])
                  clear HX HME
                  go_wp2_with fail
                  go_roundw
                  case rel => exact ⟨m + 1, a, b, false, next, by omega, by go_num, rfl, rfl, rfl, ha0, hab, hb1, HNA.out, by omega, fun _ => by have := hnl2 rfl; omega, HWA.out, HY.out⟩
                  case measure => simp [intOf]; omega
        · have hml' : ¬ (m : Int) < (O : Int) := by omega
          have hwb := hbw.size
          have HNX : Hid (OwnSp wr wO.heap.size u7 next) := hnx
          have HBX : Hid (Below w.heap.size w wr) := HBW.out.trans (hbw.mono HBW.out.size)
          have hmo : out.length ≤ m := by rw [HO.out]; omega
          cases done with
          | false =>
            have HX : Hid (next ++ [(a, b)] = fin) := hat.out.endNo hmo
            have hnx5 : next.length ≤ 1000000 := by omega
            clear hat hbw
            go_wp2_with (at_builtin; go_must (refine wpList_append_sp rfl (.tmp 77) (.tmp 81) rfl wO.heap.size u7 next rfl hnx a b rfl hnx5 hwb ?_; intro g5 c5 W5 own5 grow5 lie5))
            go_roundw
            case rel =>
              refine ⟨k + 1, by omega, by go_num, ?_, HBX.out.trans ((app_below HNX.out grow5 hwb).mono HBW.out.size)⟩
              rw [HF.out, ← HX.out]; exact own5.base HBW.out.size
            case measure => simp [intOf]; omega
          | true =>
            have HX : Hid (next = fin) := hat.out.endYes hmo
            clear hat hbw
            go_wp2_with fail
            go_roundw
            case rel =>
              refine ⟨k + 1, by omega, by go_num, ?_, HBX.out⟩
              rw [HF.out, ← HX.out]; exact HNX.out.base HBW.out.size
            case measure => simp [intOf]; omega
    · have hlt' : ¬ (k : Int) < (N : Int) := by omega
      rw [List.take_of_length_le (by rw [HN.out]; omega)] at hown
      go_wp2
      go_ret
      exact ⟨_, rfl, hown, hb⟩
end Go.Proofs.YtaimahlhlfifnaaGreatDoor
