/- What 'fitting' and 'starts' return (package plan). -/
import Derived.Test.YtdellfmkmbabhaaPlanAsk
import Derived.Test.YtdellfmkmbabhaaPlanHas
import Derived.Test.YtdellfmkmbabhaaRuleRow
import Derived.Test.YtdellfmkmbabhaaRlOwn
import Derived.Test.YtdellfmkmbabhaaSpnEnds
import Derived.Lib.EndianBits
namespace Go.Proofs.Ytdellfmkmbabhaa
open Go.RowKit
set_option linter.unusedVariables false
set_option maxRecDepth 10000

theorem or64 {a b : Nat} (ha : a < 2 ^ 64) (hb : b < 2 ^ 64) : bits .or .u64 (a : Int) (b : Int) = ((a ||| b : Nat) : Int) := (bits_nat .u64 64 (by decide) (fun n h0 h1 => wraps_u64 n h0 h1) a b ha hb).2
theorem and64 {a b : Nat} (ha : a < 2 ^ 64) (hb : b < 2 ^ 64) : bits .and .u64 (a : Int) (b : Int) = ((a &&& b : Nat) : Int) := (bits_nat .u64 64 (by decide) (fun n h0 h1 => wraps_u64 n h0 h1) a b ha hb).1
theorem pow_le20 {k : Nat} (h : k ≤ 20) : 2 ^ k < 2 ^ 64 := Nat.pow_lt_pow_right (by omega) (by omega)
theorem shl64 {k : Nat} (h : k ≤ 20) : IntKind.u64.wrap ((2 : Int) ^ k) = ((2 ^ k : Nat) : Int) := by
  have h1 := pow_le20 h
  have e : ((2 : Int) ^ k) = ((2 ^ k : Nat) : Int) := by simp
  rw [e]
  exact wraps_u64 _ (Int.natCast_nonneg _) (by exact_mod_cast h1)
theorem or_step {F k : Nat} (hF : F < 2 ^ k) (hk : k ≤ 20) : bits .or .u64 (F : Int) (IntKind.u64.wrap ((2 : Int) ^ k)) = ((F ||| 2 ^ k : Nat) : Int) := by
  rw [shl64 hk]
  exact or64 (Nat.lt_trans hF (pow_le20 hk)) (pow_le20 hk)
theorem cellAt1 {w : World} {g : Nat} {v : Value} {t : TypeId} (h : w.heap[g]? = some (.cells #[v] t (0, 0))) : w.cell? ⟨g, 0, none⟩ = some v := by rw [cell_of_row w g _ _ _ _ h]; rfl
theorem askL_take {rs : List Rl} {k side : Nat} (h : k < rs.length) : askL (rs.take (k + 1)) side = askL (rs.take k) side ++ [askS rs[k] side] := by
  unfold askL
  rw [List.take_succ_eq_append_getElem h, List.map_append]; rfl
set_option maxHeartbeats 16000000 in
theorem fitting_any (sd : Nat) (x : Int) (v : Value) (rs : List Rx) (w : World) (hv : Rls w v rs) (hr : ∀ r ∈ rs.map Prod.fst, ruE r = 0) (hn : rs.length ≤ 20) (fn : Nat) (hfn : Asks fn sd) (eg : ∀ args w, (callFunc fn args).run Try.prog w = .ok (.enter fn args) w) :
    Calls Try.prog 52 #[.int .i64 x, v, .func (.func fn) #[] #[]] w fun e w' => e = .returned (.int .u64 (fitV (askL (rs.map Prod.fst) sd) x : Int)) ∧ Below w.heap.size w w' := by
  obtain ⟨ao, co, hve⟩ := hv.len
  obtain ⟨N, hN⟩ : ∃ N, rs.length = N := ⟨_, rfl⟩
  rw [hN] at hve hn
  subst hve
  obtain ⟨RS, hRS⟩ : ∃ RS, rs.map Prod.fst = RS := ⟨_, rfl⟩
  rw [hRS] at hr ⊢
  obtain ⟨Q, hQ⟩ : ∃ Q : Ending → World → Prop, Q = fun e w' => e = .returned (.int .u64 (fitV (askL RS sd) x : Int)) ∧ Below w.heap.size w w' := ⟨_, rfl⟩
  have HQ : Hid (∀ w', Below w.heap.size w w' → Q (.returned (.int .u64 (fitV (askL RS sd) x : Int))) w') := by rw [hQ]; exact fun _ h => ⟨rfl, h⟩
  rw [← hQ]
  clear hQ
  have b0 : Below w.heap.size w (w.alloc (.cells #[.int .i64 x] 3)) := (Below.refl _ _).alloc (Nat.le_refl _) _
  have c0 := heap_alloc_new w (.cells #[.int .i64 x] 3)
  have z0 : (w.alloc (.cells #[.int .i64 x] 3)).heap.size = w.heap.size + 1 := by simp
  obtain ⟨W0, hW0⟩ : ∃ W0, w.alloc (.cells #[.int .i64 x] 3) = W0 := ⟨_, rfl⟩
  rw [hW0] at b0 c0 z0
  obtain ⟨S, hS⟩ : ∃ S, w.heap.size = S := ⟨_, rfl⟩
  rw [hS] at b0 c0 z0
  have HS := hidE hS
  have HW0 := hidE hW0
  have HB0 := hidE b0
  have HC0 := hidE c0
  have HV := hidE hv
  have HR := hidE hr
  have HNN := hidE hN
  have HRS := hidE hRS
  have HF := hidE hfn
  clear hv hr hN hRS b0 c0 hW0 hS hfn
  go_enter Try.func52, Try.ntmps52
  go_upto_region 1 with fail
  rw [HW0.out, HS.out]
  go_upto_region 3 with fail
  go_loopw [7, 8, 9, 10, 13] (fun f _ _ _ i wr => ∃ k : Nat, k ≤ N ∧ i = .int .i64 (k : Int) ∧ f = .int .u64 (fitV (askL (RS.take k) sd) x : Int) ∧ Hid (wr.heap[S]? = some (.cells #[.int .i64 x] 3 (0, 0))) ∧ Hid (Below S w wr) ∧ Hid (S + 1 ≤ wr.heap.size)) (fun _ _ _ _ i _ => ((N : Int) - intOf i).toNat)
  case atStart => exact ⟨0, by omega, rfl, rfl, HC0.out, HB0.out, Nat.le_of_eq z0.symm⟩
  case round =>
    clear HC0 HB0 HW0
    obtain ⟨k, hk, rfl, rfl, HC, HB, HZ⟩ := hrel
    by_cases hkn : k < N
    · have j1 : (k : Int) < (N : Int) := by omega
      have j2 : (0 : Int) ≤ (k : Int) := by omega
      have hkl : k < rs.length := by have := HNN.out; omega
      have hkR : k < RS.length := by rw [← HRS.out, List.length_map]; exact hkl
      obtain ⟨b1, o1, e1, hb1, hl1, hx1, hc1⟩ := HV.out.shape (by omega)
      subst e1
      have hx1' : co ≤ 9223372036854775807 := by unfold maxLen at hx1; omega
      have hC0 := hc1 k hkl
      have hC := hC0.below hb1 (by rw [HS.out]; exact HB.out)
      have HT := hidE (askL_take (side := sd) hkR)
      have hRk : RS[k] = rs[k].1 := by
        have := HRS.out
        subst this
        rw [List.getElem_map]
      have hru := HR.out RS[k] (List.getElem_mem _)
      rw [hRk] at HT hru
      generalize rs[k].1 = r at hC hC0 HT hru
      generalize rs[k].2.1 = fv at hC hC0
      generalize rs[k].2.2 = tv at hC hC0
      obtain ⟨af, cf, hfe⟩ := hC.2.1.len
      obtain ⟨at', ct, hte⟩ := hC.2.2.1.len
      generalize hnf : r.fr.length = nf at hfe
      generalize hnt : r.tl.length = nt at hte
      subst hfe hte
      clear hc1 hx1 hRk
      obtain ⟨⟨c0, c1, c2, c3, c4, c5, c6, c7, c8, c9, c10⟩, _, _, s3, s4⟩ := hC
      obtain ⟨_, s1, s2, _, _⟩ := hC0
      have b2 : Below wr.heap.size wr (wr.alloc (.cells #[.bool r.pass, .bool r.quick, .bool r.keep, .int .i64 r.way, .int .i64 r.kind, .int .i64 r.sa, .int .i64 r.sl, .int .i64 r.da, .int .i64 r.dl, .slice af nf cf, .slice at' nt ct] 34)) := (Below.refl _ _).alloc (Nat.le_refl _) _
      have hR2 := RlAt.new wr r (.slice af nf cf) (.slice at' nt ct)
      have hask := HF.out r (.slice af nf cf) (.slice at' nt ct) w (wr.alloc (.cells #[.bool r.pass, .bool r.quick, .bool r.keep, .int .i64 r.way, .int .i64 r.kind, .int .i64 r.sa, .int .i64 r.sl, .int .i64 r.da, .int .i64 r.dl, .slice af nf cf, .slice at' nt ct] 34)) hru s1 s2 (by rw [HS.out]; exact HB.out.trans (b2.mono (by have := HZ.out; omega)))
      unfold rlV GivesSp at hask
      have HB2 := hidE (HB.out.trans (b2.mono (by have := HZ.out; omega)))
      have HC2 := hidE ((b2.block S (by have := HZ.out; omega)).trans HC.out)
      have HZ2 := hidE (Nat.le_trans HZ.out b2.size)
      obtain ⟨W2, hW2⟩ : ∃ W2, wr.alloc (.cells #[.bool r.pass, .bool r.quick, .bool r.keep, .int .i64 r.way, .int .i64 r.kind, .int .i64 r.sa, .int .i64 r.sl, .int .i64 r.da, .int .i64 r.dl, .slice af nf cf, .slice at' nt ct] 34) = W2 := ⟨_, rfl⟩
      have HW2 := hidE hW2
      rw [hW2] at hR2 hask HB2 HC2 HZ2
      obtain ⟨d0, d1, d2, d3, d4, d5, d6, d7, d8, d9, d10⟩ := hR2.cells
      have HAL := hidE (ask_in hru sd).1
      clear s1 s2 s3 s4 b2 hR2 hW2 HB HC HZ HV hnf hnt hru hkR hkl
      go_upto_region 5 with fail
      rw [HW2.out]
      clear c0 c1 c2 c3 c4 c5 c6 c7 c8 c9 c10 HW2
      go_upto_region 6 with (refine hask.mono ?_; rintro e W3 ⟨a3, k3, rfl, s3, b3, _⟩)
      have HB3 := hidE (HB2.out.trans (b3.mono (by have := HZ2.out; omega)))
      have HC3 := hidE ((b3.block S (by have := HZ2.out; omega)).trans HC2.out)
      have HZ3 := hidE (Nat.le_trans HZ2.out b3.size)
      have hfc := fcon_any (.slice a3 (askS r sd).length k3) (askS r sd) x S W3 s3 (by have := HAL.out; omega) (by have := HZ3.out; omega) (cellAt1 HC3.out)
      have HI := hidE (fitV_snoc x (askS r sd) (askL (RS.take k) sd))
      rw [← HT.out] at HI
      have hlk : (askL (RS.take k) sd).length = k := by unfold askL; rw [List.length_map, List.length_take]; have := HNN.out; have := HRS.out; rw [← this, List.length_map]; omega
      rw [hlk] at HI
      have hFl := fitV_lt (askL (RS.take k) sd) x
      rw [hlk] at hFl
      have hIS : inS (askS r sd) x = (decide ((askS r sd).length = 0) || inB (askS r sd) x) := rfl
      rw [hIS] at HI
      generalize (askS r sd).length = m at hfc HI ⊢
      generalize inB (askS r sd) x = t at hfc HI
      generalize fitV (askL (RS.take k) sd) x = F at HI hFl ⊢
      clear hask b3 s3 HB2 HC2 HZ2 d0 d1 d2 d3 d4 d5 d6 d7 d8 d9 d10 HT hlk hIS HAL HF
      by_cases hm : m = 0
      · have i1 : ((m : Int) == 0) = true := by rw [hm]; rfl
        rw [show decide (m = 0) = true by simpa using hm, Bool.true_or, if_pos rfl] at HI
        clear hm hfc
        have HO := hidE (or_step hFl (by omega))
        go_wp2_with fail
        go_roundw
        case rel => exact ⟨k + 1, by omega, by go_num, by rw [HO.out, HI.out], HC3.out, HB3.out, HZ3.out⟩
        case measure => simp [intOf]; omega
      · have i1 : ((m : Int) == 0) = false := by rw [beq_eq_false_iff_ne]; omega
        rw [show decide (m = 0) = false by simpa using hm, Bool.false_or] at HI
        have HO := hidE (or_step hFl (by omega))
        clear hm
        cases t with
        | true =>
          rw [if_pos rfl] at HI
          go_wp2_with (go_at_call 64; go_must (refine hfc.mono ?_; rintro e W4 ⟨rfl, b4⟩))
          go_roundw
          case rel => exact ⟨k + 1, by omega, by go_num, by rw [HO.out, HI.out], (b4.block S (by have := HZ3.out; omega)).trans HC3.out, HB3.out.trans (b4.mono (by have := HZ3.out; omega)), Nat.le_trans HZ3.out b4.size⟩
          case measure => simp [intOf]; omega
        | false =>
          rw [if_neg (by simp)] at HI
          go_wp2_with (go_at_call 64; go_must (refine hfc.mono ?_; rintro e W4 ⟨rfl, b4⟩))
          go_roundw
          case rel => exact ⟨k + 1, by omega, by go_num, by rw [HI.out], (b4.block S (by have := HZ3.out; omega)).trans HC3.out, HB3.out.trans (b4.mono (by have := HZ3.out; omega)), Nat.le_trans HZ3.out b4.size⟩
          case measure => simp [intOf]; omega
    · have j1 : ¬ (k : Int) < (N : Int) := by omega
      have hq := HQ.out wr (by rw [HS.out]; exact HB.out)
      have e : RS.take k = RS := List.take_of_length_le (by rw [← HRS.out, List.length_map, HNN.out]; omega)
      rw [e]
      have HQ2 := hidE hq
      clear hq e
      go_wp2
      exact HQ2.out
end Go.Proofs.Ytdellfmkmbabhaa
