/- What Print returns (package rule): the rules' lines. -/
import Derived.Test.YthnkjfgiclolaaaGreatDoorRuleWr4
import Derived.Test.YthnkjfgiclolaaaGreatDoorMgT
import Derived.Test.YthnkjfgiclolaaaGreatDoorRuleRow
namespace Go.Proofs.YthnkjfgiclolaaaGreatDoor
open Go.RowKit
set_option linter.unusedVariables false
set_option maxRecDepth 10000

theorem firstE_zero0 {l : List Rl} : firstE l = 0 → ∀ r ∈ l, ruE r = 0 := by
  induction l with
  | nil => intro _ r hr; cases hr
  | cons a l ih =>
    intro h r hr
    rw [firstE] at h
    split at h
    · rename_i h1
      rcases List.mem_cons.1 hr with rfl | hr
      · exact h1
      · exact ih h r hr
    · rename_i h1; exact absurd h h1
theorem rusE_zero0 {l : List Rl} (h : rusE l = 0) : l.length ≤ 20 ∧ ∀ r ∈ l, ruE r = 0 := by
  unfold rusE at h
  split at h
  · cases h
  · exact ⟨by omega, firstE_zero0 h⟩
theorem lines_take {rs : List Rl} {k : Nat} (h : k < rs.length) : linesL (rs.take (k + 1)) = linesL (rs.take k) ++ (lineL rs[k] ++ [10]) := by
  rw [List.take_succ_eq_append_getElem h, linesL_append]
  congr 1
  simp [linesL]
set_option maxHeartbeats 16000000 in
theorem ruPrint_any (v : Value) (rs : List (Rl × Value × Value)) (w : World) (hv : Rls w v rs) (htx : TxE w) (hwd : Wrds w) :
    Calls Tryz.prog 9 #[v] w fun e w' => e = .returned (.tuple #[.string (mkB (if rusE (rs.map Prod.fst) = 0 then linesL (rs.map Prod.fst) else [])), erV (rusE (rs.map Prod.fst))]) ∧ Below w.heap.size w w' := by
  obtain ⟨Q, hQ⟩ : ∃ Q : Ending → World → Prop, Q = fun e w' => e = .returned (.tuple #[.string (mkB (if rusE (rs.map Prod.fst) = 0 then linesL (rs.map Prod.fst) else [])), erV (rusE (rs.map Prod.fst))]) ∧ Below w.heap.size w w' := ⟨_, rfl⟩
  have HQ : Hid (∀ w', Below w.heap.size w w' → Q (.returned (.tuple #[.string (mkB (if rusE (rs.map Prod.fst) = 0 then linesL (rs.map Prod.fst) else [])), erV (rusE (rs.map Prod.fst))])) w') := by rw [hQ]; exact fun _ h => ⟨rfl, h⟩
  rw [← hQ]
  clear hQ
  obtain ⟨ao, co, hve⟩ := hv.len
  obtain ⟨N, hN⟩ : ∃ N, rs.length = N := ⟨_, rfl⟩
  rw [hN] at hve
  subst hve
  have hck := rusCheck_any _ rs w hv
  obtain ⟨RS, hRS⟩ : ∃ RS, rs.map Prod.fst = RS := ⟨_, rfl⟩
  rw [hRS] at hck HQ
  have HRS := hidE hRS
  have HNN := hidE hN
  have HV := hidE hv
  have HTX := hidE htx
  have HWD := hidE hwd
  clear hv htx hwd hN hRS
  by_cases hr0 : rusE RS = 0
  case neg =>
    rw [erV_ne hr0] at hck
    rw [if_neg hr0, erV_ne hr0, show mkB [] = ⟨#[]⟩ from rfl] at HQ
    generalize rusE RS = z at hck HQ
    clear hr0
    go_enter Tryz.func9, Tryz.ntmps9
    go_wp2_with (go_at_call 7; go_must (refine hck.mono ?_; rintro e w1 ⟨rfl, b1⟩))
    exact HQ.out _ b1
  rw [hr0, show erV 0 = .nilIface from rfl] at hck
  rw [if_pos hr0, hr0, show erV 0 = .nilIface from rfl] at HQ
  have hz := rusE_zero0 hr0
  have HZ := hidE hz
  have hN20 : N ≤ 20 := by have := hz.1; rw [← HRS.out, List.length_map, HNN.out] at this; exact this
  clear hr0 hz
  have HWR := hidE (fun r (h : r ∈ RS) => writ_of (HZ.out.2 r h))
  have HLL := hidE (fun k => Nat.le_trans (linesL_len (RS.take k) (fun r h => HWR.out r (List.mem_of_mem_take h))) (Nat.mul_le_mul_right 100000001 (show (RS.take k).length ≤ 20 by rw [List.length_take]; have := HZ.out.1; omega)))
  go_enter Tryz.func9, Tryz.ntmps9
  go_upto_region 4 with (go_at_call 7; go_must (refine hck.mono ?_; rintro e w1 ⟨rfl, b1⟩))
  have HB1 := hidE b1
  have b2 : Below w1.heap.size w1 (w1.alloc (.cells #[.pointer none, .slice none 0 0] 53)) := (Below.refl _ _).alloc (Nat.le_refl _) _
  have hB2 := BldAt.new w1
  have z2 : w1.heap.size ≤ (w1.alloc (.cells #[.pointer none, .slice none 0 0] 53)).heap.size := b2.size
  have HB2 := hidE (b1.trans (b2.mono b1.size))
  have z3 : (w1.alloc (.cells #[.pointer none, .slice none 0 0] 53)).heap.size = w1.heap.size + 1 := by simp
  obtain ⟨W2, hW2⟩ : ∃ W2, w1.alloc (.cells #[.pointer none, .slice none 0 0] 53) = W2 := ⟨_, rfl⟩
  have HW2 := hidE hW2
  rw [hW2] at hB2 HB2 z3
  obtain ⟨S, hS⟩ : ∃ S, w1.heap.size = S := ⟨_, rfl⟩
  have HS := hidE (show w.heap.size ≤ S by rw [← hS]; exact b1.size)
  have HSE := hidE hS
  rw [hS] at hB2 z3
  have HZ3 := hidE z3
  have HBL := hidE hB2
  clear hck b1 b2 hB2 z2 hW2 hS z3
  go_upto_region 6 with fail
  rw [HW2.out, HSE.out]
  clear HW2 HSE
  go_loopw [7, 8, 9, 17] (fun _ _ _ i wr => ∃ k : Nat, k ≤ N ∧ i = .int .i64 (k : Int) ∧ Hid (BldAt wr S S (linesL (RS.take k))) ∧ Hid (Below w.heap.size w wr) ∧ Hid (S + 1 ≤ wr.heap.size)) (fun _ _ _ i _ => ((N : Int) - intOf i).toNat)
  case atStart => exact ⟨0, by omega, rfl, HBL.out, HB2.out, Nat.le_of_eq HZ3.out.symm⟩
  case round =>
    clear HBL HB2 HB1 HZ3
    obtain ⟨k, hk, rfl, KB, HB, KS⟩ := hrel
    by_cases hkn : k < N
    · have j1 : (k : Int) < (N : Int) := by omega
      have j2 : (0 : Int) ≤ (k : Int) := by omega
      have hkl : k < rs.length := by have := HNN.out; omega
      have hkR : k < RS.length := by rw [← HRS.out, List.length_map]; exact hkl
      obtain ⟨b1, o1, e1, hb1, hl1, hx1, hc1⟩ := HV.out.shape (by omega)
      subst e1
      have hx1' : co ≤ 9223372036854775807 := by unfold maxLen at hx1; omega
      have hC := (hc1 k hkl).below hb1 HB.out
      have HT := hidE (lines_take hkR)
      have hRk : RS[k] = rs[k].1 := by
        have := HRS.out
        subst this
        rw [List.getElem_map]
      have hwt := HWR.out RS[k] (List.getElem_mem _)
      have HLK := hidE (HLL.out k)
      rw [hRk] at HT hwt
      generalize rs[k].1 = r at hC HT hwt
      generalize rs[k].2.1 = fv at hC
      generalize rs[k].2.2 = tv at hC
      obtain ⟨af, cf, hfe⟩ := hC.2.1.len
      obtain ⟨at', ct, hte⟩ := hC.2.2.1.len
      generalize hnf : r.fr.length = nf at hfe
      generalize hnt : r.tl.length = nt at hte
      subst hfe hte
      clear hc1 hx1 hRk
      obtain ⟨⟨c0, c1, c2, c3, c4, c5, c6, c7, c8, c9, c10⟩, s1, s2, s3, s4⟩ := hC
      have b2 : Below wr.heap.size wr (wr.alloc (.cells #[.bool r.pass, .bool r.quick, .bool r.keep, .int .i64 r.way, .int .i64 r.kind, .int .i64 r.sa, .int .i64 r.sl, .int .i64 r.da, .int .i64 r.dl, .slice af nf cf, .slice at' nt ct] 33)) := (Below.refl _ _).alloc (Nat.le_refl _) _
      have hR2 := RlAt.new wr r (.slice af nf cf) (.slice at' nt ct)
      have HB3 := hidE (HB.out.trans (b2.mono HB.out.size))
      have hwr := write_any r af at' nf cf nt ct (wr.alloc (.cells #[.bool r.pass, .bool r.quick, .bool r.keep, .int .i64 r.way, .int .i64 r.kind, .int .i64 r.sa, .int .i64 r.sl, .int .i64 r.da, .int .i64 r.dl, .slice af nf cf, .slice at' nt ct] 33)) (s1.below b2) (s2.below b2) (HTX.out.below HB3.out) (HWD.out.below HB3.out) hwt.w0 hwt.w2 hwt.k0 hwt.k3 hwt.src hwt.dst hwt.s1 hwt.s2 s3 s4 (by have := lineL_len hwt; omega)
      have KB2 := hidE (KB.out.keep b2)
      have KS2 := hidE (Nat.le_trans KS.out b2.size)
      unfold rlV at hwr
      obtain ⟨W4, hW4⟩ : ∃ W4, wr.alloc (.cells #[.bool r.pass, .bool r.quick, .bool r.keep, .int .i64 r.way, .int .i64 r.kind, .int .i64 r.sa, .int .i64 r.sl, .int .i64 r.da, .int .i64 r.dl, .slice af nf cf, .slice at' nt ct] 33) = W4 := ⟨_, rfl⟩
      have HW4 := hidE hW4
      rw [hW4] at hR2 hwr HB3 KB2 KS2
      obtain ⟨d0, d1, d2, d3, d4, d5, d6, d7, d8, d9, d10⟩ := hR2.cells
      have HLW := hidE (lineL_len hwt)
      clear s1 s2 s3 s4 b2 hR2 hW4 HB KB KS HV hnf hnt hwt hkR hkl
      go_upto_region 8 with fail
      rw [HW4.out]
      clear c0 c1 c2 c3 c4 c5 c6 c7 c8 c9 c10 HW4
      go_upto_region 11 with (go_at_call 19; go_must (refine hwr.mono ?_; rintro e W5 ⟨rfl, b5⟩))
      have gb := bldW S S (linesL (RS.take k)) (lineL r ++ [10]) W5 (KB2.out.keep b5) (by have := HLK.out; have := HLW.out; simp only [List.length_append, List.length_cons, List.length_nil]; omega) (by have := KS2.out; have := b5.size; omega)
      rw [← HT.out] at gb
      have HB5 := hidE (HB3.out.trans (b5.mono HB3.out.size))
      have KS5 := hidE (Nat.le_trans KS2.out b5.size)
      clear hwr b5 KB2 HB3 KS2 d0 d1 d2 d3 d4 d5 d6 d7 d8 d9 d10
      go_wp2_with (go_at_call 20; go_must (refine gb.mono ?_; rintro e W6 ⟨rfl, k6, b6, o6⟩))
      go_roundw
      case rel => exact ⟨k + 1, by omega, by go_num, k6, HB5.out.trans (b6.mono HS.out), Nat.le_trans KS5.out b6.size⟩
      case measure => simp [intOf]; omega
    · have j1 : ¬ (k : Int) < (N : Int) := by omega
      have gs := bldS S S (linesL (RS.take k)) wr KB.out (by have := KS.out; omega)
      rw [List.take_of_length_le (by rw [← HRS.out, List.length_map, HNN.out]; omega)] at gs
      go_wp2_with (go_at_call 21; go_must (refine gs.mono ?_; rintro e W7 ⟨rfl, b7⟩))
      exact HQ.out _ (HB.out.trans (b7.mono HS.out))
end Go.Proofs.YthnkjfgiclolaaaGreatDoor
