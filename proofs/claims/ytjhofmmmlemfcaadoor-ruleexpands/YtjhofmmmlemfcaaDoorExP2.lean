/- What fill returns (package rule): 'filO'. -/
import Derived.Test.YtjhofmmmlemfcaaDoorExP1
namespace Go.Proofs.YtjhofmmmlemfcaaDoor
open Go.RowKit
set_option linter.unusedVariables false
set_option maxRecDepth 10000

def filV (o : Option (List UInt8)) : Value := match o with
  | none => .tuple #[.string ⟨#[]⟩, .iface 37 (.int .i64 5)]
  | some z => if 2000 < z.length then .tuple #[.string ⟨#[]⟩, .iface 37 (.int .i64 4)] else .tuple #[.string (mkB z), .nilIface]
/-- What is still to come of a text behind a piece of it. -/
def filR (ns ts : List (List UInt8)) (m : Bool) (r : List UInt8) : Option (List UInt8) := if m = true then filO ns ts (36 :: r) else some []
theorem filR_cut (ns ts : List (List UInt8)) (t : List UInt8) : filO ns ts t = (filR ns ts (splitC 36 t).2.2 (splitC 36 t).2.1).map (fun z => (splitC 36 t).1 ++ z) := by
  unfold filR
  rcases hm : (splitC 36 t).2.2 with _ | _
  · rw [filO_none ns ts t hm, if_neg (by simp)]
    simp [splitC_allX hm]
  · rw [if_pos rfl, filO_cut ns ts t hm, filO_mark]
    split
    · rfl
    · rw [Option.map_map]; rfl
theorem cut_size (t : List UInt8) : (splitC 36 t).1.length + (splitC 36 t).2.1.length + (if (splitC 36 t).2.2 = true then 1 else 0) ≤ t.length := by
  rcases hm : (splitC 36 t).2.2 with _ | _
  · have := splitC_allX hm
    have h2 : ∀ (l : List UInt8), (splitC 36 l).2.2 = false → (splitC 36 l).2.1 = [] := fun l => by
      induction l with
      | nil => intro _; rfl
      | cons x r ih =>
        intro h
        unfold splitC at h ⊢
        by_cases hx : x = 36
        · rw [if_pos hx] at h; cases h
        · rw [if_neg hx] at h ⊢
          exact ih h
    rw [this, h2 t hm]; simp
  · have := congrArg List.length (splitC_joinX hm)
    rw [List.length_append, List.length_cons] at this
    simp; omega
set_option maxHeartbeats 16000000 in
theorem fill_any (ns ts : List (List UInt8)) (t : List UInt8) (v u : Value) (w : World) (hv : RowT w v ns) (hu : RowT w u ts) (hn : ns.length = ts.length) (hn2 : ns.length ≤ 1000000) (ht : ∀ x ∈ ts, x.length ≤ 2000) (hl : t.length ≤ 2000) :
    Calls Tryd.prog 18 #[.string (mkB t), v, u] w fun e w' => e = .returned (filV (filO ns ts t)) ∧ Below w.heap.size w w' := by
  obtain ⟨Q, hQ⟩ : ∃ Q : Ending → World → Prop, Q = fun e w' => e = .returned (filV (filO ns ts t)) ∧ Below w.heap.size w w' := ⟨_, rfl⟩
  have HQ : Hid (∀ x w', x = filV (filO ns ts t) → Below w.heap.size w w' → Q (.returned x) w') := by rw [hQ]; exact fun x w' e h => ⟨by rw [e], h⟩
  rw [← hQ]
  clear hQ
  have hc := fun (s : List UInt8) (hs : s.length ≤ 2000) w => strCut_any (mkB s) 36 w (by rw [mkB_size]; unfold maxLen; omega)
  simp only [mkB_toList] at hc
  have b1 : Below w.heap.size w (w.alloc (.cells #[.pointer none, .slice none 0 0] 58)) := (Below.refl _ _).alloc (Nat.le_refl _) _
  have n1 := BldAt.new w
  have HV : Hid (∀ W, Below w.heap.size w W → RowT W v ns) := fun W hb => hv.below hb
  have HU : Hid (∀ W, Below w.heap.size w W → RowT W u ts) := fun W hb => hu.below hb
  obtain ⟨av, cv, rfl, hcv0⟩ := hv
  obtain ⟨au, cu, rfl, hcu0⟩ := hu
  obtain ⟨S, hS⟩ : ∃ S, w.heap.size = S := ⟨_, rfl⟩
  have HS := hidR hS
  rw [hS] at b1 n1 HV HU hcv0 hcu0
  have HCV := hidR hcv0
  have HCU := hidR hcu0
  clear hcv0 hcu0
  obtain ⟨W1, hW1⟩ : ∃ W1, w.alloc (.cells #[.pointer none, .slice none 0 0] 58) = W1 := ⟨_, rfl⟩
  have z1 : S < W1.heap.size := by rw [← hW1, ← hS]; exact (World.size_alloc w _) ▸ Nat.lt_succ_self _
  rw [hW1] at b1 n1
  have HW1 := hidR hW1
  have HB1 := hidR b1
  have HN1 := hidR n1
  have HL := hidR hl
  have HF := hidR (filR_cut ns ts t)
  have HCS := hidR (cut_size t)
  have HNN := hidR (And.intro hn (And.intro hn2 ht))
  have hct := hc t hl
  have HC := hidR hc
  generalize (splitC 36 t).1 = h0 at hct HF HCS
  generalize (splitC 36 t).2.1 = r0 at hct HF HCS
  generalize (splitC 36 t).2.2 = m0 at hct HF HCS
  clear hW1 b1 n1 hl hS hn hn2 ht hc
  go_enter Tryd.func18, Tryd.ntmps18
  go_upto_region 2 with fail
  rw [HW1.out, HS.out]
  go_upto_region 3 with (go_at_call 13; go_must (refine (hct _).mono ?_; rintro e w2 ⟨rfl, d2⟩))
  have gb := bldW S S [] h0 w2 (HN1.out.keep (d2.below _)) (by have := HCS.out; have := HL.out; simp; omega) (by rw [d2.size]; omega)
  rw [List.nil_append] at gb
  have HB2 := hidR (HB1.out.trans (d2.below S))
  have hz2 : S < w2.heap.size := by rw [d2.size]; exact z1
  clear hct d2 HN1 HB1 HW1 z1
  go_upto_region 4 with (go_at_call 30; go_must (refine gb.mono ?_; rintro e w3 ⟨rfl, k3, b3, o3⟩))
  have HB3 := hidR (HB2.out.trans b3)
  have HK3 := hidR k3
  have HZ3 : Hid (S < w3.heap.size) := Nat.lt_of_lt_of_le hz2 b3.size
  clear gb k3 b3 o3 hz2 HB2
  go_loopw [9, 10, 11, 12] (fun a b c _ wr => ∃ (h r done : List UInt8) (m : Bool), a = .string (mkB h) ∧ b = .string (mkB r) ∧ c = .bool m ∧ Hid (BldAt wr S S done) ∧ Hid (Below S w wr) ∧ Hid (S < wr.heap.size) ∧ Hid (filO ns ts t = (filR ns ts m r).map (fun z => done ++ z)) ∧ Hid (done.length + 2001 * (r.length + (if m = true then 1 else 0)) ≤ 2001 * 2000)) (fun _ b c _ _ => (match b with | .string s => s.size | _ => 0) + (match c with | .bool true => 1 | _ => 0))
  case atStart => exact ⟨h0, r0, h0, m0, rfl, rfl, rfl, HK3.out, HB3.out, HZ3.out, HF.out, by have := HCS.out; have := HL.out; show _ ≤ _; omega⟩
  case round =>
    clear HK3 HB3 HZ3 HF HCS
    obtain ⟨h, r, done, m, rfl, rfl, rfl, HK, HB, HZ, HF, HM⟩ := hrel
    rcases m with _ | _
    · have hd : filO ns ts t = some done := by rw [HF.out]; unfold filR; simp
      have gl := bldLen S S done wr HK.out
      have gs := bldS S S done wr HK.out (by have := HZ.out; omega)
      have hq := fun x w' (hx : x = filV (filO ns ts t)) (hb : Below S wr w') => HQ.out x w' hx (by rw [HS.out]; exact HB.out.trans hb)
      rw [hd] at hq
      unfold filV at hq
      simp only at hq
      have HQQ := hidR hq
      by_cases hbig : 2000 < done.length
      · have hq2 : Hid (∀ w', Below S wr w' → Q (.returned (.tuple #[.string ⟨#[]⟩, .iface 37 (.int .i64 4)])) w') := fun w' hb => HQQ.out _ w' (by rw [if_pos hbig]) hb
        have hn : ((done.length : Int) > 2000) := by omega
        generalize (done.length : Int) = dl at gl hn
        clear hq hd HK HF HM HQQ hbig gs
        go_wp2_with (go_at_call 32; go_must (refine gl.mono ?_; rintro e w4 ⟨rfl, hw4⟩; rw [hw4]; clear hw4))
        exact hq2.out _ (Below.refl _ _)
      · have hq2 : Hid (∀ w', Below S wr w' → Q (.returned (.tuple #[.string (mkB done), .nilIface])) w') := fun w' hb => HQQ.out _ w' (by rw [if_neg hbig]) hb
        have hn : ¬ ((done.length : Int) > 2000) := by omega
        generalize (done.length : Int) = dl at gl hn
        clear hq hd HK HF HM HQQ hbig
        go_wp2_with (first | (go_at_call 32; go_must (refine gl.mono ?_; rintro e w4 ⟨rfl, hw4⟩; rw [hw4]; clear hw4)) | (go_at_call 33; go_must (refine gs.mono ?_; rintro e w5 ⟨rfl, b5⟩)))
        exact hq2.out _ b5
    · have hlg := longest_any ns r _ wr (HV.out wr HB.out) HNN.out.2.1
      have hrl : r.length ≤ 1999 := by have := HM.out; simp at this; omega
      have hmk : filR ns ts true r = if bst ns r < 0 then none else (filO ns ts (r.drop (ns.getD (bst ns r).toNat []).length)).map (fun z => ts.getD (bst ns r).toNat [] ++ z) := by unfold filR; rw [if_pos rfl, filO_mark]
      rw [hmk] at HF
      obtain ⟨bt, hbt⟩ : ∃ bt, bst ns r = bt := ⟨_, rfl⟩
      have hit := @bst_hit ns r
      have hrg := (bstU_range ns r ns.length).2.1
      change bst ns r < _ at hrg
      rw [hbt] at hlg HF hit hrg
      by_cases hneg : bt < 0
      · have hd : filO ns ts t = none := by rw [HF.out, if_pos hneg]; rfl
        have hq2 : Hid (Q (.returned (.tuple #[.string ⟨#[]⟩, .iface 37 (.int .i64 5)])) wr) := HQ.out _ wr (by rw [hd]; rfl) (by rw [HS.out]; exact HB.out)
        clear hmk hbt hit hrg HF HM HK hd HV HU
        go_wp2_with (go_at_call 31; go_must (refine hlg.mono ?_; rintro e w4 ⟨rfl, hw4⟩; rw [hw4]; clear hw4))
        exact hq2.out
      · have hb0 : 0 ≤ bt := by omega
        obtain ⟨hx1, hx2⟩ := hit hb0
        have hxt : bt.toNat < ts.length := by rw [← HNN.out.1]; exact hx1
        have hgn : ns.getD bt.toNat [] = ns[bt.toNat] := by simp [List.getD, hx1]
        have hgt : ts.getD bt.toNat [] = ts[bt.toNat] := by simp [List.getD, hxt]
        rw [if_neg hneg, hgn, hgt] at HF
        rw [hgn] at hx2
        obtain ⟨gv, hgv, hgvl, hcv⟩ := HCV.out (by omega)
        obtain ⟨gu, hgu, hgul, hcu⟩ := HCU.out (by omega)
        subst hgv hgu
        have c1 := (HB.out.cell (p := ⟨gv, bt.toNat, none⟩) hgvl).trans (hcv bt.toNat hx1)
        have c2 := (HB.out.cell (p := ⟨gu, bt.toNat, none⟩) hgul).trans (hcu bt.toNat hxt)
        have htl : ts[bt.toNat].length ≤ 2000 := HNN.out.2.2 _ (List.getElem_mem hxt)
        obtain ⟨nm, hnm⟩ : ∃ nm, ns[bt.toNat] = nm := ⟨_, rfl⟩
        obtain ⟨tx, htx⟩ : ∃ tx, ts[bt.toNat] = tx := ⟨_, rfl⟩
        rw [hnm] at c1 HF hx2
        rw [htx] at c2 HF htl
        have hcr := HC.out (r.drop nm.length) (by rw [List.length_drop]; omega)
        have HF2 := hidR (filR_cut ns ts (r.drop nm.length))
        have hcs := cut_size (r.drop nm.length)
        rw [List.length_drop] at hcs
        have hdr : (mkB r).extract (mkB nm).size (mkB r).size = mkB (r.drop nm.length) := by rw [mkB_size nm]; exact drop_extX r nm.length
        rw [← hdr] at hcr
        have hnr : ((mkB nm).size : Int) ≤ ((mkB r).size : Int) := by rw [sizeI, sizeI]; omega
        have gw := bldW S S done tx wr HK.out (by have := HM.out; simp at this; omega) (by have := HZ.out; omega)
        generalize (splitC 36 (r.drop nm.length)).1 = h1 at hcr HF2 hcs
        generalize (splitC 36 (r.drop nm.length)).2.1 = r1 at hcr HF2 hcs
        generalize (splitC 36 (r.drop nm.length)).2.2 = m1 at hcr HF2 hcs
        have HNX : Hid (filO ns ts t = (filR ns ts m1 r1).map (fun z => (done ++ tx ++ h1) ++ z)) := by
          rw [HF.out, HF2.out, Option.map_map, Option.map_map]
          show Option.map _ _ = Option.map _ _
          congr 1
          funext z
          simp
        have HM2 : Hid ((done ++ tx ++ h1).length + 2001 * (r1.length + (if m1 = true then 1 else 0)) ≤ 2001 * 2000) := by
          have := HM.out
          simp at this
          show _ ≤ _
          simp only [List.length_append]
          omega
        have hlt : r1.length + (if m1 = true then 1 else 0) ≤ r.length := by omega
        have hbN : bt < (ns.length : Int) := hrg
        have hbT : bt < (ts.length : Int) := by have := HNN.out.1; omega
        clear hmk hbt hit hrg HF HF2 HM HK hcs hcv hcu hgn hgt hnm htx HV HU HC htl hx2 hdr
        go_upto_region 8 with (go_at_call 31; go_must (refine hlg.mono ?_; rintro e w4 ⟨rfl, hw4⟩; rw [hw4]; clear hw4))
        clear hlg
        go_upto_region 9 with (go_at_call 30; go_must (refine gw.mono ?_; rintro e w4 ⟨rfl, k4, b4, o4⟩))
        have c3 := (b4.cell (p := ⟨gv, bt.toNat, none⟩) hgvl).trans c1
        have HB4 := hidR (HB.out.trans b4)
        have HZ4 : Hid (S < w4.heap.size) := Nat.lt_of_lt_of_le HZ.out b4.size
        have HK4 := hidR k4
        clear c1 c2 gw k4 b4 o4 HB HZ
        go_upto_region 10 with (go_at_call 13; go_must (refine (hcr _).mono ?_; rintro e w5 ⟨rfl, d5⟩))
        have g5 := bldW S S (done ++ tx) h1 w5 (HK4.out.keep (d5.below _)) (by have := HM2.out; simp only [List.length_append] at this ⊢; omega) (by have := HZ4.out; rw [d5.size]; omega)
        have HB5 := hidR (HB4.out.trans (d5.below S))
        have HZ5 : Hid (S < w5.heap.size) := by have := HZ4.out; show S < _; rw [d5.size]; exact this
        clear hcr d5 HK4 HB4 HZ4 c3
        go_wp2_with (go_at_call 30; go_must (refine g5.mono ?_; rintro e w6 ⟨rfl, k6, b6, o6⟩))
        go_roundw
        case rel => exact ⟨h1, r1, done ++ tx ++ h1, m1, rfl, rfl, rfl, k6, HB5.out.trans b6, Nat.lt_of_lt_of_le HZ5.out b6.size, HNX.out, HM2.out⟩
        case measure =>
          have := hlt
          simp only [mkB_size]
          rcases m1 with _ | _ <;> simp at this ⊢ <;> omega
end Go.Proofs.YtjhofmmmlemfcaaDoor
