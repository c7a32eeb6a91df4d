/- JudgeTells: the law's walk. -/
import Derived.Test.YtfhchbpgpaljhaaDoorRefTrc
import Derived.Test.YtfhchbpgpaljhaaDoorJudgeJud
import Derived.Test.YtfhchbpgpaljhaaDoorTold
import Derived.Deep.RegionHeld3
import Derived.Deep.DeepCutAuto
import Derived.Deep.DeepMust
namespace Go.Proofs.YtfhchbpgpaljhaaDoor
open Go.RowKit
set_option linter.unusedVariables false
set_option maxRecDepth 10000

theorem erV_valJ (n : Int) : ErrVal (erV n) n := by
  unfold erV
  by_cases h : n = 0
  · subst h; exact .inl ⟨rfl, rfl⟩
  · rw [if_neg h]; exact .inr rfl
theorem erV_sameJ (n : Int) (w : World) (hg : ErrLaid w) : Calls Tryd.prog 8 #[erV n, .int .i64 n] w fun e w' => e = .returned (.bool true) ∧ Below w.heap.size w w' := by
  refine (error_val (erV_valJ n) n w hg).mono ?_
  rintro e w' ⟨rfl, hb⟩
  exact ⟨by rw [beq_self_eq_true], hb⟩
theorem judE_keyJ {l : List Rl} {k : Ky} {way : Int} (h : rusE l = 0) : judE l k way = keyE k way := by unfold judE; rw [if_pos h]
/-- Behind the boxes of a key and a rule. -/
structure TelW (w : World) (r : Rl) (k : Ky) (fv tv : Value) (W : World) : Prop where
  ky : KyAt W w.heap.size k
  rl : RlAt W (w.heap.size + 1) r fv tv
  er : ErrLaid W
  bel : Below w.heap.size w W
theorem TelW.step {w W W' : World} {r : Rl} {k : Ky} {fv tv : Value} (h : TelW w r k fv tv W) (hb : Below W.heap.size W W') : TelW w r k fv tv W' :=
  ⟨h.ky.below h.ky.lt hb, h.rl.below h.rl.lt hb, h.er.below hb, h.bel.trans (hb.mono h.bel.size)⟩
theorem TelW.drew {w W : World} {r : Rl} {k : Ky} {fv tv : Value} (h : TelW w r k fv tv W) : TelW w r k fv tv W.drew := ⟨h.ky, h.rl, h.er, ⟨h.bel.os, h.bel.tape, h.bel.output, h.bel.size, h.bel.block⟩⟩
theorem tel_of {w W : World} {r : Rl} {k : Ky} {fv tv : Value} (h : TelW w r k fv tv W) : (W.cell? ⟨w.heap.size + 1, 0, none⟩ = some (.bool r.pass) ∧ W.cell? ⟨w.heap.size + 1, 1, none⟩ = some (.bool r.quick) ∧ W.cell? ⟨w.heap.size + 1, 2, none⟩ = some (.bool r.keep) ∧ W.cell? ⟨w.heap.size + 1, 3, none⟩ = some (.int .i64 r.way) ∧ W.cell? ⟨w.heap.size + 1, 4, none⟩ = some (.int .i64 r.kind) ∧ W.cell? ⟨w.heap.size + 1, 5, none⟩ = some (.int .i64 r.sa) ∧ W.cell? ⟨w.heap.size + 1, 6, none⟩ = some (.int .i64 r.sl) ∧ W.cell? ⟨w.heap.size + 1, 7, none⟩ = some (.int .i64 r.da) ∧ W.cell? ⟨w.heap.size + 1, 8, none⟩ = some (.int .i64 r.dl) ∧ W.cell? ⟨w.heap.size + 1, 9, none⟩ = some (fv) ∧ W.cell? ⟨w.heap.size + 1, 10, none⟩ = some (tv)) ∧ (W.cell? ⟨w.heap.size, 0, none⟩ = some (.int .i64 k.kind) ∧ W.cell? ⟨w.heap.size, 1, none⟩ = some (.int .i64 k.src) ∧ W.cell? ⟨w.heap.size, 2, none⟩ = some (.int .i64 k.frm) ∧ W.cell? ⟨w.heap.size, 3, none⟩ = some (.int .i64 k.dst) ∧ W.cell? ⟨w.heap.size, 4, none⟩ = some (.int .i64 k.too)) ∧ TelW w r k fv tv W := ⟨h.rl.cells, h.ky.cells, h⟩
theorem TelW.new (w : World) (r : Rl) (k : Ky) (fv tv : Value) (hL : ErrLaid w) : TelW w r k fv tv ((w.alloc (.cells #[.int .i64 k.kind, .int .i64 k.src, .int .i64 k.frm, .int .i64 k.dst, .int .i64 k.too] 24)).alloc (.cells #[.bool r.pass, .bool r.quick, .bool r.keep, .int .i64 r.way, .int .i64 r.kind, .int .i64 r.sa, .int .i64 r.sl, .int .i64 r.da, .int .i64 r.dl, fv, tv] 29)) := by
  have b1 : Below w.heap.size w (w.alloc (.cells #[.int .i64 k.kind, .int .i64 k.src, .int .i64 k.frm, .int .i64 k.dst, .int .i64 k.too] 24)) := (Below.refl _ _).alloc (Nat.le_refl _) _
  have hk := KyAt.new w k
  have hz : (w.alloc (.cells #[.int .i64 k.kind, .int .i64 k.src, .int .i64 k.frm, .int .i64 k.dst, .int .i64 k.too] 24)).heap.size = w.heap.size + 1 := by simp
  generalize w.alloc (.cells #[.int .i64 k.kind, .int .i64 k.src, .int .i64 k.frm, .int .i64 k.dst, .int .i64 k.too] 24) = W1 at b1 hk hz ⊢
  have b2 : Below W1.heap.size W1 (W1.alloc (.cells #[.bool r.pass, .bool r.quick, .bool r.keep, .int .i64 r.way, .int .i64 r.kind, .int .i64 r.sa, .int .i64 r.sl, .int .i64 r.da, .int .i64 r.dl, fv, tv] 29)) := (Below.refl _ _).alloc (Nat.le_refl _) _
  have hr := RlAt.new W1 r fv tv
  rw [hz] at hr
  exact ⟨hk.below hk.lt b2, hr, (hL.below b1).below b2, b1.trans (b2.mono b1.size)⟩
set_option maxHeartbeats 64000000 in
theorem tells_walk (v : Value) (rs : List (Rl × Value × Value)) (k : Ky) (way : Int) (r : Rl) (fv tv : Value) (w : World) (hv : Rls w v rs) {q : Prop} (hq : q) (hf : Spns w fv r.fr) (ht : Spns w tv r.tl) (hlf : r.fr.length ≤ 140737488355328) (hlt : r.tl.length ≤ 140737488355328) (hL : ErrLaid w) :
    Calls Tryd.prog 3 #[v, keyV k, .int .i64 way, rlV r fv tv] w fun e w' => e = .returned (.bool true) ∧ Below w.heap.size w w' := by
  obtain ⟨ao, co, hve⟩ := hv.len
  obtain ⟨N, hN⟩ : ∃ N, rs.length = N := ⟨_, rfl⟩
  rw [hN] at hve
  subst hve
  have T0 := TelW.new w r k fv tv hL
  obtain ⟨Q, hQ⟩ : ∃ Q : Ending → World → Prop, Q = fun e w' => e = .returned (.bool true) ∧ Below w.heap.size w w' := ⟨_, rfl⟩
  have HQ : Hid (∀ w', Below w.heap.size w w' → Q (.returned (.bool true)) w') := by rw [hQ]; exact fun _ h => ⟨rfl, h⟩
  rw [← hQ]
  clear hQ hq hL
  obtain ⟨af, cf, hfe⟩ := hf.len
  obtain ⟨at', ct, hte⟩ := ht.len
  have cA := fun (W : World) (h : TelW w r k fv tv W) => Fits_any r fv tv k way W (hf.below h.bel) (ht.below h.bel) hlf hlt
  have cB := fun (W : World) (h : TelW w r k fv tv W) => refFits_any r fv tv k way W (hf.below h.bel) (ht.below h.bel) hlf hlt
  generalize r.fr.length = nf at hfe
  generalize r.tl.length = nt at hte
  have HFE := hidE hfe
  have HTE := hidE hte
  clear hf ht hlf hlt hfe hte
  obtain ⟨W0, hW0⟩ : ∃ W0, (w.alloc (.cells #[.int .i64 k.kind, .int .i64 k.src, .int .i64 k.frm, .int .i64 k.dst, .int .i64 k.too] 24)).alloc (.cells #[.bool r.pass, .bool r.quick, .bool r.keep, .int .i64 r.way, .int .i64 r.kind, .int .i64 r.sa, .int .i64 r.sl, .int .i64 r.da, .int .i64 r.dl, fv, tv] 29) = W0 := ⟨_, rfl⟩
  rw [hW0] at T0
  have HW0 := hidE hW0
  have HV := hidE hv
  have HNN := hidE hN
  clear hW0 hv hN
  obtain ⟨RS, hRS⟩ : ∃ RS, rs.map Prod.fst = RS := ⟨_, rfl⟩
  have HRS := hidE hRS
  clear hRS
  have hR1 := refRules_any _ rs W0 (HV.out.below T0.bel)
  rw [HRS.out] at hR1
  unfold rlV keyV at *
  obtain ⟨tf, htf⟩ : ∃ tf, fitsB r k way = tf := ⟨_, rfl⟩
  rw [htf] at cA cB
  clear htf
  have htt : (tf == tf) = true := by cases tf <;> rfl
  go_enter Tryd.func3, Tryd.ntmps3
  go_upto_region 1 with fail
  rw [HW0.out]
  clear HW0
  have HT0 := hidE T0
  clear T0
  by_cases hr0 : rusE RS = 0
  case neg =>
    have hJE : judE RS k way = rusE RS := by unfold judE; rw [if_neg hr0]
    have HJP := hidE (show judP RS k way = false by unfold judP; rw [hJE, if_neg hr0])
    have HJK := hidE (show judK RS k way = false by unfold judK; rw [hJE, if_neg hr0])
    have HJN := hidE (show judN RS k way = 0 by unfold judN; rw [hJE, if_neg hr0])
    have HJT := hidE (show trcL RS k way = [] by unfold trcL; rw [hJE, if_neg hr0])
    obtain ⟨z, hz⟩ : ∃ z, rusE RS = z := ⟨_, rfl⟩
    rw [hz] at hr0 hR1 hJE
    have HJE := hidE hJE
    have bz : (z == 0) = false := by rw [beq_eq_false_iff_ne]; exact hr0
    clear hz hJE hr0
    go_upto_region 16 with (go_at_call 4; go_must (refine hR1.mono ?_; rintro e w1 ⟨rfl, b1⟩))
    have HT1 := hidE (HT0.out.step b1)
    have HOT : Hid (OwnI w1 0 (.slice none 0 0) []) := OwnI.nil _ _
    clear hR1 b1 HT0 bz
    have TX := HT1
    have htr := trace_any _ rs k way w1 (HV.out.below TX.out.bel)
    rw [HRS.out, HJE.out, HJT.out] at htr
    obtain ⟨er, her⟩ : ∃ er, erV z = er := ⟨_, rfl⟩
    have hes := fun (W : World) (h : ErrLaid W) => erV_sameJ z W h
    have hju := fun (W : World) (h : TelW w r k fv tv W) => judge_any _ rs k way W (HV.out.below h.bel)
    rw [HRS.out, HJP.out, HJK.out, HJN.out, HJE.out] at hju
    rw [her] at htr hes hju
    clear her
    unfold keyV at htr hju
    obtain ⟨k0, k1, k2, k3, k4⟩ := TX.out.ky.cells
    go_upto_region 17 with (go_at_call 7; go_must (refine htr.mono ?_; rintro e w14 ⟨v14, rfl, own14, b14⟩))
    have T14 := hidE (TX.out.step b14)
    have OT14 := HOT.out.below b14
    clear htr k0 k1 k2 k3 k4 b14
    have hes14 := hes w14 T14.out.er
    go_upto_region 18 with (go_at_call 8; go_must (refine hes14.mono ?_; rintro e w15 ⟨rfl, b15⟩))
    have T15 := hidE (T14.out.step b15)
    have OT15 := OT14.below b15
    have own15 := own14.below b15
    clear hes14 b15 OT14 own14
    have hju15 := hju w15 T15.out
    obtain ⟨k0, k1, k2, k3, k4⟩ := T15.out.ky.cells
    go_upto_region 19 with (go_at_call 9; go_must (refine hju15.mono ?_; rintro e w16 ⟨rfl, b16⟩))
    have T16 := hidE (T15.out.step b16)
    have OT16 := OT15.below b16
    have own16 := own15.below b16
    clear hju15 hju b16 OT15 own15 k0 k1 k2 k3 k4
    have hes16 := hes w16 T16.out.er
    go_upto_region 20 with (go_at_call 8; go_must (refine hes16.mono ?_; rintro e w17 ⟨rfl, b17⟩))
    have T17 := hidE (T16.out.step b17)
    have OT17 := OT16.below b17
    have own17 := own16.below b17
    clear hes16 hes b17 OT16 own16
    have hsi := sameInts _ _ _ _ _ w17 own17 OT17
    go_upto_region 21 with (go_at_call 10; go_must (refine hsi.mono ?_; rintro e w18 ⟨rfl, b18⟩))
    have hS := T17.out.step b18
    clear hsi b18 OT17 own17 T17 T16 T15 T14
    have hfe := HFE.out
    have hte := HTE.out
    subst hfe hte
    go_region_held3 (fun W => (W.cell? ⟨w.heap.size + 1, 0, none⟩ = some (.bool r.pass) ∧ W.cell? ⟨w.heap.size + 1, 1, none⟩ = some (.bool r.quick) ∧ W.cell? ⟨w.heap.size + 1, 2, none⟩ = some (.bool r.keep) ∧ W.cell? ⟨w.heap.size + 1, 3, none⟩ = some (.int .i64 r.way) ∧ W.cell? ⟨w.heap.size + 1, 4, none⟩ = some (.int .i64 r.kind) ∧ W.cell? ⟨w.heap.size + 1, 5, none⟩ = some (.int .i64 r.sa) ∧ W.cell? ⟨w.heap.size + 1, 6, none⟩ = some (.int .i64 r.sl) ∧ W.cell? ⟨w.heap.size + 1, 7, none⟩ = some (.int .i64 r.da) ∧ W.cell? ⟨w.heap.size + 1, 8, none⟩ = some (.int .i64 r.dl) ∧ W.cell? ⟨w.heap.size + 1, 9, none⟩ = some ((.slice af nf cf)) ∧ W.cell? ⟨w.heap.size + 1, 10, none⟩ = some ((.slice at' nt ct))) ∧ (W.cell? ⟨w.heap.size, 0, none⟩ = some (.int .i64 k.kind) ∧ W.cell? ⟨w.heap.size, 1, none⟩ = some (.int .i64 k.src) ∧ W.cell? ⟨w.heap.size, 2, none⟩ = some (.int .i64 k.frm) ∧ W.cell? ⟨w.heap.size, 3, none⟩ = some (.int .i64 k.dst) ∧ W.cell? ⟨w.heap.size, 4, none⟩ = some (.int .i64 k.too)) ∧ TelW w r k (.slice af nf cf) (.slice at' nt ct) W) (with_reducible first | assumption | exact tel_of hS | exact tel_of (TelW.drew (And.right (And.right (by assumption)))) | exact tel_of (TelW.drew hS) | exact tel_of (TelW.drew (by assumption)) | exact tel_of (by assumption)) (first
      | (go_at_call 11; refine (cA _ (And.right (And.right (by assumption)))).mono ?_; rintro e w19 ⟨rfl, b19⟩; have hS19 := TelW.step (And.right (And.right (by assumption)) : TelW w r k _ _ _) b19)
      | (go_at_call 12; refine (cB _ (And.right (And.right (by assumption)))).mono ?_; rintro e w20 ⟨rfl, b20⟩; have hS20 := TelW.step (And.right (And.right (by assumption)) : TelW w r k _ _ _) b20))
    go_wp2_with fail
    exact HQ.out _ hS20.bel
  have HR0 := hidE hr0
  rw [hr0] at hR1
  clear hr0
  have hJE := judE_keyJ (k := k) (way := way) HR0.out
  have hky := refKey_any k way
  unfold keyV at hky
  by_cases hk0 : keyE k way = 0
  case neg =>
    have HJP := hidE (show judP RS k way = false by unfold judP; rw [hJE, if_neg hk0])
    have HJK := hidE (show judK RS k way = false by unfold judK; rw [hJE, if_neg hk0])
    have HJN := hidE (show judN RS k way = 0 by unfold judN; rw [hJE, if_neg hk0])
    have HJT := hidE (show trcL RS k way = [] by unfold trcL; rw [hJE, if_neg hk0])
    obtain ⟨z, hz⟩ : ∃ z, keyE k way = z := ⟨_, rfl⟩
    rw [hz] at hk0 hky hJE
    have HJE := hidE hJE
    have bz : (z == 0) = false := by rw [beq_eq_false_iff_ne]; exact hk0
    clear hz hJE hk0
    go_upto_region 16 with (first
      | (go_at_call 4; go_must (refine hR1.mono ?_; rintro e w1 ⟨rfl, b1⟩; have HT1 := hidE (HT0.out.step b1); obtain ⟨k0, k1, k2, k3, k4⟩ := HT1.out.ky.cells))
      | (go_at_call 5; go_must (refine (hky _).mono ?_; rintro e w2 ⟨rfl, b2⟩)))
    have HT2 := hidE (HT1.out.step b2)
    have HOT : Hid (OwnI w2 0 (.slice none 0 0) []) := OwnI.nil _ _
    clear hR1 b1 b2 HT0 HT1 bz hky k0 k1 k2 k3 k4
    have TX := HT2
    have htr := trace_any _ rs k way w2 (HV.out.below TX.out.bel)
    rw [HRS.out, HJE.out, HJT.out] at htr
    obtain ⟨er, her⟩ : ∃ er, erV z = er := ⟨_, rfl⟩
    have hes := fun (W : World) (h : ErrLaid W) => erV_sameJ z W h
    have hju := fun (W : World) (h : TelW w r k fv tv W) => judge_any _ rs k way W (HV.out.below h.bel)
    rw [HRS.out, HJP.out, HJK.out, HJN.out, HJE.out] at hju
    rw [her] at htr hes hju
    clear her
    unfold keyV at htr hju
    obtain ⟨k0, k1, k2, k3, k4⟩ := TX.out.ky.cells
    go_upto_region 17 with (go_at_call 7; go_must (refine htr.mono ?_; rintro e w14 ⟨v14, rfl, own14, b14⟩))
    have T14 := hidE (TX.out.step b14)
    have OT14 := HOT.out.below b14
    clear htr k0 k1 k2 k3 k4 b14
    have hes14 := hes w14 T14.out.er
    go_upto_region 18 with (go_at_call 8; go_must (refine hes14.mono ?_; rintro e w15 ⟨rfl, b15⟩))
    have T15 := hidE (T14.out.step b15)
    have OT15 := OT14.below b15
    have own15 := own14.below b15
    clear hes14 b15 OT14 own14
    have hju15 := hju w15 T15.out
    obtain ⟨k0, k1, k2, k3, k4⟩ := T15.out.ky.cells
    go_upto_region 19 with (go_at_call 9; go_must (refine hju15.mono ?_; rintro e w16 ⟨rfl, b16⟩))
    have T16 := hidE (T15.out.step b16)
    have OT16 := OT15.below b16
    have own16 := own15.below b16
    clear hju15 hju b16 OT15 own15 k0 k1 k2 k3 k4
    have hes16 := hes w16 T16.out.er
    go_upto_region 20 with (go_at_call 8; go_must (refine hes16.mono ?_; rintro e w17 ⟨rfl, b17⟩))
    have T17 := hidE (T16.out.step b17)
    have OT17 := OT16.below b17
    have own17 := own16.below b17
    clear hes16 hes b17 OT16 own16
    have hsi := sameInts _ _ _ _ _ w17 own17 OT17
    go_upto_region 21 with (go_at_call 10; go_must (refine hsi.mono ?_; rintro e w18 ⟨rfl, b18⟩))
    have hS := T17.out.step b18
    clear hsi b18 OT17 own17 T17 T16 T15 T14
    have hfe := HFE.out
    have hte := HTE.out
    subst hfe hte
    go_region_held3 (fun W => (W.cell? ⟨w.heap.size + 1, 0, none⟩ = some (.bool r.pass) ∧ W.cell? ⟨w.heap.size + 1, 1, none⟩ = some (.bool r.quick) ∧ W.cell? ⟨w.heap.size + 1, 2, none⟩ = some (.bool r.keep) ∧ W.cell? ⟨w.heap.size + 1, 3, none⟩ = some (.int .i64 r.way) ∧ W.cell? ⟨w.heap.size + 1, 4, none⟩ = some (.int .i64 r.kind) ∧ W.cell? ⟨w.heap.size + 1, 5, none⟩ = some (.int .i64 r.sa) ∧ W.cell? ⟨w.heap.size + 1, 6, none⟩ = some (.int .i64 r.sl) ∧ W.cell? ⟨w.heap.size + 1, 7, none⟩ = some (.int .i64 r.da) ∧ W.cell? ⟨w.heap.size + 1, 8, none⟩ = some (.int .i64 r.dl) ∧ W.cell? ⟨w.heap.size + 1, 9, none⟩ = some ((.slice af nf cf)) ∧ W.cell? ⟨w.heap.size + 1, 10, none⟩ = some ((.slice at' nt ct))) ∧ (W.cell? ⟨w.heap.size, 0, none⟩ = some (.int .i64 k.kind) ∧ W.cell? ⟨w.heap.size, 1, none⟩ = some (.int .i64 k.src) ∧ W.cell? ⟨w.heap.size, 2, none⟩ = some (.int .i64 k.frm) ∧ W.cell? ⟨w.heap.size, 3, none⟩ = some (.int .i64 k.dst) ∧ W.cell? ⟨w.heap.size, 4, none⟩ = some (.int .i64 k.too)) ∧ TelW w r k (.slice af nf cf) (.slice at' nt ct) W) (with_reducible first | assumption | exact tel_of hS | exact tel_of (TelW.drew (And.right (And.right (by assumption)))) | exact tel_of (TelW.drew hS) | exact tel_of (TelW.drew (by assumption)) | exact tel_of (by assumption)) (first
      | (go_at_call 11; refine (cA _ (And.right (And.right (by assumption)))).mono ?_; rintro e w19 ⟨rfl, b19⟩; have hS19 := TelW.step (And.right (And.right (by assumption)) : TelW w r k _ _ _) b19)
      | (go_at_call 12; refine (cB _ (And.right (And.right (by assumption)))).mono ?_; rintro e w20 ⟨rfl, b20⟩; have hS20 := TelW.step (And.right (And.right (by assumption)) : TelW w r k _ _ _) b20))
    go_wp2_with fail
    exact HQ.out _ hS20.bel
  rw [hk0] at hky hJE
  have HJE := hidE hJE
  clear hk0 hJE
  have HJT := hidE (show trcL RS k way = traceL k way 0 RS by unfold trcL; rw [if_pos HJE.out])
  have HJP0 := hidE (show judP RS k way = (judR RS (lastN (traceL k way 0 RS))).pass by unfold judP; rw [if_pos HJE.out])
  have HJK0 := hidE (show judK RS k way = (judR RS (lastN (traceL k way 0 RS))).keep by unfold judK; rw [if_pos HJE.out])
  have HJN0 := hidE (show judN RS k way = lastN (traceL k way 0 RS) by unfold judN; rw [if_pos HJE.out])
  have hN20 : rs.length ≤ 20 := by have := (rusE_zero.1 HR0.out).1; rw [← HRS.out, List.length_map] at this; exact this
  go_upto_region 9 with (first
    | (go_at_call 4; go_must (refine hR1.mono ?_; rintro e w1 ⟨rfl, b1⟩; have HT1 := hidE (HT0.out.step b1); obtain ⟨k0, k1, k2, k3, k4⟩ := HT1.out.ky.cells))
    | (go_at_call 5; go_must (refine (hky _).mono ?_; rintro e w2 ⟨rfl, b2⟩)))
  have HT2 := hidE (HT1.out.step b2)
  clear hR1 b1 b2 HT0 HT1 hky k0 k1 k2 k3 k4
  have hrt := refTrace_any _ rs k way w2 (HV.out.below HT2.out.bel) hN20
  rw [HRS.out] at hrt
  unfold keyV at hrt
  obtain ⟨k0, k1, k2, k3, k4⟩ := HT2.out.ky.cells
  obtain ⟨T, hT⟩ : ∃ T, traceL k way 0 RS = T := ⟨_, rfl⟩
  rw [hT] at hrt HJT HJP0 HJK0 HJN0
  have HTT := hidE hT
  clear hT hN20
  by_cases hT0 : T = []
  · subst hT0
    have HJP := hidE (show judP RS k way = true from HJP0.out)
    have HJK := hidE (show judK RS k way = false from HJK0.out)
    have HJN := hidE (show judN RS k way = -1 from HJN0.out)
    have hrt' : Calls Tryd.prog 6 #[.slice ao N co, .agg #[.int .i64 k.kind, .int .i64 k.src, .int .i64 k.frm, .int .i64 k.dst, .int .i64 k.too], .int .i64 way] w2 fun e w' => ∃ a3 c3, e = .returned (.slice a3 0 c3) ∧ OwnI w' w2.heap.size (.slice a3 0 c3) [] ∧ Below w2.heap.size w2 w' := by
      refine hrt.mono ?_
      rintro e w' ⟨v', rfl, own, bb⟩
      obtain ⟨a3, c3, hv'⟩ := own.form
      subst hv'
      exact ⟨a3, c3, rfl, own, bb⟩
    clear hrt HJP0 HJK0 HJN0
    go_upto_region 16 with (go_at_call 6; go_must (refine hrt'.mono ?_; rintro e w3 ⟨a3, c3, rfl, own3, b3⟩))
    have HT3 := hidE (HT2.out.step b3)
    have HOT := hidE own3
    clear hrt' own3 b3 HT2 k0 k1 k2 k3 k4
    have TX := HT3
    have htr := trace_any _ rs k way w3 (HV.out.below TX.out.bel)
    rw [HRS.out, HJE.out, HJT.out] at htr
    obtain ⟨er, her⟩ : ∃ er, erV 0 = er := ⟨_, rfl⟩
    have hes := fun (W : World) (h : ErrLaid W) => erV_sameJ 0 W h
    have hju := fun (W : World) (h : TelW w r k fv tv W) => judge_any _ rs k way W (HV.out.below h.bel)
    rw [HRS.out, HJP.out, HJK.out, HJN.out, HJE.out] at hju
    rw [her] at htr hes hju
    clear her
    unfold keyV at htr hju
    obtain ⟨k0, k1, k2, k3, k4⟩ := TX.out.ky.cells
    go_upto_region 17 with (go_at_call 7; go_must (refine htr.mono ?_; rintro e w14 ⟨v14, rfl, own14, b14⟩))
    have T14 := hidE (TX.out.step b14)
    have OT14 := HOT.out.below b14
    clear htr k0 k1 k2 k3 k4 b14
    have hes14 := hes w14 T14.out.er
    go_upto_region 18 with (go_at_call 8; go_must (refine hes14.mono ?_; rintro e w15 ⟨rfl, b15⟩))
    have T15 := hidE (T14.out.step b15)
    have OT15 := OT14.below b15
    have own15 := own14.below b15
    clear hes14 b15 OT14 own14
    have hju15 := hju w15 T15.out
    obtain ⟨k0, k1, k2, k3, k4⟩ := T15.out.ky.cells
    go_upto_region 19 with (go_at_call 9; go_must (refine hju15.mono ?_; rintro e w16 ⟨rfl, b16⟩))
    have T16 := hidE (T15.out.step b16)
    have OT16 := OT15.below b16
    have own16 := own15.below b16
    clear hju15 hju b16 OT15 own15 k0 k1 k2 k3 k4
    have hes16 := hes w16 T16.out.er
    go_upto_region 20 with (go_at_call 8; go_must (refine hes16.mono ?_; rintro e w17 ⟨rfl, b17⟩))
    have T17 := hidE (T16.out.step b17)
    have OT17 := OT16.below b17
    have own17 := own16.below b17
    clear hes16 hes b17 OT16 own16
    have hsi := sameInts _ _ _ _ _ w17 own17 OT17
    go_upto_region 21 with (go_at_call 10; go_must (refine hsi.mono ?_; rintro e w18 ⟨rfl, b18⟩))
    have hS := T17.out.step b18
    clear hsi b18 OT17 own17 T17 T16 T15 T14
    have hfe := HFE.out
    have hte := HTE.out
    subst hfe hte
    go_region_held3 (fun W => (W.cell? ⟨w.heap.size + 1, 0, none⟩ = some (.bool r.pass) ∧ W.cell? ⟨w.heap.size + 1, 1, none⟩ = some (.bool r.quick) ∧ W.cell? ⟨w.heap.size + 1, 2, none⟩ = some (.bool r.keep) ∧ W.cell? ⟨w.heap.size + 1, 3, none⟩ = some (.int .i64 r.way) ∧ W.cell? ⟨w.heap.size + 1, 4, none⟩ = some (.int .i64 r.kind) ∧ W.cell? ⟨w.heap.size + 1, 5, none⟩ = some (.int .i64 r.sa) ∧ W.cell? ⟨w.heap.size + 1, 6, none⟩ = some (.int .i64 r.sl) ∧ W.cell? ⟨w.heap.size + 1, 7, none⟩ = some (.int .i64 r.da) ∧ W.cell? ⟨w.heap.size + 1, 8, none⟩ = some (.int .i64 r.dl) ∧ W.cell? ⟨w.heap.size + 1, 9, none⟩ = some ((.slice af nf cf)) ∧ W.cell? ⟨w.heap.size + 1, 10, none⟩ = some ((.slice at' nt ct))) ∧ (W.cell? ⟨w.heap.size, 0, none⟩ = some (.int .i64 k.kind) ∧ W.cell? ⟨w.heap.size, 1, none⟩ = some (.int .i64 k.src) ∧ W.cell? ⟨w.heap.size, 2, none⟩ = some (.int .i64 k.frm) ∧ W.cell? ⟨w.heap.size, 3, none⟩ = some (.int .i64 k.dst) ∧ W.cell? ⟨w.heap.size, 4, none⟩ = some (.int .i64 k.too)) ∧ TelW w r k (.slice af nf cf) (.slice at' nt ct) W) (with_reducible first | assumption | exact tel_of hS | exact tel_of (TelW.drew (And.right (And.right (by assumption)))) | exact tel_of (TelW.drew hS) | exact tel_of (TelW.drew (by assumption)) | exact tel_of (by assumption)) (first
      | (go_at_call 11; refine (cA _ (And.right (And.right (by assumption)))).mono ?_; rintro e w19 ⟨rfl, b19⟩; have hS19 := TelW.step (And.right (And.right (by assumption)) : TelW w r k _ _ _) b19)
      | (go_at_call 12; refine (cB _ (And.right (And.right (by assumption)))).mono ?_; rintro e w20 ⟨rfl, b20⟩; have hS20 := TelW.step (And.right (And.right (by assumption)) : TelW w r k _ _ _) b20))
    go_wp2_with fail
    exact HQ.out _ hS20.bel
  · have hT1 : traceL k way 0 RS ≠ [] := by rw [HTT.out]; exact hT0
    obtain ⟨mm, hmm, hlast⟩ := lastN_lt hT1
    rw [HTT.out] at hlast
    rw [hlast, judR_at hmm] at HJP0 HJK0
    rw [hlast] at HJN0
    have hmr : mm < rs.length := by rw [← HRS.out, List.length_map] at hmm; exact hmm
    have h5 : RS[mm]'hmm = rs[mm].1 := by
      have := HRS.out
      subst this
      rw [List.getElem_map]
    rw [h5] at HJP0 HJK0
    have HJN := HJN0
    obtain ⟨M, hM⟩ : ∃ M, T.length = M + 1 := ⟨T.length - 1, by have := List.length_pos_iff.2 hT0; omega⟩
    have hrt' : Calls Tryd.prog 6 #[.slice ao N co, .agg #[.int .i64 k.kind, .int .i64 k.src, .int .i64 k.frm, .int .i64 k.dst, .int .i64 k.too], .int .i64 way] w2 fun e w' => ∃ g3 c3, e = .returned (.slice (some ⟨g3, 0, none⟩) (M + 1) c3) ∧ (M + 1 ≤ c3 ∧ c3 ≤ 9223372036854775807) ∧ w'.cell? ⟨g3, M, none⟩ = some (.int .i64 (mm : Int)) ∧ OwnI w' w2.heap.size (.slice (some ⟨g3, 0, none⟩) (M + 1) c3) T ∧ Below w2.heap.size w2 w' := by
      refine hrt.mono ?_
      rintro e w' ⟨v', rfl, own, bb⟩
      obtain ⟨g3, c3, hv', _, _, h1, h2⟩ := own.shape (by omega)
      rw [hM] at hv' h1
      subst hv'
      have hlt : M < T.length := by omega
      have hc := own.cell hM.symm M hlt
      refine ⟨g3, c3, rfl, ⟨h1, by unfold maxLen at h2; omega⟩, ?_, own, bb⟩
      rw [hc, ← hlast]
      unfold lastN
      have h9 : T[T.length - 1]? = some (T[M]'hlt) := by
        have e : T.length - 1 = M := by omega
        rw [e, List.getElem?_eq_getElem hlt]
      rw [List.getLast?_eq_getElem?, h9]
      rfl
    obtain ⟨b1, o1, e1, hb1, hl1, hx1, hc1⟩ := HV.out.shape (by omega)
    have hx1' : co ≤ 9223372036854775807 := by unfold maxLen at hx1; omega
    have HC := hidE (fun (W : World) (hb : Below w.heap.size w W) => ((hc1 mm hmr).below hb1 hb).1)
    generalize rs[mm].1 = x at HJP0 HJK0 HC
    generalize rs[mm].2.1 = xf at HC
    generalize rs[mm].2.2 = xt at HC
    subst e1
    have j1 : (mm : Int) < (N : Int) := by have := HNN.out; omega
    have j2 : (0 : Int) ≤ (mm : Int) := by omega
    have HJP := HJP0
    have HJK := HJK0
    clear hrt hc1 hx1 h5 hlast hmm hmr hT1 hT0 hM HJP0 HJK0 HJN0
    go_upto_region 16 with (go_at_call 6; go_must (refine hrt'.mono ?_; rintro e w3 ⟨g3, c3, rfl, ⟨hc3, hc4⟩, hcell, own3, b3⟩; have HT3 := hidE (HT2.out.step b3); obtain ⟨x0, x1, x2, xr⟩ := HC.out w3 HT3.out.bel; clear xr))
    have HOT := hidE own3
    have hpp : (x.pass == x.pass) = true := by cases x.pass <;> rfl
    have hkk : (x.keep == x.keep) = true := by cases x.keep <;> rfl
    have hnn : ((mm : Int) == (mm : Int)) = true := by simp
    clear hrt' own3 b3 HT2 k0 k1 k2 k3 k4 x0 x1 x2 hcell
    have TX := HT3
    have htr := trace_any _ rs k way w3 (HV.out.below TX.out.bel)
    rw [HRS.out, HJE.out, HJT.out] at htr
    obtain ⟨er, her⟩ : ∃ er, erV 0 = er := ⟨_, rfl⟩
    have hes := fun (W : World) (h : ErrLaid W) => erV_sameJ 0 W h
    have hju := fun (W : World) (h : TelW w r k fv tv W) => judge_any _ rs k way W (HV.out.below h.bel)
    rw [HRS.out, HJP.out, HJK.out, HJN.out, HJE.out] at hju
    rw [her] at htr hes hju
    clear her
    unfold keyV at htr hju
    obtain ⟨k0, k1, k2, k3, k4⟩ := TX.out.ky.cells
    go_upto_region 17 with (go_at_call 7; go_must (refine htr.mono ?_; rintro e w14 ⟨v14, rfl, own14, b14⟩))
    have T14 := hidE (TX.out.step b14)
    have OT14 := HOT.out.below b14
    clear htr k0 k1 k2 k3 k4 b14
    have hes14 := hes w14 T14.out.er
    go_upto_region 18 with (go_at_call 8; go_must (refine hes14.mono ?_; rintro e w15 ⟨rfl, b15⟩))
    have T15 := hidE (T14.out.step b15)
    have OT15 := OT14.below b15
    have own15 := own14.below b15
    clear hes14 b15 OT14 own14
    have hju15 := hju w15 T15.out
    obtain ⟨k0, k1, k2, k3, k4⟩ := T15.out.ky.cells
    go_upto_region 19 with (go_at_call 9; go_must (refine hju15.mono ?_; rintro e w16 ⟨rfl, b16⟩))
    have T16 := hidE (T15.out.step b16)
    have OT16 := OT15.below b16
    have own16 := own15.below b16
    clear hju15 hju b16 OT15 own15 k0 k1 k2 k3 k4
    have hes16 := hes w16 T16.out.er
    go_upto_region 20 with (go_at_call 8; go_must (refine hes16.mono ?_; rintro e w17 ⟨rfl, b17⟩))
    have T17 := hidE (T16.out.step b17)
    have OT17 := OT16.below b17
    have own17 := own16.below b17
    clear hes16 hes b17 OT16 own16
    have hsi := sameInts _ _ _ _ _ w17 own17 OT17
    go_upto_region 21 with (go_at_call 10; go_must (refine hsi.mono ?_; rintro e w18 ⟨rfl, b18⟩))
    have hS := T17.out.step b18
    clear hsi b18 OT17 own17 T17 T16 T15 T14
    have hfe := HFE.out
    have hte := HTE.out
    subst hfe hte
    go_region_held3 (fun W => (W.cell? ⟨w.heap.size + 1, 0, none⟩ = some (.bool r.pass) ∧ W.cell? ⟨w.heap.size + 1, 1, none⟩ = some (.bool r.quick) ∧ W.cell? ⟨w.heap.size + 1, 2, none⟩ = some (.bool r.keep) ∧ W.cell? ⟨w.heap.size + 1, 3, none⟩ = some (.int .i64 r.way) ∧ W.cell? ⟨w.heap.size + 1, 4, none⟩ = some (.int .i64 r.kind) ∧ W.cell? ⟨w.heap.size + 1, 5, none⟩ = some (.int .i64 r.sa) ∧ W.cell? ⟨w.heap.size + 1, 6, none⟩ = some (.int .i64 r.sl) ∧ W.cell? ⟨w.heap.size + 1, 7, none⟩ = some (.int .i64 r.da) ∧ W.cell? ⟨w.heap.size + 1, 8, none⟩ = some (.int .i64 r.dl) ∧ W.cell? ⟨w.heap.size + 1, 9, none⟩ = some ((.slice af nf cf)) ∧ W.cell? ⟨w.heap.size + 1, 10, none⟩ = some ((.slice at' nt ct))) ∧ (W.cell? ⟨w.heap.size, 0, none⟩ = some (.int .i64 k.kind) ∧ W.cell? ⟨w.heap.size, 1, none⟩ = some (.int .i64 k.src) ∧ W.cell? ⟨w.heap.size, 2, none⟩ = some (.int .i64 k.frm) ∧ W.cell? ⟨w.heap.size, 3, none⟩ = some (.int .i64 k.dst) ∧ W.cell? ⟨w.heap.size, 4, none⟩ = some (.int .i64 k.too)) ∧ TelW w r k (.slice af nf cf) (.slice at' nt ct) W) (with_reducible first | assumption | exact tel_of hS | exact tel_of (TelW.drew (And.right (And.right (by assumption)))) | exact tel_of (TelW.drew hS) | exact tel_of (TelW.drew (by assumption)) | exact tel_of (by assumption)) (first
      | (go_at_call 11; refine (cA _ (And.right (And.right (by assumption)))).mono ?_; rintro e w19 ⟨rfl, b19⟩; have hS19 := TelW.step (And.right (And.right (by assumption)) : TelW w r k _ _ _) b19)
      | (go_at_call 12; refine (cB _ (And.right (And.right (by assumption)))).mono ?_; rintro e w20 ⟨rfl, b20⟩; have hS20 := TelW.step (And.right (And.right (by assumption)) : TelW w r k _ _ _) b20))
    go_wp2_with fail
    exact HQ.out _ hS20.bel
end Go.Proofs.YtfhchbpgpaljhaaDoor
