/- The law SegKeys of package portlaw1 returns true, for every packet, key and three numbers, where errors.errorType holds the handle of the type error; the walk of its text. -/
import Derived.Test.YteijbohfakokfacDoorSegKl0
namespace Go.Proofs.YteijbohfakokfacDoor
open Go.RowKit
set_option linter.unusedVariables false

set_option maxRecDepth 100000 in
set_option maxHeartbeats 40000000 in
theorem keys_any (p : Pk) (a : Option Addr) (l c : Nat) (k : Ky) (na nb0 nm : Int) (w : World) (hb : Bytes w (.slice a l c) p.body) (hE : ErrLaid w) :
    Calls Tryd.prog 3 #[pkV p (.slice a l c), keyV k, .int .i64 na, .int .i64 nb0, .int .i64 nm] w fun e w' => e = .returned (.bool true) ∧ Below w.heap.size w w' := by
  have h0 := Ks.start w p (.slice a l c) k
  have HB : Hid (Bytes w (.slice a l c) p.body) := hb
  have HE : Hid (ErrLaid w) := hE
  have hP := refPacket_any p (.slice a l c) _ (hb.below (Nat.le_refl _) h0.below)
  obtain ⟨m, HM⟩ : ∃ m, Hid (m = pkErr p) := ⟨_, rfl⟩
  rw [← HM.out] at hP
  obtain ⟨e0, HE0⟩ : ∃ e0, Hid (e0 = kyE p) := ⟨_, rfl⟩
  obtain ⟨t, HT⟩ : ∃ t, Hid (t = kyS p) := ⟨_, rfl⟩
  obtain ⟨y, HY⟩ : ∃ y, Hid (y = kyK p) := ⟨_, rfl⟩
  obtain ⟨ev, HEV, EV⟩ : ∃ ev, Hid (ev = errV (kyE p)) ∧ ErrVal ev e0 := ⟨_, rfl, by rw [HE0.out]; exact errV_val _⟩
  unfold pkV keyV
  unfold pkV at hP
  clear hb hE
  go_enter Tryd.func3, Tryd.ntmps3
  go_upto_region 2 with (go_at_call 5; refine hP.mono ?_; rintro e w1 ⟨rfl, b1⟩)
  have h1 := h0.step b1
  clear h0 b1 hP
  obtain ⟨p0, p1, p2, p3, p4, p5, p6, p7⟩ := h1.pk.cells
  by_cases hm : m = 0
  rotate_left
  · as_aux_lemma =>
      have ee : (m == 0) = false := by simpa using hm
      have k0 : kyE p = pkErr p := by unfold kyE; rw [if_pos (by rw [← HM.out]; exact hm)]
      have k1 : ¬ kyE p = 0 := by rw [k0, ← HM.out]; exact hm
      have hme : e0 = m := by rw [HE0.out, k0, HM.out]
      have ht : t = zeroS := by rw [HT.out]; unfold kyS; rw [if_neg k1]
      have hy : y = zeroY := by rw [HY.out]; unfold kyK; rw [if_neg k1]
      clear k0 k1 hm
      go_upto_region 12 with fail
      have alS : Below w1.heap.size w1 (w1.alloc (.cells #[.int .i64 0, .int .i64 0, .int .i64 0, .int .i64 0, .int .i64 0, .int .i64 0, .slice none 0 0] 29)) := (Below.refl _ _).alloc (Nat.le_refl _) _
      have x2 := SgAt.zero w1
      have h2 := h1.step alS
      obtain ⟨W2, hW2⟩ : ∃ W2, w1.alloc (.cells #[.int .i64 0, .int .i64 0, .int .i64 0, .int .i64 0, .int .i64 0, .int .i64 0, .slice none 0 0] 29) = W2 := ⟨_, rfl⟩
      have hsz2 : W2.heap.size = w1.heap.size + 1 := by rw [← hW2]; simp
      rw [hW2] at h2 x2 ⊢
      have alK : Below W2.heap.size W2 (W2.alloc (.cells #[.int .i64 0, .int .i64 0, .int .i64 0, .int .i64 0, .int .i64 0] 26)) := (Below.refl _ _).alloc (Nat.le_refl _) _
      have h := h2.step alK
      have x := x2.alloc (.cells #[.int .i64 0, .int .i64 0, .int .i64 0, .int .i64 0, .int .i64 0] 26)
      have q := KyAt.zero W2
      obtain ⟨W, hW⟩ : ∃ W, W2.alloc (.cells #[.int .i64 0, .int .i64 0, .int .i64 0, .int .i64 0, .int .i64 0] 26) = W := ⟨_, rfl⟩
      rw [hW] at h x q ⊢
      rw [hsz2] at q
      obtain ⟨S4, hS4⟩ : ∃ S4, S4 = w1.heap.size := ⟨_, rfl⟩
      have hlo : w.heap.size + 1 < S4 := by have := h1.ky.lt; omega
      rw [← hS4] at x q ⊢
      clear hW2 hsz2 hW alS alK h1 h2 x2 hS4 p0 p1 p2 p3 p4 p5 p6 p7
      have ME : Hid (e0 = m) := hme
      subst hme
      rw [← ht] at x
      rw [← hy] at q
      have hbt : Bytes W (.slice none 0 0) t.body := by rw [ht]; exact .inl ⟨rfl, _, _, rfl, fun _ => rfl⟩
      obtain ⟨BX, hBX⟩ : ∃ BX, BX = Value.slice none 0 0 := ⟨_, rfl⟩
      rw [← hBX] at x hbt
      obtain ⟨K5, hK5⟩ : ∃ K5, K5 = S4 + 1 := ⟨_, rfl⟩
      rw [← hK5] at q ⊢
      clear hBX ht hy hK5
      obtain ⟨ax, nx, cx, hux⟩ : ∃ ax nx cx, BX = Value.slice ax nx cx := by obtain ⟨ax, cx, h⟩ := len_body hbt; exact ⟨ax, _, cx, h⟩
      subst hux
      have hKo : Calls Tryd.prog 7 #[.agg #[.int .i64 p.kind, .int .i64 p.ttl, .int .i64 p.ident, .int .i64 p.src, .int .i64 p.dst, .int .i64 p.pos, .bool p.more, .slice a l c]] W fun e w' => ∃ a n c, e = .returned (.tuple #[.agg #[.int .i64 y.kind, .int .i64 y.src, .int .i64 y.frm, .int .i64 y.dst, .int .i64 y.too], .agg #[.int .i64 t.frm, .int .i64 t.too, .int .i64 t.seq, .int .i64 t.ack, .int .i64 t.win, .int .i64 t.flg, .slice a n c], ev]) ∧ Bytes w' (.slice a n c) t.body ∧ Below W.heap.size W w' := by
        rw [HY.out, HT.out, HEV.out]
        exact (keyOf_any p (.slice a l c) W (HB.out.below (Nat.le_refl _) h.below)).mono fun e w' h => keys_slice h
      obtain ⟨p0, p1, p2, p3, p4, p5, p6, p7⟩ := h.pk.cells
      go_upto_region 13 with (go_at_call 7; refine hKo.mono ?_; rintro e w9 ⟨a9, n9, c9, rfl, hb9, b9⟩)
      have al9 : Below w9.heap.size w9 (w9.alloc (.cells #[.int .i64 y.kind, .int .i64 y.src, .int .i64 y.frm, .int .i64 y.dst, .int .i64 y.too] 26)) := (Below.refl _ _).alloc (Nat.le_refl _) _
      have h9 := (h.step b9).step al9
      have x9 := (x.below x.lt b9).alloc (.cells #[.int .i64 y.kind, .int .i64 y.src, .int .i64 y.frm, .int .i64 y.dst, .int .i64 y.too] 26)
      have q9 := (q.below q.lt b9).alloc (.cells #[.int .i64 y.kind, .int .i64 y.src, .int .i64 y.frm, .int .i64 y.dst, .int .i64 y.too] 26)
      have y9 := KyAt.new w9 y
      have hbt9 := (hbt.below (Nat.le_refl _) b9).below (Nat.le_refl _) al9
      have hbs9 := hb9.below (Nat.le_refl _) al9
      obtain ⟨W9, hW9⟩ : ∃ W9, w9.alloc (.cells #[.int .i64 y.kind, .int .i64 y.src, .int .i64 y.frm, .int .i64 y.dst, .int .i64 y.too] 26) = W9 := ⟨_, rfl⟩
      have hsz : W9.heap.size = w9.heap.size + 1 := by rw [← hW9]; simp
      rw [hW9] at h9 x9 q9 y9 hbt9 hbs9 ⊢
      have alA : Below W9.heap.size W9 (W9.alloc (.cells #[.int .i64 t.frm, .int .i64 t.too, .int .i64 t.seq, .int .i64 t.ack, .int .i64 t.win, .int .i64 t.flg, .slice a9 n9 c9] 29)) := (Below.refl _ _).alloc (Nat.le_refl _) _
      have hA := h9.step alA
      have xA := x9.alloc (.cells #[.int .i64 t.frm, .int .i64 t.too, .int .i64 t.seq, .int .i64 t.ack, .int .i64 t.win, .int .i64 t.flg, .slice a9 n9 c9] 29)
      have qA := q9.alloc (.cells #[.int .i64 t.frm, .int .i64 t.too, .int .i64 t.seq, .int .i64 t.ack, .int .i64 t.win, .int .i64 t.flg, .slice a9 n9 c9] 29)
      have yA := y9.alloc (.cells #[.int .i64 t.frm, .int .i64 t.too, .int .i64 t.seq, .int .i64 t.ack, .int .i64 t.win, .int .i64 t.flg, .slice a9 n9 c9] 29)
      have zA := SgAt.new W9 t (.slice a9 n9 c9)
      have hbtA := hbt9.below (Nat.le_refl _) alA
      have hbsA := hbs9.below (Nat.le_refl _) alA
      obtain ⟨WA, hWA⟩ : ∃ WA, W9.alloc (.cells #[.int .i64 t.frm, .int .i64 t.too, .int .i64 t.seq, .int .i64 t.ack, .int .i64 t.win, .int .i64 t.flg, .slice a9 n9 c9] 29) = WA := ⟨_, rfl⟩
      rw [hWA] at hA xA qA yA zA hbtA hbsA ⊢
      rw [hsz] at zA
      obtain ⟨K9, hK9⟩ : ∃ K9, K9 = w9.heap.size := ⟨_, rfl⟩
      rw [← hK9] at zA yA ⊢
      clear hW9 hWA hsz hK9 h x q hbt h9 x9 q9 y9 hbt9 hbs9 al9 alA b9 hb9 hKo p0 p1 p2 p3 p4 p5 p6 p7
      have hEr := error_val EV e0 WA (HE.out.below hA.below)
      rw [show (e0 == e0) = true by simp] at hEr
      go_upto_region 14 with (go_at_call 8; refine hEr.mono ?_; rintro e wB ⟨rfl, bB⟩)
      have hB := hA.step bB
      have xB := xA.below xA.lt bB
      have qB := qA.below qA.lt bB
      have yB := yA.below yA.lt bB
      have zB := zA.below zA.lt bB
      have hM := sameSg t (.slice a9 n9 c9) (.slice ax nx cx) wB (hbsA.below (Nat.le_refl _) bB) (hbtA.below (Nat.le_refl _) bB)
      unfold segV at hM
      clear hA xA qA yA zA hbtA hbsA bB hEr
      obtain ⟨u0, u1, u2, u3, u4, u5, u6⟩ := xB.cells
      obtain ⟨v0, v1, v2, v3, v4, v5, v6⟩ := zB.cells
      go_upto_region 15 with (go_at_call 9; refine hM.mono ?_; rintro e wC ⟨rfl, bC⟩)
      have hC := hB.step bC
      have qC := qB.below qB.lt bC
      have yC := yB.below yB.lt bC
      clear hB xB qB yB zB bC hM u0 u1 u2 u3 u4 u5 u6 v0 v1 v2 v3 v4 v5 v6
      have hTu := turn_any k wC
      unfold keyV turnK at hTu
      obtain ⟨k0, k1, k2, k3, k4⟩ := hC.ky.cells
      go_upto_region 16 with (go_at_call 10; refine hTu.mono ?_; rintro e wD ⟨rfl, bD⟩)
      have alD : Below wD.heap.size wD (wD.alloc (.cells #[.int .i64 k.kind, .int .i64 k.dst, .int .i64 k.too, .int .i64 k.src, .int .i64 k.frm] 26)) := (Below.refl _ _).alloc (Nat.le_refl _) _
      have hD := (hC.step bD).step alD
      have qD := (qC.below qC.lt bD).alloc (.cells #[.int .i64 k.kind, .int .i64 k.dst, .int .i64 k.too, .int .i64 k.src, .int .i64 k.frm] 26)
      have yD := (yC.below yC.lt bD).alloc (.cells #[.int .i64 k.kind, .int .i64 k.dst, .int .i64 k.too, .int .i64 k.src, .int .i64 k.frm] 26)
      have tD := KyAt.new wD { kind := k.kind, src := k.dst, frm := k.too, dst := k.src, too := k.frm }
      obtain ⟨WD, hWD⟩ : ∃ WD, wD.alloc (.cells #[.int .i64 k.kind, .int .i64 k.dst, .int .i64 k.too, .int .i64 k.src, .int .i64 k.frm] 26) = WD := ⟨_, rfl⟩
      obtain ⟨T9, hT9⟩ : ∃ T9, T9 = wD.heap.size := ⟨_, rfl⟩
      simp only at tD
      rw [hWD] at hD qD yD tD ⊢
      rw [← hT9] at tD ⊢
      clear hWD hT9 hC qC yC bD alD hTu k0 k1 k2 k3 k4
      obtain ⟨f, HF⟩ : ∃ f, Hid (f = firstK k) := ⟨_, rfl⟩
      have hFi : Calls Tryd.prog 11 #[.agg #[.int .i64 k.kind, .int .i64 k.src, .int .i64 k.frm, .int .i64 k.dst, .int .i64 k.too]] WD fun e w' => e = .returned (.agg #[.int .i64 f.kind, .int .i64 f.src, .int .i64 f.frm, .int .i64 f.dst, .int .i64 f.too]) ∧ Below WD.heap.size WD w' := by
        have h := first_any k WD
        rw [← HF.out] at h
        exact h
      obtain ⟨k0, k1, k2, k3, k4⟩ := hD.ky.cells
      go_upto_region 17 with (go_at_call 11; refine hFi.mono ?_; rintro e wE ⟨rfl, bE⟩)
      have hS : Kc w k y f K9 K5 T9 wE.heap.size (wE.alloc (.cells #[.int .i64 f.kind, .int .i64 f.src, .int .i64 f.frm, .int .i64 f.dst, .int .i64 f.too] 26)) := by
        have alE : Below wE.heap.size wE (wE.alloc (.cells #[.int .i64 f.kind, .int .i64 f.src, .int .i64 f.frm, .int .i64 f.dst, .int .i64 f.too] 26)) := (Below.refl _ _).alloc (Nat.le_refl _) _
        have hE' := (hD.step bE).step alE
        exact ⟨(yD.below yD.lt bE).alloc _, (qD.below qD.lt bE).alloc _, hE'.ky, (tD.below tD.lt bE).alloc _, KyAt.new wE f, hE'.below⟩
      obtain ⟨WE, hWE⟩ : ∃ WE, wE.alloc (.cells #[.int .i64 f.kind, .int .i64 f.src, .int .i64 f.frm, .int .i64 f.dst, .int .i64 f.too] 26) = WE := ⟨_, rfl⟩
      obtain ⟨F9, hF9⟩ : ∃ F9, F9 = wE.heap.size := ⟨_, rfl⟩
      rw [hWE] at hS ⊢
      rw [← hF9] at hS ⊢
      clear hWE hF9 hD qD yD tD bE hFi k0 k1 k2 k3 k4
      have cT : ∀ W, Calls Tryd.prog 12 #[.agg #[.int .i64 k.kind, .int .i64 k.src, .int .i64 k.frm, .int .i64 k.dst, .int .i64 k.too]] W fun e w' => e = .returned (.agg #[.int .i64 k.kind, .int .i64 k.dst, .int .i64 k.too, .int .i64 k.src, .int .i64 k.frm]) ∧ Below W.heap.size W w' := fun W => refTurn_any k W
      have cF : ∀ W, Calls Tryd.prog 13 #[.agg #[.int .i64 k.kind, .int .i64 k.src, .int .i64 k.frm, .int .i64 k.dst, .int .i64 k.too]] W fun e w' => e = .returned (.agg #[.int .i64 f.kind, .int .i64 f.src, .int .i64 f.frm, .int .i64 f.dst, .int .i64 f.too]) ∧ Below W.heap.size W w' := by
        intro W
        have h := refFirst_any k W
        rw [← HF.out] at h
        exact h
      obtain ⟨nb, HNB⟩ : ∃ nb, Hid (nb = nearB na nb0 nm) := ⟨_, rfl⟩
      have cN : ∀ W, Calls Tryd.prog 14 #[.int .i64 na, .int .i64 nb0, .int .i64 nm] W fun e w' => e = .returned (.bool nb) ∧ w' = W := by
        intro W; rw [HNB.out]; exact near_any na nb0 nm W
      have cM : ∀ W, Calls Tryd.prog 15 #[.int .i64 na, .int .i64 nb0, .int .i64 nm] W fun e w' => e = .returned (.bool nb) ∧ w' = W := by
        intro W; rw [HNB.out]; exact refNear_any na nb0 nm W
      have n1 := fun W => Tryd.keyEql y.kind y.src y.frm y.dst y.too W
      have n2 := fun W => Tryd.keyEql k.kind k.dst k.too k.src k.frm W
      have n3 := fun W => Tryd.keyEql f.kind f.src f.frm f.dst f.too W
      clear HF HNB
      go_region_held3 (fun w' => ((w'.cell? ⟨K9, 0, none⟩ = some (.int .i64 y.kind) ∧ w'.cell? ⟨K9, 1, none⟩ = some (.int .i64 y.src) ∧ w'.cell? ⟨K9, 2, none⟩ = some (.int .i64 y.frm) ∧ w'.cell? ⟨K9, 3, none⟩ = some (.int .i64 y.dst) ∧ w'.cell? ⟨K9, 4, none⟩ = some (.int .i64 y.too)) ∧ (w'.cell? ⟨K5, 0, none⟩ = some (.int .i64 y.kind) ∧ w'.cell? ⟨K5, 1, none⟩ = some (.int .i64 y.src) ∧ w'.cell? ⟨K5, 2, none⟩ = some (.int .i64 y.frm) ∧ w'.cell? ⟨K5, 3, none⟩ = some (.int .i64 y.dst) ∧ w'.cell? ⟨K5, 4, none⟩ = some (.int .i64 y.too)) ∧ (w'.cell? ⟨w.heap.size + 1, 0, none⟩ = some (.int .i64 k.kind) ∧ w'.cell? ⟨w.heap.size + 1, 1, none⟩ = some (.int .i64 k.src) ∧ w'.cell? ⟨w.heap.size + 1, 2, none⟩ = some (.int .i64 k.frm) ∧ w'.cell? ⟨w.heap.size + 1, 3, none⟩ = some (.int .i64 k.dst) ∧ w'.cell? ⟨w.heap.size + 1, 4, none⟩ = some (.int .i64 k.too)) ∧ (w'.cell? ⟨T9, 0, none⟩ = some (.int .i64 k.kind) ∧ w'.cell? ⟨T9, 1, none⟩ = some (.int .i64 k.dst) ∧ w'.cell? ⟨T9, 2, none⟩ = some (.int .i64 k.too) ∧ w'.cell? ⟨T9, 3, none⟩ = some (.int .i64 k.src) ∧ w'.cell? ⟨T9, 4, none⟩ = some (.int .i64 k.frm)) ∧ (w'.cell? ⟨F9, 0, none⟩ = some (.int .i64 f.kind) ∧ w'.cell? ⟨F9, 1, none⟩ = some (.int .i64 f.src) ∧ w'.cell? ⟨F9, 2, none⟩ = some (.int .i64 f.frm) ∧ w'.cell? ⟨F9, 3, none⟩ = some (.int .i64 f.dst) ∧ w'.cell? ⟨F9, 4, none⟩ = some (.int .i64 f.too))) ∧ Kc w k y f K9 K5 T9 F9 w') (with_reducible first | assumption | exact kc_of hS | exact kc_of (Kc.drew (And.right (by assumption))) | exact kc_of (Kc.drew hS) | exact kc_of (Kc.drew (by assumption)) | exact kc_of (by assumption)) (first
        | (go_at_call 12; refine (cT _).mono ?_; rintro e wF ⟨rfl, bF⟩; have hSF := Kc.step (And.right (by assumption) : Kc w k y f K9 K5 T9 F9 _) bF)
        | (go_at_call 13; refine (cF _).mono ?_; rintro e wG ⟨rfl, bG⟩; have hSG := Kc.step (And.right (by assumption) : Kc w k y f K9 K5 T9 F9 _) bG)
        | (go_at_call 14; refine (cN _).mono ?_; rintro e wG ⟨rfl, rfl⟩)
        | (go_at_call 15; refine (cM _).mono ?_; rintro e wG ⟨rfl, rfl⟩))
      go_wp2_with fail
      go_ret
      exact ⟨rfl, hSG.below⟩
  have HM0 : Hid (pkErr p = 0) := by show pkErr p = 0; rw [← HM.out]; exact hm
  subst hm
  have hpos := (of_pkIn (pkErr_ok HM0.out).1).2.2.2.2.2
  by_cases hq : 0 < p.pos ∨ p.more = true
  · as_aux_lemma =>
      have k0 : kyE p = 3 := by unfold kyE; rw [if_neg (by rw [Decidable.not_not]; exact HM0.out), if_pos (by rcases hq with h | h; exact .inl (by omega); exact .inr h)]
      have k1 : ¬ kyE p = 0 := by rw [k0]; decide
      have hme : e0 = 3 := by rw [HE0.out, k0]
      have ht : t = zeroS := by rw [HT.out]; unfold kyS; rw [if_neg k1]
      have hy : y = zeroY := by rw [HY.out]; unfold kyK; rw [if_neg k1]
      clear k0 k1
      subst hme
      by_cases hq1 : 0 < p.pos
      · clear hq
        go_upto_region 12 with fail
        have alS : Below w1.heap.size w1 (w1.alloc (.cells #[.int .i64 0, .int .i64 0, .int .i64 0, .int .i64 0, .int .i64 0, .int .i64 0, .slice none 0 0] 29)) := (Below.refl _ _).alloc (Nat.le_refl _) _
        have x2 := SgAt.zero w1
        have h2 := h1.step alS
        obtain ⟨W2, hW2⟩ : ∃ W2, w1.alloc (.cells #[.int .i64 0, .int .i64 0, .int .i64 0, .int .i64 0, .int .i64 0, .int .i64 0, .slice none 0 0] 29) = W2 := ⟨_, rfl⟩
        have hsz2 : W2.heap.size = w1.heap.size + 1 := by rw [← hW2]; simp
        rw [hW2] at h2 x2 ⊢
        have alK : Below W2.heap.size W2 (W2.alloc (.cells #[.int .i64 0, .int .i64 0, .int .i64 0, .int .i64 0, .int .i64 0] 26)) := (Below.refl _ _).alloc (Nat.le_refl _) _
        have h := h2.step alK
        have x := x2.alloc (.cells #[.int .i64 0, .int .i64 0, .int .i64 0, .int .i64 0, .int .i64 0] 26)
        have q := KyAt.zero W2
        obtain ⟨W, hW⟩ : ∃ W, W2.alloc (.cells #[.int .i64 0, .int .i64 0, .int .i64 0, .int .i64 0, .int .i64 0] 26) = W := ⟨_, rfl⟩
        rw [hW] at h x q ⊢
        rw [hsz2] at q
        obtain ⟨S4, hS4⟩ : ∃ S4, S4 = w1.heap.size := ⟨_, rfl⟩
        have hlo : w.heap.size + 1 < S4 := by have := h1.ky.lt; omega
        rw [← hS4] at x q ⊢
        clear hW2 hsz2 hW alS alK h1 h2 x2 hS4 p0 p1 p2 p3 p4 p5 p6 p7
        rw [← ht] at x
        rw [← hy] at q
        have hbt : Bytes W (.slice none 0 0) t.body := by rw [ht]; exact .inl ⟨rfl, _, _, rfl, fun _ => rfl⟩
        obtain ⟨BX, hBX⟩ : ∃ BX, BX = Value.slice none 0 0 := ⟨_, rfl⟩
        rw [← hBX] at x hbt
        obtain ⟨K5, hK5⟩ : ∃ K5, K5 = S4 + 1 := ⟨_, rfl⟩
        rw [← hK5] at q ⊢
        clear hBX ht hy hK5
        obtain ⟨ax, nx, cx, hux⟩ : ∃ ax nx cx, BX = Value.slice ax nx cx := by obtain ⟨ax, cx, h⟩ := len_body hbt; exact ⟨ax, _, cx, h⟩
        subst hux
        have hKo : Calls Tryd.prog 7 #[.agg #[.int .i64 p.kind, .int .i64 p.ttl, .int .i64 p.ident, .int .i64 p.src, .int .i64 p.dst, .int .i64 p.pos, .bool p.more, .slice a l c]] W fun e w' => ∃ a n c, e = .returned (.tuple #[.agg #[.int .i64 y.kind, .int .i64 y.src, .int .i64 y.frm, .int .i64 y.dst, .int .i64 y.too], .agg #[.int .i64 t.frm, .int .i64 t.too, .int .i64 t.seq, .int .i64 t.ack, .int .i64 t.win, .int .i64 t.flg, .slice a n c], ev]) ∧ Bytes w' (.slice a n c) t.body ∧ Below W.heap.size W w' := by
          rw [HY.out, HT.out, HEV.out]
          exact (keyOf_any p (.slice a l c) W (HB.out.below (Nat.le_refl _) h.below)).mono fun e w' h => keys_slice h
        obtain ⟨p0, p1, p2, p3, p4, p5, p6, p7⟩ := h.pk.cells
        go_upto_region 13 with (go_at_call 7; refine hKo.mono ?_; rintro e w9 ⟨a9, n9, c9, rfl, hb9, b9⟩)
        have al9 : Below w9.heap.size w9 (w9.alloc (.cells #[.int .i64 y.kind, .int .i64 y.src, .int .i64 y.frm, .int .i64 y.dst, .int .i64 y.too] 26)) := (Below.refl _ _).alloc (Nat.le_refl _) _
        have h9 := (h.step b9).step al9
        have x9 := (x.below x.lt b9).alloc (.cells #[.int .i64 y.kind, .int .i64 y.src, .int .i64 y.frm, .int .i64 y.dst, .int .i64 y.too] 26)
        have q9 := (q.below q.lt b9).alloc (.cells #[.int .i64 y.kind, .int .i64 y.src, .int .i64 y.frm, .int .i64 y.dst, .int .i64 y.too] 26)
        have y9 := KyAt.new w9 y
        have hbt9 := (hbt.below (Nat.le_refl _) b9).below (Nat.le_refl _) al9
        have hbs9 := hb9.below (Nat.le_refl _) al9
        obtain ⟨W9, hW9⟩ : ∃ W9, w9.alloc (.cells #[.int .i64 y.kind, .int .i64 y.src, .int .i64 y.frm, .int .i64 y.dst, .int .i64 y.too] 26) = W9 := ⟨_, rfl⟩
        have hsz : W9.heap.size = w9.heap.size + 1 := by rw [← hW9]; simp
        rw [hW9] at h9 x9 q9 y9 hbt9 hbs9 ⊢
        have alA : Below W9.heap.size W9 (W9.alloc (.cells #[.int .i64 t.frm, .int .i64 t.too, .int .i64 t.seq, .int .i64 t.ack, .int .i64 t.win, .int .i64 t.flg, .slice a9 n9 c9] 29)) := (Below.refl _ _).alloc (Nat.le_refl _) _
        have hA := h9.step alA
        have xA := x9.alloc (.cells #[.int .i64 t.frm, .int .i64 t.too, .int .i64 t.seq, .int .i64 t.ack, .int .i64 t.win, .int .i64 t.flg, .slice a9 n9 c9] 29)
        have qA := q9.alloc (.cells #[.int .i64 t.frm, .int .i64 t.too, .int .i64 t.seq, .int .i64 t.ack, .int .i64 t.win, .int .i64 t.flg, .slice a9 n9 c9] 29)
        have yA := y9.alloc (.cells #[.int .i64 t.frm, .int .i64 t.too, .int .i64 t.seq, .int .i64 t.ack, .int .i64 t.win, .int .i64 t.flg, .slice a9 n9 c9] 29)
        have zA := SgAt.new W9 t (.slice a9 n9 c9)
        have hbtA := hbt9.below (Nat.le_refl _) alA
        have hbsA := hbs9.below (Nat.le_refl _) alA
        obtain ⟨WA, hWA⟩ : ∃ WA, W9.alloc (.cells #[.int .i64 t.frm, .int .i64 t.too, .int .i64 t.seq, .int .i64 t.ack, .int .i64 t.win, .int .i64 t.flg, .slice a9 n9 c9] 29) = WA := ⟨_, rfl⟩
        rw [hWA] at hA xA qA yA zA hbtA hbsA ⊢
        rw [hsz] at zA
        obtain ⟨K9, hK9⟩ : ∃ K9, K9 = w9.heap.size := ⟨_, rfl⟩
        rw [← hK9] at zA yA ⊢
        clear hW9 hWA hsz hK9 h x q hbt h9 x9 q9 y9 hbt9 hbs9 al9 alA b9 hb9 hKo p0 p1 p2 p3 p4 p5 p6 p7
        have hEr := error_val EV 3 WA (HE.out.below hA.below)
        rw [show ((3 : Int) == 3) = true from rfl] at hEr
        go_upto_region 14 with (go_at_call 8; refine hEr.mono ?_; rintro e wB ⟨rfl, bB⟩)
        have hB := hA.step bB
        have xB := xA.below xA.lt bB
        have qB := qA.below qA.lt bB
        have yB := yA.below yA.lt bB
        have zB := zA.below zA.lt bB
        have hM := sameSg t (.slice a9 n9 c9) (.slice ax nx cx) wB (hbsA.below (Nat.le_refl _) bB) (hbtA.below (Nat.le_refl _) bB)
        unfold segV at hM
        clear hA xA qA yA zA hbtA hbsA bB hEr
        obtain ⟨u0, u1, u2, u3, u4, u5, u6⟩ := xB.cells
        obtain ⟨v0, v1, v2, v3, v4, v5, v6⟩ := zB.cells
        go_upto_region 15 with (go_at_call 9; refine hM.mono ?_; rintro e wC ⟨rfl, bC⟩)
        have hC := hB.step bC
        have qC := qB.below qB.lt bC
        have yC := yB.below yB.lt bC
        clear hB xB qB yB zB bC hM u0 u1 u2 u3 u4 u5 u6 v0 v1 v2 v3 v4 v5 v6
        have hTu := turn_any k wC
        unfold keyV turnK at hTu
        obtain ⟨k0, k1, k2, k3, k4⟩ := hC.ky.cells
        go_upto_region 16 with (go_at_call 10; refine hTu.mono ?_; rintro e wD ⟨rfl, bD⟩)
        have alD : Below wD.heap.size wD (wD.alloc (.cells #[.int .i64 k.kind, .int .i64 k.dst, .int .i64 k.too, .int .i64 k.src, .int .i64 k.frm] 26)) := (Below.refl _ _).alloc (Nat.le_refl _) _
        have hD := (hC.step bD).step alD
        have qD := (qC.below qC.lt bD).alloc (.cells #[.int .i64 k.kind, .int .i64 k.dst, .int .i64 k.too, .int .i64 k.src, .int .i64 k.frm] 26)
        have yD := (yC.below yC.lt bD).alloc (.cells #[.int .i64 k.kind, .int .i64 k.dst, .int .i64 k.too, .int .i64 k.src, .int .i64 k.frm] 26)
        have tD := KyAt.new wD { kind := k.kind, src := k.dst, frm := k.too, dst := k.src, too := k.frm }
        obtain ⟨WD, hWD⟩ : ∃ WD, wD.alloc (.cells #[.int .i64 k.kind, .int .i64 k.dst, .int .i64 k.too, .int .i64 k.src, .int .i64 k.frm] 26) = WD := ⟨_, rfl⟩
        obtain ⟨T9, hT9⟩ : ∃ T9, T9 = wD.heap.size := ⟨_, rfl⟩
        simp only at tD
        rw [hWD] at hD qD yD tD ⊢
        rw [← hT9] at tD ⊢
        clear hWD hT9 hC qC yC bD alD hTu k0 k1 k2 k3 k4
        obtain ⟨f, HF⟩ : ∃ f, Hid (f = firstK k) := ⟨_, rfl⟩
        have hFi : Calls Tryd.prog 11 #[.agg #[.int .i64 k.kind, .int .i64 k.src, .int .i64 k.frm, .int .i64 k.dst, .int .i64 k.too]] WD fun e w' => e = .returned (.agg #[.int .i64 f.kind, .int .i64 f.src, .int .i64 f.frm, .int .i64 f.dst, .int .i64 f.too]) ∧ Below WD.heap.size WD w' := by
          have h := first_any k WD
          rw [← HF.out] at h
          exact h
        obtain ⟨k0, k1, k2, k3, k4⟩ := hD.ky.cells
        go_upto_region 17 with (go_at_call 11; refine hFi.mono ?_; rintro e wE ⟨rfl, bE⟩)
        have hS : Kc w k y f K9 K5 T9 wE.heap.size (wE.alloc (.cells #[.int .i64 f.kind, .int .i64 f.src, .int .i64 f.frm, .int .i64 f.dst, .int .i64 f.too] 26)) := by
          have alE : Below wE.heap.size wE (wE.alloc (.cells #[.int .i64 f.kind, .int .i64 f.src, .int .i64 f.frm, .int .i64 f.dst, .int .i64 f.too] 26)) := (Below.refl _ _).alloc (Nat.le_refl _) _
          have hE' := (hD.step bE).step alE
          exact ⟨(yD.below yD.lt bE).alloc _, (qD.below qD.lt bE).alloc _, hE'.ky, (tD.below tD.lt bE).alloc _, KyAt.new wE f, hE'.below⟩
        obtain ⟨WE, hWE⟩ : ∃ WE, wE.alloc (.cells #[.int .i64 f.kind, .int .i64 f.src, .int .i64 f.frm, .int .i64 f.dst, .int .i64 f.too] 26) = WE := ⟨_, rfl⟩
        obtain ⟨F9, hF9⟩ : ∃ F9, F9 = wE.heap.size := ⟨_, rfl⟩
        rw [hWE] at hS ⊢
        rw [← hF9] at hS ⊢
        clear hWE hF9 hD qD yD tD bE hFi k0 k1 k2 k3 k4
        have cT : ∀ W, Calls Tryd.prog 12 #[.agg #[.int .i64 k.kind, .int .i64 k.src, .int .i64 k.frm, .int .i64 k.dst, .int .i64 k.too]] W fun e w' => e = .returned (.agg #[.int .i64 k.kind, .int .i64 k.dst, .int .i64 k.too, .int .i64 k.src, .int .i64 k.frm]) ∧ Below W.heap.size W w' := fun W => refTurn_any k W
        have cF : ∀ W, Calls Tryd.prog 13 #[.agg #[.int .i64 k.kind, .int .i64 k.src, .int .i64 k.frm, .int .i64 k.dst, .int .i64 k.too]] W fun e w' => e = .returned (.agg #[.int .i64 f.kind, .int .i64 f.src, .int .i64 f.frm, .int .i64 f.dst, .int .i64 f.too]) ∧ Below W.heap.size W w' := by
          intro W
          have h := refFirst_any k W
          rw [← HF.out] at h
          exact h
        obtain ⟨nb, HNB⟩ : ∃ nb, Hid (nb = nearB na nb0 nm) := ⟨_, rfl⟩
        have cN : ∀ W, Calls Tryd.prog 14 #[.int .i64 na, .int .i64 nb0, .int .i64 nm] W fun e w' => e = .returned (.bool nb) ∧ w' = W := by
          intro W; rw [HNB.out]; exact near_any na nb0 nm W
        have cM : ∀ W, Calls Tryd.prog 15 #[.int .i64 na, .int .i64 nb0, .int .i64 nm] W fun e w' => e = .returned (.bool nb) ∧ w' = W := by
          intro W; rw [HNB.out]; exact refNear_any na nb0 nm W
        have n1 := fun W => Tryd.keyEql y.kind y.src y.frm y.dst y.too W
        have n2 := fun W => Tryd.keyEql k.kind k.dst k.too k.src k.frm W
        have n3 := fun W => Tryd.keyEql f.kind f.src f.frm f.dst f.too W
        clear HF HNB
        go_region_held3 (fun w' => ((w'.cell? ⟨K9, 0, none⟩ = some (.int .i64 y.kind) ∧ w'.cell? ⟨K9, 1, none⟩ = some (.int .i64 y.src) ∧ w'.cell? ⟨K9, 2, none⟩ = some (.int .i64 y.frm) ∧ w'.cell? ⟨K9, 3, none⟩ = some (.int .i64 y.dst) ∧ w'.cell? ⟨K9, 4, none⟩ = some (.int .i64 y.too)) ∧ (w'.cell? ⟨K5, 0, none⟩ = some (.int .i64 y.kind) ∧ w'.cell? ⟨K5, 1, none⟩ = some (.int .i64 y.src) ∧ w'.cell? ⟨K5, 2, none⟩ = some (.int .i64 y.frm) ∧ w'.cell? ⟨K5, 3, none⟩ = some (.int .i64 y.dst) ∧ w'.cell? ⟨K5, 4, none⟩ = some (.int .i64 y.too)) ∧ (w'.cell? ⟨w.heap.size + 1, 0, none⟩ = some (.int .i64 k.kind) ∧ w'.cell? ⟨w.heap.size + 1, 1, none⟩ = some (.int .i64 k.src) ∧ w'.cell? ⟨w.heap.size + 1, 2, none⟩ = some (.int .i64 k.frm) ∧ w'.cell? ⟨w.heap.size + 1, 3, none⟩ = some (.int .i64 k.dst) ∧ w'.cell? ⟨w.heap.size + 1, 4, none⟩ = some (.int .i64 k.too)) ∧ (w'.cell? ⟨T9, 0, none⟩ = some (.int .i64 k.kind) ∧ w'.cell? ⟨T9, 1, none⟩ = some (.int .i64 k.dst) ∧ w'.cell? ⟨T9, 2, none⟩ = some (.int .i64 k.too) ∧ w'.cell? ⟨T9, 3, none⟩ = some (.int .i64 k.src) ∧ w'.cell? ⟨T9, 4, none⟩ = some (.int .i64 k.frm)) ∧ (w'.cell? ⟨F9, 0, none⟩ = some (.int .i64 f.kind) ∧ w'.cell? ⟨F9, 1, none⟩ = some (.int .i64 f.src) ∧ w'.cell? ⟨F9, 2, none⟩ = some (.int .i64 f.frm) ∧ w'.cell? ⟨F9, 3, none⟩ = some (.int .i64 f.dst) ∧ w'.cell? ⟨F9, 4, none⟩ = some (.int .i64 f.too))) ∧ Kc w k y f K9 K5 T9 F9 w') (with_reducible first | assumption | exact kc_of hS | exact kc_of (Kc.drew (And.right (by assumption))) | exact kc_of (Kc.drew hS) | exact kc_of (Kc.drew (by assumption)) | exact kc_of (by assumption)) (first
          | (go_at_call 12; refine (cT _).mono ?_; rintro e wF ⟨rfl, bF⟩; have hSF := Kc.step (And.right (by assumption) : Kc w k y f K9 K5 T9 F9 _) bF)
          | (go_at_call 13; refine (cF _).mono ?_; rintro e wG ⟨rfl, bG⟩; have hSG := Kc.step (And.right (by assumption) : Kc w k y f K9 K5 T9 F9 _) bG)
          | (go_at_call 14; refine (cN _).mono ?_; rintro e wG ⟨rfl, rfl⟩)
          | (go_at_call 15; refine (cM _).mono ?_; rintro e wG ⟨rfl, rfl⟩))
        go_wp2_with fail
        go_ret
        exact ⟨rfl, hSG.below⟩
      · have hmo : p.more = true := by rcases hq with h | h; exact absurd h hq1; exact h
        clear hq
        rw [hmo] at p6
        clear hmo hpos
        go_upto_region 12 with fail
        clear hq1
        have alS : Below w1.heap.size w1 (w1.alloc (.cells #[.int .i64 0, .int .i64 0, .int .i64 0, .int .i64 0, .int .i64 0, .int .i64 0, .slice none 0 0] 29)) := (Below.refl _ _).alloc (Nat.le_refl _) _
        have x2 := SgAt.zero w1
        have h2 := h1.step alS
        obtain ⟨W2, hW2⟩ : ∃ W2, w1.alloc (.cells #[.int .i64 0, .int .i64 0, .int .i64 0, .int .i64 0, .int .i64 0, .int .i64 0, .slice none 0 0] 29) = W2 := ⟨_, rfl⟩
        have hsz2 : W2.heap.size = w1.heap.size + 1 := by rw [← hW2]; simp
        rw [hW2] at h2 x2 ⊢
        have alK : Below W2.heap.size W2 (W2.alloc (.cells #[.int .i64 0, .int .i64 0, .int .i64 0, .int .i64 0, .int .i64 0] 26)) := (Below.refl _ _).alloc (Nat.le_refl _) _
        have h := h2.step alK
        have x := x2.alloc (.cells #[.int .i64 0, .int .i64 0, .int .i64 0, .int .i64 0, .int .i64 0] 26)
        have q := KyAt.zero W2
        obtain ⟨W, hW⟩ : ∃ W, W2.alloc (.cells #[.int .i64 0, .int .i64 0, .int .i64 0, .int .i64 0, .int .i64 0] 26) = W := ⟨_, rfl⟩
        rw [hW] at h x q ⊢
        rw [hsz2] at q
        obtain ⟨S4, hS4⟩ : ∃ S4, S4 = w1.heap.size := ⟨_, rfl⟩
        have hlo : w.heap.size + 1 < S4 := by have := h1.ky.lt; omega
        rw [← hS4] at x q ⊢
        clear hW2 hsz2 hW alS alK h1 h2 x2 hS4 p0 p1 p2 p3 p4 p5 p6 p7
        rw [← ht] at x
        rw [← hy] at q
        have hbt : Bytes W (.slice none 0 0) t.body := by rw [ht]; exact .inl ⟨rfl, _, _, rfl, fun _ => rfl⟩
        obtain ⟨BX, hBX⟩ : ∃ BX, BX = Value.slice none 0 0 := ⟨_, rfl⟩
        rw [← hBX] at x hbt
        obtain ⟨K5, hK5⟩ : ∃ K5, K5 = S4 + 1 := ⟨_, rfl⟩
        rw [← hK5] at q ⊢
        clear hBX ht hy hK5
        obtain ⟨ax, nx, cx, hux⟩ : ∃ ax nx cx, BX = Value.slice ax nx cx := by obtain ⟨ax, cx, h⟩ := len_body hbt; exact ⟨ax, _, cx, h⟩
        subst hux
        have hKo : Calls Tryd.prog 7 #[.agg #[.int .i64 p.kind, .int .i64 p.ttl, .int .i64 p.ident, .int .i64 p.src, .int .i64 p.dst, .int .i64 p.pos, .bool p.more, .slice a l c]] W fun e w' => ∃ a n c, e = .returned (.tuple #[.agg #[.int .i64 y.kind, .int .i64 y.src, .int .i64 y.frm, .int .i64 y.dst, .int .i64 y.too], .agg #[.int .i64 t.frm, .int .i64 t.too, .int .i64 t.seq, .int .i64 t.ack, .int .i64 t.win, .int .i64 t.flg, .slice a n c], ev]) ∧ Bytes w' (.slice a n c) t.body ∧ Below W.heap.size W w' := by
          rw [HY.out, HT.out, HEV.out]
          exact (keyOf_any p (.slice a l c) W (HB.out.below (Nat.le_refl _) h.below)).mono fun e w' h => keys_slice h
        obtain ⟨p0, p1, p2, p3, p4, p5, p6, p7⟩ := h.pk.cells
        go_upto_region 13 with (go_at_call 7; refine hKo.mono ?_; rintro e w9 ⟨a9, n9, c9, rfl, hb9, b9⟩)
        have al9 : Below w9.heap.size w9 (w9.alloc (.cells #[.int .i64 y.kind, .int .i64 y.src, .int .i64 y.frm, .int .i64 y.dst, .int .i64 y.too] 26)) := (Below.refl _ _).alloc (Nat.le_refl _) _
        have h9 := (h.step b9).step al9
        have x9 := (x.below x.lt b9).alloc (.cells #[.int .i64 y.kind, .int .i64 y.src, .int .i64 y.frm, .int .i64 y.dst, .int .i64 y.too] 26)
        have q9 := (q.below q.lt b9).alloc (.cells #[.int .i64 y.kind, .int .i64 y.src, .int .i64 y.frm, .int .i64 y.dst, .int .i64 y.too] 26)
        have y9 := KyAt.new w9 y
        have hbt9 := (hbt.below (Nat.le_refl _) b9).below (Nat.le_refl _) al9
        have hbs9 := hb9.below (Nat.le_refl _) al9
        obtain ⟨W9, hW9⟩ : ∃ W9, w9.alloc (.cells #[.int .i64 y.kind, .int .i64 y.src, .int .i64 y.frm, .int .i64 y.dst, .int .i64 y.too] 26) = W9 := ⟨_, rfl⟩
        have hsz : W9.heap.size = w9.heap.size + 1 := by rw [← hW9]; simp
        rw [hW9] at h9 x9 q9 y9 hbt9 hbs9 ⊢
        have alA : Below W9.heap.size W9 (W9.alloc (.cells #[.int .i64 t.frm, .int .i64 t.too, .int .i64 t.seq, .int .i64 t.ack, .int .i64 t.win, .int .i64 t.flg, .slice a9 n9 c9] 29)) := (Below.refl _ _).alloc (Nat.le_refl _) _
        have hA := h9.step alA
        have xA := x9.alloc (.cells #[.int .i64 t.frm, .int .i64 t.too, .int .i64 t.seq, .int .i64 t.ack, .int .i64 t.win, .int .i64 t.flg, .slice a9 n9 c9] 29)
        have qA := q9.alloc (.cells #[.int .i64 t.frm, .int .i64 t.too, .int .i64 t.seq, .int .i64 t.ack, .int .i64 t.win, .int .i64 t.flg, .slice a9 n9 c9] 29)
        have yA := y9.alloc (.cells #[.int .i64 t.frm, .int .i64 t.too, .int .i64 t.seq, .int .i64 t.ack, .int .i64 t.win, .int .i64 t.flg, .slice a9 n9 c9] 29)
        have zA := SgAt.new W9 t (.slice a9 n9 c9)
        have hbtA := hbt9.below (Nat.le_refl _) alA
        have hbsA := hbs9.below (Nat.le_refl _) alA
        obtain ⟨WA, hWA⟩ : ∃ WA, W9.alloc (.cells #[.int .i64 t.frm, .int .i64 t.too, .int .i64 t.seq, .int .i64 t.ack, .int .i64 t.win, .int .i64 t.flg, .slice a9 n9 c9] 29) = WA := ⟨_, rfl⟩
        rw [hWA] at hA xA qA yA zA hbtA hbsA ⊢
        rw [hsz] at zA
        obtain ⟨K9, hK9⟩ : ∃ K9, K9 = w9.heap.size := ⟨_, rfl⟩
        rw [← hK9] at zA yA ⊢
        clear hW9 hWA hsz hK9 h x q hbt h9 x9 q9 y9 hbt9 hbs9 al9 alA b9 hb9 hKo p0 p1 p2 p3 p4 p5 p6 p7
        have hEr := error_val EV 3 WA (HE.out.below hA.below)
        rw [show ((3 : Int) == 3) = true from rfl] at hEr
        go_upto_region 14 with (go_at_call 8; refine hEr.mono ?_; rintro e wB ⟨rfl, bB⟩)
        have hB := hA.step bB
        have xB := xA.below xA.lt bB
        have qB := qA.below qA.lt bB
        have yB := yA.below yA.lt bB
        have zB := zA.below zA.lt bB
        have hM := sameSg t (.slice a9 n9 c9) (.slice ax nx cx) wB (hbsA.below (Nat.le_refl _) bB) (hbtA.below (Nat.le_refl _) bB)
        unfold segV at hM
        clear hA xA qA yA zA hbtA hbsA bB hEr
        obtain ⟨u0, u1, u2, u3, u4, u5, u6⟩ := xB.cells
        obtain ⟨v0, v1, v2, v3, v4, v5, v6⟩ := zB.cells
        go_upto_region 15 with (go_at_call 9; refine hM.mono ?_; rintro e wC ⟨rfl, bC⟩)
        have hC := hB.step bC
        have qC := qB.below qB.lt bC
        have yC := yB.below yB.lt bC
        clear hB xB qB yB zB bC hM u0 u1 u2 u3 u4 u5 u6 v0 v1 v2 v3 v4 v5 v6
        have hTu := turn_any k wC
        unfold keyV turnK at hTu
        obtain ⟨k0, k1, k2, k3, k4⟩ := hC.ky.cells
        go_upto_region 16 with (go_at_call 10; refine hTu.mono ?_; rintro e wD ⟨rfl, bD⟩)
        have alD : Below wD.heap.size wD (wD.alloc (.cells #[.int .i64 k.kind, .int .i64 k.dst, .int .i64 k.too, .int .i64 k.src, .int .i64 k.frm] 26)) := (Below.refl _ _).alloc (Nat.le_refl _) _
        have hD := (hC.step bD).step alD
        have qD := (qC.below qC.lt bD).alloc (.cells #[.int .i64 k.kind, .int .i64 k.dst, .int .i64 k.too, .int .i64 k.src, .int .i64 k.frm] 26)
        have yD := (yC.below yC.lt bD).alloc (.cells #[.int .i64 k.kind, .int .i64 k.dst, .int .i64 k.too, .int .i64 k.src, .int .i64 k.frm] 26)
        have tD := KyAt.new wD { kind := k.kind, src := k.dst, frm := k.too, dst := k.src, too := k.frm }
        obtain ⟨WD, hWD⟩ : ∃ WD, wD.alloc (.cells #[.int .i64 k.kind, .int .i64 k.dst, .int .i64 k.too, .int .i64 k.src, .int .i64 k.frm] 26) = WD := ⟨_, rfl⟩
        obtain ⟨T9, hT9⟩ : ∃ T9, T9 = wD.heap.size := ⟨_, rfl⟩
        simp only at tD
        rw [hWD] at hD qD yD tD ⊢
        rw [← hT9] at tD ⊢
        clear hWD hT9 hC qC yC bD alD hTu k0 k1 k2 k3 k4
        obtain ⟨f, HF⟩ : ∃ f, Hid (f = firstK k) := ⟨_, rfl⟩
        have hFi : Calls Tryd.prog 11 #[.agg #[.int .i64 k.kind, .int .i64 k.src, .int .i64 k.frm, .int .i64 k.dst, .int .i64 k.too]] WD fun e w' => e = .returned (.agg #[.int .i64 f.kind, .int .i64 f.src, .int .i64 f.frm, .int .i64 f.dst, .int .i64 f.too]) ∧ Below WD.heap.size WD w' := by
          have h := first_any k WD
          rw [← HF.out] at h
          exact h
        obtain ⟨k0, k1, k2, k3, k4⟩ := hD.ky.cells
        go_upto_region 17 with (go_at_call 11; refine hFi.mono ?_; rintro e wE ⟨rfl, bE⟩)
        have hS : Kc w k y f K9 K5 T9 wE.heap.size (wE.alloc (.cells #[.int .i64 f.kind, .int .i64 f.src, .int .i64 f.frm, .int .i64 f.dst, .int .i64 f.too] 26)) := by
          have alE : Below wE.heap.size wE (wE.alloc (.cells #[.int .i64 f.kind, .int .i64 f.src, .int .i64 f.frm, .int .i64 f.dst, .int .i64 f.too] 26)) := (Below.refl _ _).alloc (Nat.le_refl _) _
          have hE' := (hD.step bE).step alE
          exact ⟨(yD.below yD.lt bE).alloc _, (qD.below qD.lt bE).alloc _, hE'.ky, (tD.below tD.lt bE).alloc _, KyAt.new wE f, hE'.below⟩
        obtain ⟨WE, hWE⟩ : ∃ WE, wE.alloc (.cells #[.int .i64 f.kind, .int .i64 f.src, .int .i64 f.frm, .int .i64 f.dst, .int .i64 f.too] 26) = WE := ⟨_, rfl⟩
        obtain ⟨F9, hF9⟩ : ∃ F9, F9 = wE.heap.size := ⟨_, rfl⟩
        rw [hWE] at hS ⊢
        rw [← hF9] at hS ⊢
        clear hWE hF9 hD qD yD tD bE hFi k0 k1 k2 k3 k4
        have cT : ∀ W, Calls Tryd.prog 12 #[.agg #[.int .i64 k.kind, .int .i64 k.src, .int .i64 k.frm, .int .i64 k.dst, .int .i64 k.too]] W fun e w' => e = .returned (.agg #[.int .i64 k.kind, .int .i64 k.dst, .int .i64 k.too, .int .i64 k.src, .int .i64 k.frm]) ∧ Below W.heap.size W w' := fun W => refTurn_any k W
        have cF : ∀ W, Calls Tryd.prog 13 #[.agg #[.int .i64 k.kind, .int .i64 k.src, .int .i64 k.frm, .int .i64 k.dst, .int .i64 k.too]] W fun e w' => e = .returned (.agg #[.int .i64 f.kind, .int .i64 f.src, .int .i64 f.frm, .int .i64 f.dst, .int .i64 f.too]) ∧ Below W.heap.size W w' := by
          intro W
          have h := refFirst_any k W
          rw [← HF.out] at h
          exact h
        obtain ⟨nb, HNB⟩ : ∃ nb, Hid (nb = nearB na nb0 nm) := ⟨_, rfl⟩
        have cN : ∀ W, Calls Tryd.prog 14 #[.int .i64 na, .int .i64 nb0, .int .i64 nm] W fun e w' => e = .returned (.bool nb) ∧ w' = W := by
          intro W; rw [HNB.out]; exact near_any na nb0 nm W
        have cM : ∀ W, Calls Tryd.prog 15 #[.int .i64 na, .int .i64 nb0, .int .i64 nm] W fun e w' => e = .returned (.bool nb) ∧ w' = W := by
          intro W; rw [HNB.out]; exact refNear_any na nb0 nm W
        have n1 := fun W => Tryd.keyEql y.kind y.src y.frm y.dst y.too W
        have n2 := fun W => Tryd.keyEql k.kind k.dst k.too k.src k.frm W
        have n3 := fun W => Tryd.keyEql f.kind f.src f.frm f.dst f.too W
        clear HF HNB
        go_region_held3 (fun w' => ((w'.cell? ⟨K9, 0, none⟩ = some (.int .i64 y.kind) ∧ w'.cell? ⟨K9, 1, none⟩ = some (.int .i64 y.src) ∧ w'.cell? ⟨K9, 2, none⟩ = some (.int .i64 y.frm) ∧ w'.cell? ⟨K9, 3, none⟩ = some (.int .i64 y.dst) ∧ w'.cell? ⟨K9, 4, none⟩ = some (.int .i64 y.too)) ∧ (w'.cell? ⟨K5, 0, none⟩ = some (.int .i64 y.kind) ∧ w'.cell? ⟨K5, 1, none⟩ = some (.int .i64 y.src) ∧ w'.cell? ⟨K5, 2, none⟩ = some (.int .i64 y.frm) ∧ w'.cell? ⟨K5, 3, none⟩ = some (.int .i64 y.dst) ∧ w'.cell? ⟨K5, 4, none⟩ = some (.int .i64 y.too)) ∧ (w'.cell? ⟨w.heap.size + 1, 0, none⟩ = some (.int .i64 k.kind) ∧ w'.cell? ⟨w.heap.size + 1, 1, none⟩ = some (.int .i64 k.src) ∧ w'.cell? ⟨w.heap.size + 1, 2, none⟩ = some (.int .i64 k.frm) ∧ w'.cell? ⟨w.heap.size + 1, 3, none⟩ = some (.int .i64 k.dst) ∧ w'.cell? ⟨w.heap.size + 1, 4, none⟩ = some (.int .i64 k.too)) ∧ (w'.cell? ⟨T9, 0, none⟩ = some (.int .i64 k.kind) ∧ w'.cell? ⟨T9, 1, none⟩ = some (.int .i64 k.dst) ∧ w'.cell? ⟨T9, 2, none⟩ = some (.int .i64 k.too) ∧ w'.cell? ⟨T9, 3, none⟩ = some (.int .i64 k.src) ∧ w'.cell? ⟨T9, 4, none⟩ = some (.int .i64 k.frm)) ∧ (w'.cell? ⟨F9, 0, none⟩ = some (.int .i64 f.kind) ∧ w'.cell? ⟨F9, 1, none⟩ = some (.int .i64 f.src) ∧ w'.cell? ⟨F9, 2, none⟩ = some (.int .i64 f.frm) ∧ w'.cell? ⟨F9, 3, none⟩ = some (.int .i64 f.dst) ∧ w'.cell? ⟨F9, 4, none⟩ = some (.int .i64 f.too))) ∧ Kc w k y f K9 K5 T9 F9 w') (with_reducible first | assumption | exact kc_of hS | exact kc_of (Kc.drew (And.right (by assumption))) | exact kc_of (Kc.drew hS) | exact kc_of (Kc.drew (by assumption)) | exact kc_of (by assumption)) (first
          | (go_at_call 12; refine (cT _).mono ?_; rintro e wF ⟨rfl, bF⟩; have hSF := Kc.step (And.right (by assumption) : Kc w k y f K9 K5 T9 F9 _) bF)
          | (go_at_call 13; refine (cF _).mono ?_; rintro e wG ⟨rfl, bG⟩; have hSG := Kc.step (And.right (by assumption) : Kc w k y f K9 K5 T9 F9 _) bG)
          | (go_at_call 14; refine (cN _).mono ?_; rintro e wG ⟨rfl, rfl⟩)
          | (go_at_call 15; refine (cM _).mono ?_; rintro e wG ⟨rfl, rfl⟩))
        go_wp2_with fail
        go_ret
        exact ⟨rfl, hSG.below⟩
  as_aux_lemma =>
    have hq1 : ¬ 0 < p.pos := fun h => hq (.inl h)
    have hmo : p.more = false := by
      rcases h : p.more with _ | _
      · rfl
      · exact absurd (.inr h) hq
    have k0 : kyE p = rdErr p.kind p.body p.src p.dst := by unfold kyE; rw [if_neg (by rw [Decidable.not_not]; exact HM0.out), if_neg (by rintro (h | h); omega; rw [hmo] at h; cases h)]
    have K0 : Hid (kyE p = rdErr p.kind p.body p.src p.dst) := k0
    rw [hmo] at p6
    clear hq hmo k0
    go_upto_region 6 with fail
    have alS : Below w1.heap.size w1 (w1.alloc (.cells #[.int .i64 0, .int .i64 0, .int .i64 0, .int .i64 0, .int .i64 0, .int .i64 0, .slice none 0 0] 29)) := (Below.refl _ _).alloc (Nat.le_refl _) _
    have x2 := SgAt.zero w1
    have h2 := h1.step alS
    obtain ⟨W2, hW2⟩ : ∃ W2, w1.alloc (.cells #[.int .i64 0, .int .i64 0, .int .i64 0, .int .i64 0, .int .i64 0, .int .i64 0, .slice none 0 0] 29) = W2 := ⟨_, rfl⟩
    have hsz2 : W2.heap.size = w1.heap.size + 1 := by rw [← hW2]; simp
    rw [hW2] at h2 x2 ⊢
    have alK : Below W2.heap.size W2 (W2.alloc (.cells #[.int .i64 0, .int .i64 0, .int .i64 0, .int .i64 0, .int .i64 0] 26)) := (Below.refl _ _).alloc (Nat.le_refl _) _
    have h := h2.step alK
    have x := x2.alloc (.cells #[.int .i64 0, .int .i64 0, .int .i64 0, .int .i64 0, .int .i64 0] 26)
    have q := KyAt.zero W2
    obtain ⟨W, hW⟩ : ∃ W, W2.alloc (.cells #[.int .i64 0, .int .i64 0, .int .i64 0, .int .i64 0, .int .i64 0] 26) = W := ⟨_, rfl⟩
    rw [hW] at h x q ⊢
    rw [hsz2] at q
    obtain ⟨S4, hS4⟩ : ∃ S4, S4 = w1.heap.size := ⟨_, rfl⟩
    have hlo : w.heap.size + 1 < S4 := by have := h1.ky.lt; omega
    rw [← hS4] at x q ⊢
    clear hW2 hsz2 hW alS alK h1 h2 x2 hS4 p0 p1 p2 p3 p4 p5 p6 p7
    obtain ⟨p0, p1, p2, p3, p4, p5, p6, p7⟩ := h.pk.cells
    have HTR : Hid (t = rdS p.kind p.body p.src p.dst) := by
      show t = _
      rw [HT.out]; unfold kyS rdS; rw [K0.out]
    have hRR : Calls Tryd.prog 6 #[.int .i64 p.kind, .slice a l c, .int .i64 p.src, .int .i64 p.dst] W fun e w' => ∃ a n c, e = .returned (.tuple #[.agg #[.int .i64 t.frm, .int .i64 t.too, .int .i64 t.seq, .int .i64 t.ack, .int .i64 t.win, .int .i64 t.flg, .slice a n c], .int .i64 e0]) ∧ Bytes w' (.slice a n c) t.body ∧ Below W.heap.size W w' := by
      rw [HTR.out, HE0.out, K0.out]
      exact (refReadSeg_any p.kind p.src p.dst _ p.body W (HB.out.below (Nat.le_refl _) h.below)).mono fun e w' h => rr_slice h
    clear hpos hq1
    generalize Value.agg #[.int .i64 p.kind, .int .i64 p.ttl, .int .i64 p.ident, .int .i64 p.src, .int .i64 p.dst, .int .i64 p.pos, .bool p.more, .slice a l c] = V0
    generalize Value.agg #[.int .i64 k.kind, .int .i64 k.src, .int .i64 k.frm, .int .i64 k.dst, .int .i64 k.too] = V1
    go_upto_if 35 with fail
    go_cut [11] (fun u ww => u = .int .i64 e0 ∧ Ks w p (.slice a l c) k ww ∧ KyAt ww (S4 + 1) zeroY ∧ ∃ a3 n3 c3, SgAt ww S4 t (.slice a3 n3 c3) ∧ Bytes ww (.slice a3 n3 c3) t.body)
    case first =>
      as_aux_lemma =>
        go_wp2_with fail
        refine hRR.mono ?_
        rintro e w3 ⟨a3, n3, c3, rfl, hb3, b3⟩
        have x3 := x.below x.lt b3
        obtain ⟨s0, s1, s2, s3, s4, s5, s6⟩ := zero_results x3
        have f0 := x3.free 0
        have f1 := x3.free 1
        have f2 := x3.free 2
        have f3 := x3.free 3
        have f4 := x3.free 4
        have f5 := x3.free 5
        have f6 := x3.free 6
        clear p0 p1 p2 p3 p4 p5 p6 p7
        have H3 : Hid (Ks w p (.slice a l c) k w3) := h.step b3
        have Q3 : Hid (KyAt w3 (S4 + 1) zeroY) := q.below q.lt b3
        have B3 : Hid (Bytes w3 (.slice a3 n3 c3) t.body) := hb3
        have X3 : Hid (SgAt w3 S4 zeroS (.slice none 0 0)) := x3
        have LO : Hid (w.heap.size + 1 < S4) := hlo
        clear h q hb3 x x3 b3 hlo hRR EV
        go_wp2_with fail
        obtain ⟨w4, hw4, x4, o4⟩ := X3.out.store t (.slice a3 n3 c3)
        rw [hw4]
        have h4 := H3.out.only o4 LO.out
        have q4 := Q3.out.only (by omega) o4
        have hb4 := B3.out.off o4 (X3.out.nobyte (fun u h => by cases h))
        go_meet
        case rel => exact ⟨rfl, h4, q4, a3, n3, c3, x4, hb4⟩
    case rest =>
      clear h x q p0 p1 p2 p3 p4 p5 p6 p7 hRR
      obtain ⟨hu, h, q, a3, n3, c3, x, hbt⟩ := hcut
      subst hu
      obtain ⟨W, hWc⟩ : ∃ W, W = wc := ⟨_, rfl⟩
      subst hWc
      by_cases he0 : e0 = 0
      rotate_left
      · as_aux_lemma =>
          have ee : (e0 == 0) = false := by simpa using he0
          have hy : y = zeroY := by rw [HY.out]; unfold kyK; rw [if_neg (by rw [← HE0.out]; exact he0)]
          rw [← hy] at q
          clear he0 hy
          obtain ⟨K5, hK5⟩ : ∃ K5, K5 = S4 + 1 := ⟨_, rfl⟩
          rw [← hK5] at q ⊢
          clear hK5
          obtain ⟨BX, hBX⟩ : ∃ BX, BX = Value.slice a3 n3 c3 := ⟨_, rfl⟩
          rw [← hBX] at x hbt
          clear hBX
          go_upto_region 12 with fail
          obtain ⟨ax, nx, cx, hux⟩ : ∃ ax nx cx, BX = Value.slice ax nx cx := by obtain ⟨ax, cx, h⟩ := len_body hbt; exact ⟨ax, _, cx, h⟩
          subst hux
          have hKo : Calls Tryd.prog 7 #[.agg #[.int .i64 p.kind, .int .i64 p.ttl, .int .i64 p.ident, .int .i64 p.src, .int .i64 p.dst, .int .i64 p.pos, .bool p.more, .slice a l c]] W fun e w' => ∃ a n c, e = .returned (.tuple #[.agg #[.int .i64 y.kind, .int .i64 y.src, .int .i64 y.frm, .int .i64 y.dst, .int .i64 y.too], .agg #[.int .i64 t.frm, .int .i64 t.too, .int .i64 t.seq, .int .i64 t.ack, .int .i64 t.win, .int .i64 t.flg, .slice a n c], ev]) ∧ Bytes w' (.slice a n c) t.body ∧ Below W.heap.size W w' := by
            rw [HY.out, HT.out, HEV.out]
            exact (keyOf_any p (.slice a l c) W (HB.out.below (Nat.le_refl _) h.below)).mono fun e w' h => keys_slice h
          obtain ⟨p0, p1, p2, p3, p4, p5, p6, p7⟩ := h.pk.cells
          go_upto_region 13 with (go_at_call 7; refine hKo.mono ?_; rintro e w9 ⟨a9, n9, c9, rfl, hb9, b9⟩)
          have al9 : Below w9.heap.size w9 (w9.alloc (.cells #[.int .i64 y.kind, .int .i64 y.src, .int .i64 y.frm, .int .i64 y.dst, .int .i64 y.too] 26)) := (Below.refl _ _).alloc (Nat.le_refl _) _
          have h9 := (h.step b9).step al9
          have x9 := (x.below x.lt b9).alloc (.cells #[.int .i64 y.kind, .int .i64 y.src, .int .i64 y.frm, .int .i64 y.dst, .int .i64 y.too] 26)
          have q9 := (q.below q.lt b9).alloc (.cells #[.int .i64 y.kind, .int .i64 y.src, .int .i64 y.frm, .int .i64 y.dst, .int .i64 y.too] 26)
          have y9 := KyAt.new w9 y
          have hbt9 := (hbt.below (Nat.le_refl _) b9).below (Nat.le_refl _) al9
          have hbs9 := hb9.below (Nat.le_refl _) al9
          obtain ⟨W9, hW9⟩ : ∃ W9, w9.alloc (.cells #[.int .i64 y.kind, .int .i64 y.src, .int .i64 y.frm, .int .i64 y.dst, .int .i64 y.too] 26) = W9 := ⟨_, rfl⟩
          have hsz : W9.heap.size = w9.heap.size + 1 := by rw [← hW9]; simp
          rw [hW9] at h9 x9 q9 y9 hbt9 hbs9 ⊢
          have alA : Below W9.heap.size W9 (W9.alloc (.cells #[.int .i64 t.frm, .int .i64 t.too, .int .i64 t.seq, .int .i64 t.ack, .int .i64 t.win, .int .i64 t.flg, .slice a9 n9 c9] 29)) := (Below.refl _ _).alloc (Nat.le_refl _) _
          have hA := h9.step alA
          have xA := x9.alloc (.cells #[.int .i64 t.frm, .int .i64 t.too, .int .i64 t.seq, .int .i64 t.ack, .int .i64 t.win, .int .i64 t.flg, .slice a9 n9 c9] 29)
          have qA := q9.alloc (.cells #[.int .i64 t.frm, .int .i64 t.too, .int .i64 t.seq, .int .i64 t.ack, .int .i64 t.win, .int .i64 t.flg, .slice a9 n9 c9] 29)
          have yA := y9.alloc (.cells #[.int .i64 t.frm, .int .i64 t.too, .int .i64 t.seq, .int .i64 t.ack, .int .i64 t.win, .int .i64 t.flg, .slice a9 n9 c9] 29)
          have zA := SgAt.new W9 t (.slice a9 n9 c9)
          have hbtA := hbt9.below (Nat.le_refl _) alA
          have hbsA := hbs9.below (Nat.le_refl _) alA
          obtain ⟨WA, hWA⟩ : ∃ WA, W9.alloc (.cells #[.int .i64 t.frm, .int .i64 t.too, .int .i64 t.seq, .int .i64 t.ack, .int .i64 t.win, .int .i64 t.flg, .slice a9 n9 c9] 29) = WA := ⟨_, rfl⟩
          rw [hWA] at hA xA qA yA zA hbtA hbsA ⊢
          rw [hsz] at zA
          obtain ⟨K9, hK9⟩ : ∃ K9, K9 = w9.heap.size := ⟨_, rfl⟩
          rw [← hK9] at zA yA ⊢
          clear hW9 hWA hsz hK9 h x q hbt h9 x9 q9 y9 hbt9 hbs9 al9 alA b9 hb9 hKo p0 p1 p2 p3 p4 p5 p6 p7
          have hEr := error_val EV e0 WA (HE.out.below hA.below)
          rw [show (e0 == e0) = true by simp] at hEr
          go_upto_region 14 with (go_at_call 8; refine hEr.mono ?_; rintro e wB ⟨rfl, bB⟩)
          have hB := hA.step bB
          have xB := xA.below xA.lt bB
          have qB := qA.below qA.lt bB
          have yB := yA.below yA.lt bB
          have zB := zA.below zA.lt bB
          have hM := sameSg t (.slice a9 n9 c9) (.slice ax nx cx) wB (hbsA.below (Nat.le_refl _) bB) (hbtA.below (Nat.le_refl _) bB)
          unfold segV at hM
          clear hA xA qA yA zA hbtA hbsA bB hEr
          obtain ⟨u0, u1, u2, u3, u4, u5, u6⟩ := xB.cells
          obtain ⟨v0, v1, v2, v3, v4, v5, v6⟩ := zB.cells
          go_upto_region 15 with (go_at_call 9; refine hM.mono ?_; rintro e wC ⟨rfl, bC⟩)
          have hC := hB.step bC
          have qC := qB.below qB.lt bC
          have yC := yB.below yB.lt bC
          clear hB xB qB yB zB bC hM u0 u1 u2 u3 u4 u5 u6 v0 v1 v2 v3 v4 v5 v6
          have hTu := turn_any k wC
          unfold keyV turnK at hTu
          obtain ⟨k0, k1, k2, k3, k4⟩ := hC.ky.cells
          go_upto_region 16 with (go_at_call 10; refine hTu.mono ?_; rintro e wD ⟨rfl, bD⟩)
          have alD : Below wD.heap.size wD (wD.alloc (.cells #[.int .i64 k.kind, .int .i64 k.dst, .int .i64 k.too, .int .i64 k.src, .int .i64 k.frm] 26)) := (Below.refl _ _).alloc (Nat.le_refl _) _
          have hD := (hC.step bD).step alD
          have qD := (qC.below qC.lt bD).alloc (.cells #[.int .i64 k.kind, .int .i64 k.dst, .int .i64 k.too, .int .i64 k.src, .int .i64 k.frm] 26)
          have yD := (yC.below yC.lt bD).alloc (.cells #[.int .i64 k.kind, .int .i64 k.dst, .int .i64 k.too, .int .i64 k.src, .int .i64 k.frm] 26)
          have tD := KyAt.new wD { kind := k.kind, src := k.dst, frm := k.too, dst := k.src, too := k.frm }
          obtain ⟨WD, hWD⟩ : ∃ WD, wD.alloc (.cells #[.int .i64 k.kind, .int .i64 k.dst, .int .i64 k.too, .int .i64 k.src, .int .i64 k.frm] 26) = WD := ⟨_, rfl⟩
          obtain ⟨T9, hT9⟩ : ∃ T9, T9 = wD.heap.size := ⟨_, rfl⟩
          simp only at tD
          rw [hWD] at hD qD yD tD ⊢
          rw [← hT9] at tD ⊢
          clear hWD hT9 hC qC yC bD alD hTu k0 k1 k2 k3 k4
          obtain ⟨f, HF⟩ : ∃ f, Hid (f = firstK k) := ⟨_, rfl⟩
          have hFi : Calls Tryd.prog 11 #[.agg #[.int .i64 k.kind, .int .i64 k.src, .int .i64 k.frm, .int .i64 k.dst, .int .i64 k.too]] WD fun e w' => e = .returned (.agg #[.int .i64 f.kind, .int .i64 f.src, .int .i64 f.frm, .int .i64 f.dst, .int .i64 f.too]) ∧ Below WD.heap.size WD w' := by
            have h := first_any k WD
            rw [← HF.out] at h
            exact h
          obtain ⟨k0, k1, k2, k3, k4⟩ := hD.ky.cells
          go_upto_region 17 with (go_at_call 11; refine hFi.mono ?_; rintro e wE ⟨rfl, bE⟩)
          have hS : Kc w k y f K9 K5 T9 wE.heap.size (wE.alloc (.cells #[.int .i64 f.kind, .int .i64 f.src, .int .i64 f.frm, .int .i64 f.dst, .int .i64 f.too] 26)) := by
            have alE : Below wE.heap.size wE (wE.alloc (.cells #[.int .i64 f.kind, .int .i64 f.src, .int .i64 f.frm, .int .i64 f.dst, .int .i64 f.too] 26)) := (Below.refl _ _).alloc (Nat.le_refl _) _
            have hE' := (hD.step bE).step alE
            exact ⟨(yD.below yD.lt bE).alloc _, (qD.below qD.lt bE).alloc _, hE'.ky, (tD.below tD.lt bE).alloc _, KyAt.new wE f, hE'.below⟩
          obtain ⟨WE, hWE⟩ : ∃ WE, wE.alloc (.cells #[.int .i64 f.kind, .int .i64 f.src, .int .i64 f.frm, .int .i64 f.dst, .int .i64 f.too] 26) = WE := ⟨_, rfl⟩
          obtain ⟨F9, hF9⟩ : ∃ F9, F9 = wE.heap.size := ⟨_, rfl⟩
          rw [hWE] at hS ⊢
          rw [← hF9] at hS ⊢
          clear hWE hF9 hD qD yD tD bE hFi k0 k1 k2 k3 k4
          have cT : ∀ W, Calls Tryd.prog 12 #[.agg #[.int .i64 k.kind, .int .i64 k.src, .int .i64 k.frm, .int .i64 k.dst, .int .i64 k.too]] W fun e w' => e = .returned (.agg #[.int .i64 k.kind, .int .i64 k.dst, .int .i64 k.too, .int .i64 k.src, .int .i64 k.frm]) ∧ Below W.heap.size W w' := fun W => refTurn_any k W
          have cF : ∀ W, Calls Tryd.prog 13 #[.agg #[.int .i64 k.kind, .int .i64 k.src, .int .i64 k.frm, .int .i64 k.dst, .int .i64 k.too]] W fun e w' => e = .returned (.agg #[.int .i64 f.kind, .int .i64 f.src, .int .i64 f.frm, .int .i64 f.dst, .int .i64 f.too]) ∧ Below W.heap.size W w' := by
            intro W
            have h := refFirst_any k W
            rw [← HF.out] at h
            exact h
          obtain ⟨nb, HNB⟩ : ∃ nb, Hid (nb = nearB na nb0 nm) := ⟨_, rfl⟩
          have cN : ∀ W, Calls Tryd.prog 14 #[.int .i64 na, .int .i64 nb0, .int .i64 nm] W fun e w' => e = .returned (.bool nb) ∧ w' = W := by
            intro W; rw [HNB.out]; exact near_any na nb0 nm W
          have cM : ∀ W, Calls Tryd.prog 15 #[.int .i64 na, .int .i64 nb0, .int .i64 nm] W fun e w' => e = .returned (.bool nb) ∧ w' = W := by
            intro W; rw [HNB.out]; exact refNear_any na nb0 nm W
          have n1 := fun W => Tryd.keyEql y.kind y.src y.frm y.dst y.too W
          have n2 := fun W => Tryd.keyEql k.kind k.dst k.too k.src k.frm W
          have n3 := fun W => Tryd.keyEql f.kind f.src f.frm f.dst f.too W
          clear HF HNB
          go_region_held3 (fun w' => ((w'.cell? ⟨K9, 0, none⟩ = some (.int .i64 y.kind) ∧ w'.cell? ⟨K9, 1, none⟩ = some (.int .i64 y.src) ∧ w'.cell? ⟨K9, 2, none⟩ = some (.int .i64 y.frm) ∧ w'.cell? ⟨K9, 3, none⟩ = some (.int .i64 y.dst) ∧ w'.cell? ⟨K9, 4, none⟩ = some (.int .i64 y.too)) ∧ (w'.cell? ⟨K5, 0, none⟩ = some (.int .i64 y.kind) ∧ w'.cell? ⟨K5, 1, none⟩ = some (.int .i64 y.src) ∧ w'.cell? ⟨K5, 2, none⟩ = some (.int .i64 y.frm) ∧ w'.cell? ⟨K5, 3, none⟩ = some (.int .i64 y.dst) ∧ w'.cell? ⟨K5, 4, none⟩ = some (.int .i64 y.too)) ∧ (w'.cell? ⟨w.heap.size + 1, 0, none⟩ = some (.int .i64 k.kind) ∧ w'.cell? ⟨w.heap.size + 1, 1, none⟩ = some (.int .i64 k.src) ∧ w'.cell? ⟨w.heap.size + 1, 2, none⟩ = some (.int .i64 k.frm) ∧ w'.cell? ⟨w.heap.size + 1, 3, none⟩ = some (.int .i64 k.dst) ∧ w'.cell? ⟨w.heap.size + 1, 4, none⟩ = some (.int .i64 k.too)) ∧ (w'.cell? ⟨T9, 0, none⟩ = some (.int .i64 k.kind) ∧ w'.cell? ⟨T9, 1, none⟩ = some (.int .i64 k.dst) ∧ w'.cell? ⟨T9, 2, none⟩ = some (.int .i64 k.too) ∧ w'.cell? ⟨T9, 3, none⟩ = some (.int .i64 k.src) ∧ w'.cell? ⟨T9, 4, none⟩ = some (.int .i64 k.frm)) ∧ (w'.cell? ⟨F9, 0, none⟩ = some (.int .i64 f.kind) ∧ w'.cell? ⟨F9, 1, none⟩ = some (.int .i64 f.src) ∧ w'.cell? ⟨F9, 2, none⟩ = some (.int .i64 f.frm) ∧ w'.cell? ⟨F9, 3, none⟩ = some (.int .i64 f.dst) ∧ w'.cell? ⟨F9, 4, none⟩ = some (.int .i64 f.too))) ∧ Kc w k y f K9 K5 T9 F9 w') (with_reducible first | assumption | exact kc_of hS | exact kc_of (Kc.drew (And.right (by assumption))) | exact kc_of (Kc.drew hS) | exact kc_of (Kc.drew (by assumption)) | exact kc_of (by assumption)) (first
            | (go_at_call 12; refine (cT _).mono ?_; rintro e wF ⟨rfl, bF⟩; have hSF := Kc.step (And.right (by assumption) : Kc w k y f K9 K5 T9 F9 _) bF)
            | (go_at_call 13; refine (cF _).mono ?_; rintro e wG ⟨rfl, bG⟩; have hSG := Kc.step (And.right (by assumption) : Kc w k y f K9 K5 T9 F9 _) bG)
            | (go_at_call 14; refine (cN _).mono ?_; rintro e wG ⟨rfl, rfl⟩)
            | (go_at_call 15; refine (cM _).mono ?_; rintro e wG ⟨rfl, rfl⟩))
          go_wp2_with fail
          go_ret
          exact ⟨rfl, hSG.below⟩
      · as_aux_lemma =>
          have ee : (e0 == 0) = true := by simpa using he0
          have HYM : Hid (y = mkY p t) := by
            show y = mkY p t
            have hz : kyE p = 0 := by rw [← HE0.out]; exact he0
            rw [HY.out, HT.out]; unfold kyK kyS; rw [if_pos hz, if_pos hz]
          clear he0
          obtain ⟨p0, p1, p2, p3, p4, p5, p6, p7⟩ := h.pk.cells
          have t0 := x.cells.1
          have t1 := x.cells.2.1
          obtain ⟨q0, q1, q2, q3, q4⟩ := zero_keys q
          have f0 := q.free 0
          have f1 := q.free 1
          have f2 := q.free 2
          have f3 := q.free 3
          have f4 := q.free 4
          have nS : ¬ S4 = S4 + 1 := by omega
          have nB : ¬ w.heap.size = S4 + 1 := by omega
          go_upto_region 10 with fail
          obtain ⟨w5, hw5, q5, o5⟩ := q.store { kind := p.kind, src := p.src, frm := t.frm, dst := p.dst, too := t.too }
          simp only at hw5
          rw [hw5]
          have h5 := h.only o5 (by omega)
          have x5 := x.only (by omega) o5
          have hb5 := hbt.off o5 q.nobyte
          clear hw5 p0 p1 p2 p3 p4 p5 p6 p7 t0 t1 q0 q1 q2 q3 q4 f0 f1 f2 f3 f4 o5 h x q hbt
          obtain ⟨p0, p1, p2, p3, p4, p5, p6, p7⟩ := h5.pk.cells
          have t1 := x5.cells.2.1
          have q2 := q5.cells.2.2.1
          have f2 := q5.free 2
          simp only at q2
          go_upto_if 63 with fail
          go_cut [63] (fun u ww => KyAt ww (S4 + 1) y ∧ SgAt ww S4 t (.slice a3 n3 c3) ∧ Ks w p (.slice a l c) k ww ∧ Bytes ww (.slice a3 n3 c3) t.body)
          case first =>
            by_cases h3 : p.kind = 3
            · have e3 : (p.kind == 3) = true := by simpa using h3
              have HK3 : Hid (p.kind = 3) := h3
              clear h3
              go_wp2_with fail
              obtain ⟨w6, hw6, q6, o6⟩ := q5.store_frm t.too
              rw [hw6]
              have hq6 : KyAt w6 (S4 + 1) y := by rw [HYM.out]; unfold mkY; rw [if_pos HK3.out]; exact q6
              have h6 := h5.only o6 (by omega)
              have x6 := x5.only (by omega) o6
              have hb6 := hb5.off o6 q5.nobyte
              go_meet
              case rel => exact ⟨hq6, x6, h6, hb6⟩
            · have e3 : (p.kind == 3) = false := by simpa using h3
              have HK3 : Hid (¬ p.kind = 3) := h3
              clear h3
              go_wp2_with fail
              go_meet
              case rel => exact ⟨by rw [HYM.out]; unfold mkY; rw [if_neg HK3.out]; exact q5, x5, h5, hb5⟩
          case rest =>
            clear h5 x5 q5 hb5 p0 p1 p2 p3 p4 p5 p6 p7 t1 q2 f2
            obtain ⟨q, x, h, hbt⟩ := hcut
            obtain ⟨W, hWc⟩ : ∃ W, W = wc := ⟨_, rfl⟩
            subst hWc
            obtain ⟨K5, hK5⟩ : ∃ K5, K5 = S4 + 1 := ⟨_, rfl⟩
            rw [← hK5] at q ⊢
            clear hK5
            obtain ⟨BX, hBX⟩ : ∃ BX, BX = Value.slice a3 n3 c3 := ⟨_, rfl⟩
            rw [← hBX] at x hbt
            clear hBX nS nB
            go_upto_region 12 with fail
            obtain ⟨ax, nx, cx, hux⟩ : ∃ ax nx cx, BX = Value.slice ax nx cx := by obtain ⟨ax, cx, h⟩ := len_body hbt; exact ⟨ax, _, cx, h⟩
            subst hux
            have hKo : Calls Tryd.prog 7 #[.agg #[.int .i64 p.kind, .int .i64 p.ttl, .int .i64 p.ident, .int .i64 p.src, .int .i64 p.dst, .int .i64 p.pos, .bool p.more, .slice a l c]] W fun e w' => ∃ a n c, e = .returned (.tuple #[.agg #[.int .i64 y.kind, .int .i64 y.src, .int .i64 y.frm, .int .i64 y.dst, .int .i64 y.too], .agg #[.int .i64 t.frm, .int .i64 t.too, .int .i64 t.seq, .int .i64 t.ack, .int .i64 t.win, .int .i64 t.flg, .slice a n c], ev]) ∧ Bytes w' (.slice a n c) t.body ∧ Below W.heap.size W w' := by
              rw [HY.out, HT.out, HEV.out]
              exact (keyOf_any p (.slice a l c) W (HB.out.below (Nat.le_refl _) h.below)).mono fun e w' h => keys_slice h
            obtain ⟨p0, p1, p2, p3, p4, p5, p6, p7⟩ := h.pk.cells
            go_upto_region 13 with (go_at_call 7; refine hKo.mono ?_; rintro e w9 ⟨a9, n9, c9, rfl, hb9, b9⟩)
            have al9 : Below w9.heap.size w9 (w9.alloc (.cells #[.int .i64 y.kind, .int .i64 y.src, .int .i64 y.frm, .int .i64 y.dst, .int .i64 y.too] 26)) := (Below.refl _ _).alloc (Nat.le_refl _) _
            have h9 := (h.step b9).step al9
            have x9 := (x.below x.lt b9).alloc (.cells #[.int .i64 y.kind, .int .i64 y.src, .int .i64 y.frm, .int .i64 y.dst, .int .i64 y.too] 26)
            have q9 := (q.below q.lt b9).alloc (.cells #[.int .i64 y.kind, .int .i64 y.src, .int .i64 y.frm, .int .i64 y.dst, .int .i64 y.too] 26)
            have y9 := KyAt.new w9 y
            have hbt9 := (hbt.below (Nat.le_refl _) b9).below (Nat.le_refl _) al9
            have hbs9 := hb9.below (Nat.le_refl _) al9
            obtain ⟨W9, hW9⟩ : ∃ W9, w9.alloc (.cells #[.int .i64 y.kind, .int .i64 y.src, .int .i64 y.frm, .int .i64 y.dst, .int .i64 y.too] 26) = W9 := ⟨_, rfl⟩
            have hsz : W9.heap.size = w9.heap.size + 1 := by rw [← hW9]; simp
            rw [hW9] at h9 x9 q9 y9 hbt9 hbs9 ⊢
            have alA : Below W9.heap.size W9 (W9.alloc (.cells #[.int .i64 t.frm, .int .i64 t.too, .int .i64 t.seq, .int .i64 t.ack, .int .i64 t.win, .int .i64 t.flg, .slice a9 n9 c9] 29)) := (Below.refl _ _).alloc (Nat.le_refl _) _
            have hA := h9.step alA
            have xA := x9.alloc (.cells #[.int .i64 t.frm, .int .i64 t.too, .int .i64 t.seq, .int .i64 t.ack, .int .i64 t.win, .int .i64 t.flg, .slice a9 n9 c9] 29)
            have qA := q9.alloc (.cells #[.int .i64 t.frm, .int .i64 t.too, .int .i64 t.seq, .int .i64 t.ack, .int .i64 t.win, .int .i64 t.flg, .slice a9 n9 c9] 29)
            have yA := y9.alloc (.cells #[.int .i64 t.frm, .int .i64 t.too, .int .i64 t.seq, .int .i64 t.ack, .int .i64 t.win, .int .i64 t.flg, .slice a9 n9 c9] 29)
            have zA := SgAt.new W9 t (.slice a9 n9 c9)
            have hbtA := hbt9.below (Nat.le_refl _) alA
            have hbsA := hbs9.below (Nat.le_refl _) alA
            obtain ⟨WA, hWA⟩ : ∃ WA, W9.alloc (.cells #[.int .i64 t.frm, .int .i64 t.too, .int .i64 t.seq, .int .i64 t.ack, .int .i64 t.win, .int .i64 t.flg, .slice a9 n9 c9] 29) = WA := ⟨_, rfl⟩
            rw [hWA] at hA xA qA yA zA hbtA hbsA ⊢
            rw [hsz] at zA
            obtain ⟨K9, hK9⟩ : ∃ K9, K9 = w9.heap.size := ⟨_, rfl⟩
            rw [← hK9] at zA yA ⊢
            clear hW9 hWA hsz hK9 h x q hbt h9 x9 q9 y9 hbt9 hbs9 al9 alA b9 hb9 hKo p0 p1 p2 p3 p4 p5 p6 p7
            have hEr := error_val EV e0 WA (HE.out.below hA.below)
            rw [show (e0 == e0) = true by simp] at hEr
            go_upto_region 14 with (go_at_call 8; refine hEr.mono ?_; rintro e wB ⟨rfl, bB⟩)
            have hB := hA.step bB
            have xB := xA.below xA.lt bB
            have qB := qA.below qA.lt bB
            have yB := yA.below yA.lt bB
            have zB := zA.below zA.lt bB
            have hM := sameSg t (.slice a9 n9 c9) (.slice ax nx cx) wB (hbsA.below (Nat.le_refl _) bB) (hbtA.below (Nat.le_refl _) bB)
            unfold segV at hM
            clear hA xA qA yA zA hbtA hbsA bB hEr
            obtain ⟨u0, u1, u2, u3, u4, u5, u6⟩ := xB.cells
            obtain ⟨v0, v1, v2, v3, v4, v5, v6⟩ := zB.cells
            go_upto_region 15 with (go_at_call 9; refine hM.mono ?_; rintro e wC ⟨rfl, bC⟩)
            have hC := hB.step bC
            have qC := qB.below qB.lt bC
            have yC := yB.below yB.lt bC
            clear hB xB qB yB zB bC hM u0 u1 u2 u3 u4 u5 u6 v0 v1 v2 v3 v4 v5 v6
            have hTu := turn_any k wC
            unfold keyV turnK at hTu
            obtain ⟨k0, k1, k2, k3, k4⟩ := hC.ky.cells
            go_upto_region 16 with (go_at_call 10; refine hTu.mono ?_; rintro e wD ⟨rfl, bD⟩)
            have alD : Below wD.heap.size wD (wD.alloc (.cells #[.int .i64 k.kind, .int .i64 k.dst, .int .i64 k.too, .int .i64 k.src, .int .i64 k.frm] 26)) := (Below.refl _ _).alloc (Nat.le_refl _) _
            have hD := (hC.step bD).step alD
            have qD := (qC.below qC.lt bD).alloc (.cells #[.int .i64 k.kind, .int .i64 k.dst, .int .i64 k.too, .int .i64 k.src, .int .i64 k.frm] 26)
            have yD := (yC.below yC.lt bD).alloc (.cells #[.int .i64 k.kind, .int .i64 k.dst, .int .i64 k.too, .int .i64 k.src, .int .i64 k.frm] 26)
            have tD := KyAt.new wD { kind := k.kind, src := k.dst, frm := k.too, dst := k.src, too := k.frm }
            obtain ⟨WD, hWD⟩ : ∃ WD, wD.alloc (.cells #[.int .i64 k.kind, .int .i64 k.dst, .int .i64 k.too, .int .i64 k.src, .int .i64 k.frm] 26) = WD := ⟨_, rfl⟩
            obtain ⟨T9, hT9⟩ : ∃ T9, T9 = wD.heap.size := ⟨_, rfl⟩
            simp only at tD
            rw [hWD] at hD qD yD tD ⊢
            rw [← hT9] at tD ⊢
            clear hWD hT9 hC qC yC bD alD hTu k0 k1 k2 k3 k4
            obtain ⟨f, HF⟩ : ∃ f, Hid (f = firstK k) := ⟨_, rfl⟩
            have hFi : Calls Tryd.prog 11 #[.agg #[.int .i64 k.kind, .int .i64 k.src, .int .i64 k.frm, .int .i64 k.dst, .int .i64 k.too]] WD fun e w' => e = .returned (.agg #[.int .i64 f.kind, .int .i64 f.src, .int .i64 f.frm, .int .i64 f.dst, .int .i64 f.too]) ∧ Below WD.heap.size WD w' := by
              have h := first_any k WD
              rw [← HF.out] at h
              exact h
            obtain ⟨k0, k1, k2, k3, k4⟩ := hD.ky.cells
            go_upto_region 17 with (go_at_call 11; refine hFi.mono ?_; rintro e wE ⟨rfl, bE⟩)
            have hS : Kc w k y f K9 K5 T9 wE.heap.size (wE.alloc (.cells #[.int .i64 f.kind, .int .i64 f.src, .int .i64 f.frm, .int .i64 f.dst, .int .i64 f.too] 26)) := by
              have alE : Below wE.heap.size wE (wE.alloc (.cells #[.int .i64 f.kind, .int .i64 f.src, .int .i64 f.frm, .int .i64 f.dst, .int .i64 f.too] 26)) := (Below.refl _ _).alloc (Nat.le_refl _) _
              have hE' := (hD.step bE).step alE
              exact ⟨(yD.below yD.lt bE).alloc _, (qD.below qD.lt bE).alloc _, hE'.ky, (tD.below tD.lt bE).alloc _, KyAt.new wE f, hE'.below⟩
            obtain ⟨WE, hWE⟩ : ∃ WE, wE.alloc (.cells #[.int .i64 f.kind, .int .i64 f.src, .int .i64 f.frm, .int .i64 f.dst, .int .i64 f.too] 26) = WE := ⟨_, rfl⟩
            obtain ⟨F9, hF9⟩ : ∃ F9, F9 = wE.heap.size := ⟨_, rfl⟩
            rw [hWE] at hS ⊢
            rw [← hF9] at hS ⊢
            clear hWE hF9 hD qD yD tD bE hFi k0 k1 k2 k3 k4
            have cT : ∀ W, Calls Tryd.prog 12 #[.agg #[.int .i64 k.kind, .int .i64 k.src, .int .i64 k.frm, .int .i64 k.dst, .int .i64 k.too]] W fun e w' => e = .returned (.agg #[.int .i64 k.kind, .int .i64 k.dst, .int .i64 k.too, .int .i64 k.src, .int .i64 k.frm]) ∧ Below W.heap.size W w' := fun W => refTurn_any k W
            have cF : ∀ W, Calls Tryd.prog 13 #[.agg #[.int .i64 k.kind, .int .i64 k.src, .int .i64 k.frm, .int .i64 k.dst, .int .i64 k.too]] W fun e w' => e = .returned (.agg #[.int .i64 f.kind, .int .i64 f.src, .int .i64 f.frm, .int .i64 f.dst, .int .i64 f.too]) ∧ Below W.heap.size W w' := by
              intro W
              have h := refFirst_any k W
              rw [← HF.out] at h
              exact h
            obtain ⟨nb, HNB⟩ : ∃ nb, Hid (nb = nearB na nb0 nm) := ⟨_, rfl⟩
            have cN : ∀ W, Calls Tryd.prog 14 #[.int .i64 na, .int .i64 nb0, .int .i64 nm] W fun e w' => e = .returned (.bool nb) ∧ w' = W := by
              intro W; rw [HNB.out]; exact near_any na nb0 nm W
            have cM : ∀ W, Calls Tryd.prog 15 #[.int .i64 na, .int .i64 nb0, .int .i64 nm] W fun e w' => e = .returned (.bool nb) ∧ w' = W := by
              intro W; rw [HNB.out]; exact refNear_any na nb0 nm W
            have n1 := fun W => Tryd.keyEql y.kind y.src y.frm y.dst y.too W
            have n2 := fun W => Tryd.keyEql k.kind k.dst k.too k.src k.frm W
            have n3 := fun W => Tryd.keyEql f.kind f.src f.frm f.dst f.too W
            clear HF HNB
            go_region_held3 (fun w' => ((w'.cell? ⟨K9, 0, none⟩ = some (.int .i64 y.kind) ∧ w'.cell? ⟨K9, 1, none⟩ = some (.int .i64 y.src) ∧ w'.cell? ⟨K9, 2, none⟩ = some (.int .i64 y.frm) ∧ w'.cell? ⟨K9, 3, none⟩ = some (.int .i64 y.dst) ∧ w'.cell? ⟨K9, 4, none⟩ = some (.int .i64 y.too)) ∧ (w'.cell? ⟨K5, 0, none⟩ = some (.int .i64 y.kind) ∧ w'.cell? ⟨K5, 1, none⟩ = some (.int .i64 y.src) ∧ w'.cell? ⟨K5, 2, none⟩ = some (.int .i64 y.frm) ∧ w'.cell? ⟨K5, 3, none⟩ = some (.int .i64 y.dst) ∧ w'.cell? ⟨K5, 4, none⟩ = some (.int .i64 y.too)) ∧ (w'.cell? ⟨w.heap.size + 1, 0, none⟩ = some (.int .i64 k.kind) ∧ w'.cell? ⟨w.heap.size + 1, 1, none⟩ = some (.int .i64 k.src) ∧ w'.cell? ⟨w.heap.size + 1, 2, none⟩ = some (.int .i64 k.frm) ∧ w'.cell? ⟨w.heap.size + 1, 3, none⟩ = some (.int .i64 k.dst) ∧ w'.cell? ⟨w.heap.size + 1, 4, none⟩ = some (.int .i64 k.too)) ∧ (w'.cell? ⟨T9, 0, none⟩ = some (.int .i64 k.kind) ∧ w'.cell? ⟨T9, 1, none⟩ = some (.int .i64 k.dst) ∧ w'.cell? ⟨T9, 2, none⟩ = some (.int .i64 k.too) ∧ w'.cell? ⟨T9, 3, none⟩ = some (.int .i64 k.src) ∧ w'.cell? ⟨T9, 4, none⟩ = some (.int .i64 k.frm)) ∧ (w'.cell? ⟨F9, 0, none⟩ = some (.int .i64 f.kind) ∧ w'.cell? ⟨F9, 1, none⟩ = some (.int .i64 f.src) ∧ w'.cell? ⟨F9, 2, none⟩ = some (.int .i64 f.frm) ∧ w'.cell? ⟨F9, 3, none⟩ = some (.int .i64 f.dst) ∧ w'.cell? ⟨F9, 4, none⟩ = some (.int .i64 f.too))) ∧ Kc w k y f K9 K5 T9 F9 w') (with_reducible first | assumption | exact kc_of hS | exact kc_of (Kc.drew (And.right (by assumption))) | exact kc_of (Kc.drew hS) | exact kc_of (Kc.drew (by assumption)) | exact kc_of (by assumption)) (first
              | (go_at_call 12; refine (cT _).mono ?_; rintro e wF ⟨rfl, bF⟩; have hSF := Kc.step (And.right (by assumption) : Kc w k y f K9 K5 T9 F9 _) bF)
              | (go_at_call 13; refine (cF _).mono ?_; rintro e wG ⟨rfl, bG⟩; have hSG := Kc.step (And.right (by assumption) : Kc w k y f K9 K5 T9 F9 _) bG)
              | (go_at_call 14; refine (cN _).mono ?_; rintro e wG ⟨rfl, rfl⟩)
              | (go_at_call 15; refine (cM _).mono ?_; rintro e wG ⟨rfl, rfl⟩))
            go_wp2_with fail
            go_ret
            exact ⟨rfl, hSG.below⟩
theorem keys_walk (p : Pk) (bv : Value) (k : Ky) (na nb0 nm : Int) (w : World) {q r s : Prop} (hb : Bytes w bv p.body) (_ : q) (_ : r) (_ : s) (hE : ErrLaid w) :
    Calls Tryd.prog 3 #[pkV p bv, keyV k, .int .i64 na, .int .i64 nb0, .int .i64 nm] w fun e w' => e = .returned (.bool true) ∧ Below w.heap.size w w' := by
  obtain ⟨a, c, rfl⟩ := len_body hb
  exact keys_any p a _ c k na nb0 nm w hb hE
end Go.Proofs.YteijbohfakokfacDoor
