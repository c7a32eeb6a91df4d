/- What walk of package audit returns, whatever function it is handed: the first event that is wrong; what that function keeps, it keeps. -/
import Derived.Test.YtfgaalhaeadhmaaDoorAuWr
import Derived.Test.YtfgaalhaeadhmaaDoorAuLd
namespace Go.Proofs.YtfgaalhaeadhmaaDoor
open Go.RowKit
set_option linter.unusedVariables false

set_option maxRecDepth 100000 in
set_option maxHeartbeats 32000000 in
theorem walk_any (kf : Nat) (caps : Array Value) (I : Nat → World → Prop) (B : Nat) (es : List Ev) (v : Value) (w : World) (hv : Evs w v es) (hkeep : ∀ W, Below B w W → Evs W v es) (hB : B ≤ w.heap.size) (hI0 : I 0 w)
    (hIb : ∀ k W W', I k W → Below W.heap.size W W' → I k W')
    (hrun : ∀ args W, (callFunc kf args).run Tryd.prog W = .ok (.enter kf args) W)
    (hcall : ∀ k (hk : k < es.length) W, es.length ≤ 1000 → Gd es (k + 1) → I k W → Below B w W → Calls Tryd.prog kf (#[evV es[k]] ++ caps) W fun e W' => e = .returned (.tuple #[]) ∧ I (k + 1) W' ∧ Below B W W') :
    Calls Tryd.prog 34 #[v, .func (.func kf) #[] caps] w fun e W' => e = .returned (.tuple #[.int .i64 ((audR es).1 : Nat), auV (audR es).2]) ∧ Below B w W' ∧ ∃ j, I j W' ∧ ((audR es).2 = 0 → j = es.length) := by
  obtain ⟨Q, hQ⟩ : ∃ Q : Ending → World → Prop, Q = fun e W' => e = .returned (.tuple #[.int .i64 ((audR es).1 : Nat), auV (audR es).2]) ∧ Below B w W' ∧ ∃ j, I j W' ∧ ((audR es).2 = 0 → j = es.length) := ⟨_, rfl⟩
  have HQ : Hid (∀ (n : Nat) (c : Int) W', audR es = (n, c) → Below B w W' → (∃ j, I j W' ∧ (c = 0 → j = es.length)) → Q (.returned (.tuple #[.int .i64 n, auV c])) W') := by
    rw [hQ]; intro n c W' h1 h2 h3; rw [h1]; exact ⟨rfl, h2, h3⟩
  rw [← hQ]
  clear hQ
  obtain ⟨ao, co, rfl⟩ := hv.len
  have HV := hidA hv
  have HK := hidA hkeep
  have HI := hidA hIb
  have HC := hidA hcall
  have HI0 := hidA hI0
  clear hv hkeep hIb hcall hI0
  obtain ⟨N, hN⟩ : ∃ N, es.length = N := ⟨_, rfl⟩
  have HN := hidA hN
  rw [hN] at HV HK HQ ⊢
  by_cases hl : 1000 < N
  · have h4 : audR es = (0, 4) := by unfold audR; rw [if_pos (by rw [HN.out]; exact hl)]
    have hl' : (1000 : Int) < (N : Int) := by omega
    clear hN hl
    go_enter Tryd.func34, Tryd.ntmps34
    go_wp2_with fail
    exact HQ.out 0 4 _ h4 (Below.refl _ _) ⟨0, HI0.out, fun h => by cases h⟩
  · have HL := hidA hl
    have hl' : ¬ (1000 : Int) < (N : Int) := by omega
    clear hN hl
    go_enter Tryd.func34, Tryd.ntmps34
    go_wp2_with fail
    clear hl'
    go_loopw [6, 7, 17] (fun nw ms i wr => ∃ k : Nat, k ≤ N ∧ i = .int .i64 k ∧ nw = .int .i64 (stA es k).1 ∧ ms = .int .i64 (stA es k).2 ∧ Gd es k ∧ I k wr ∧ Below B w wr) (fun _ _ i _ => N - (intOf i).toNat)
    case atStart => exact ⟨0, by omega, by go_num, by go_num, by go_num, Gd.zero es, HI0.out, Below.refl _ _⟩
    case round =>
      obtain ⟨k, hk, rfl, rfl, rfl, hg, hI, hb⟩ := hrel
      have HG := hidA hg
      have HII := hidA hI
      have HB := hidA hb
      clear hI hb
      by_cases hlt : k < N
      · obtain ⟨c1, c2, b, off, rfl⟩ := HV.out.capOk (by omega)
        have hlt' : (k : Int) < (N : Int) := by omega
        have hke : k < es.length := by rw [HN.out]; exact hlt
        have hcs := (HK.out wr HB.out).cells k hke
        obtain ⟨q0, q1, q2, q3, q4, q5, q6, q7⟩ := hcs
        have HC1 := hidA (fun h1 h2 => HC.out k hke · h1 h2)
        obtain ⟨p, hp⟩ : ∃ p, es[k] = p := ⟨_, rfl⟩
        have HP := hidA hp
        have hp0 : es[k] = p := hp
        rw [hp] at q0 q1 q2 q3 q4 q5 q6 q7
        obtain ⟨s, hs⟩ : ∃ s, stA es k = s := ⟨_, rfl⟩
        have HS := hidA hs
        rw [hs]
        clear hs hp hg
        have n0 := EvAt.zero wr
        have hw := fun W => wrong_any p s.1 s.2 W
        unfold evV at hw
        obtain ⟨z, hz⟩ : ∃ z, wrN p s.1 s.2 = z := ⟨_, rfl⟩
        have HZ := hidA hz
        rw [hz] at hw
        clear hz
        go_upto_region 7 with (first | (refine wpList_store_ev rfl rfl (.tmp 9) (.tmp 21) rfl wr.heap.size _ p rfl rfl n0 ?_; intro W1 n1 b1))
        have hb0 : Below wr.heap.size wr W1 := ((Below.refl _ _).alloc (Nat.le_refl _) _).trans b1
        have HB1 := hidA (HB.out.trans (hb0.mono (Nat.le_trans hB HB.out.size)))
        have HI1 := hidA (HI.out k _ _ HII.out hb0)
        have HBs := hidA (Nat.le_trans hB HB.out.size)
        have HN1 := hidA n1
        clear b1 hb0 q0 q1 q2 q3 q4 q5 q6 q7 n0
        by_cases hz0 : z = 0
        · rw [hz0, show auV 0 = .nilIface from rfl] at hw
          have HG1 := hidA (HG.out.succ (by rw [HN.out]; exact hlt) (by rw [HP.out, HS.out, HZ.out]; exact hz0))
          have HS1 := hidA (show stA es (k + 1) = nxE s p by rw [stA_succ (by rw [HN.out]; exact hlt), HS.out, HP.out])
          clear hz0
          go_upto_region 8 with (first | (refine wpList_load_ev rfl (.tmp 9) rfl _ _ rfl n1 ?_) | (go_at_call 50; go_must ((with_reducible refine (hw _).mono ?_); rintro e W2 ⟨rfl, b2⟩)))
          have HN2 := hidA (HN1.out.below HN1.out.lt b2)
          have HB2 := hidA (HB1.out.trans (b2.mono (Nat.le_trans hB HB1.out.size)))
          have HI2 := hidA (HI.out k _ _ HI1.out b2)
          clear b2 n1 hw
          have n2 := HN2.out
          obtain ⟨c0, c3, c4, _⟩ := n2.cells
          have hcl := HC1.out W2 (by rw [HN.out]; exact Nat.le_of_not_lt HL.out) HG1.out HI2.out HB2.out
          rw [hp0] at hcl
          unfold evV at hcl
          have hnx : ∀ W3, Below B W2 W3 → Hid (Below B w W3) := fun W3 h => HB2.out.trans h
          clear HC1 HC
          obtain ⟨t, n, x, ky⟩ := p
          simp only at c0 c3 c4 hcl n2 HS1
          unfold nxE at HS1
          simp only at HS1
          rcases (by omega : x = 3 ∨ x = 4 ∨ (¬ x = 3 ∧ ¬ x = 4)) with rfl | rfl | ⟨i3, i4⟩
          · skip
            go_wp2_with (refine wpList_load_ev rfl (.tmp 9) rfl _ _ rfl n2 ?_)
            (with_reducible refine hcl.mono ?_)
            rintro e W3 ⟨rfl, hi3, b3⟩
            have HB3 := hnx W3 b3
            have HI3 := hidA hi3
            clear b3 hi3 hcl hnx c0 c3 c4 n2
            have hN1 : (N : Int) ≤ 1000 := by have := HL.out; omega
            go_wp2
            go_roundw
            case rel => exact ⟨k + 1, by omega, by go_num, by rw [HS1.out], by rw [HS1.out]; rfl, HG1.out, HI3.out, HB3.out⟩
            case measure => simp [intOf]; omega
          · skip
            go_wp2_with (refine wpList_load_ev rfl (.tmp 9) rfl _ _ rfl n2 ?_)
            (with_reducible refine hcl.mono ?_)
            rintro e W3 ⟨rfl, hi3, b3⟩
            have HB3 := hnx W3 b3
            have HI3 := hidA hi3
            clear b3 hi3 hcl hnx c0 c3 c4 n2
            have hN1 : (N : Int) ≤ 1000 := by have := HL.out; omega
            go_wp2
            go_roundw
            case rel => exact ⟨k + 1, by omega, by go_num, by rw [HS1.out], by rw [HS1.out]; rfl, HG1.out, HI3.out, HB3.out⟩
            case measure => simp [intOf]; omega
          · have i3b : (x == 3) = false := by simpa using i3
            have i4b : (x == 4) = false := by simpa using i4
            have HX := hidA (show (if x = 3 then n else if x = 4 then (-1 : Int) else s.2) = s.2 by rw [if_neg i3, if_neg i4])
            rw [HX.out] at HS1
            clear HX i3 i4
            go_wp2_with (refine wpList_load_ev rfl (.tmp 9) rfl _ _ rfl n2 ?_)
            (with_reducible refine hcl.mono ?_)
            rintro e W3 ⟨rfl, hi3, b3⟩
            have HB3 := hnx W3 b3
            have HI3 := hidA hi3
            clear b3 hi3 hcl hnx c0 c3 c4 n2
            have hN1 : (N : Int) ≤ 1000 := by have := HL.out; omega
            go_wp2
            go_roundw
            case rel => exact ⟨k + 1, by omega, by go_num, by rw [HS1.out], by rw [HS1.out], HG1.out, HI3.out, HB3.out⟩
            case measure => simp [intOf]; omega
        · have HZ0 := hidA hz0
          rw [auV_ne hz0] at hw
          have hau := audR_stop (by rw [HN.out]; exact HL.out) HG.out (by rw [HN.out]; exact hlt) (by rw [HP.out, HS.out, HZ.out]; exact hz0)
          rw [HP.out, HS.out, HZ.out] at hau
          have HF := hidA (fun W hW (hI : I k W) => HQ.out k z W hau hW ⟨k, hI, fun h => absurd h HZ0.out⟩)
          rw [auV_ne hz0] at HF
          clear hz0 hau HC1 HC
          go_wp2_with (first | (refine wpList_load_ev rfl (.tmp 9) rfl _ _ rfl n1 ?_) | (go_at_call 50; go_must ((with_reducible refine (hw _).mono ?_); rintro e W2 ⟨rfl, b2⟩)))
          exact HF.out W2 (HB1.out.trans (b2.mono (Nat.le_trans hB HB1.out.size))) (HI.out k _ _ HI1.out b2)
      · have hlt' : ¬ (k : Int) < (N : Int) := by omega
        obtain rfl : k = N := by omega
        have hau := audR_good (by rw [HN.out]; exact HL.out) (by rw [HN.out]; exact HG.out)
        have HF := hidA (HQ.out 0 0 wr hau HB.out ⟨k, HII.out, fun _ => rfl⟩)
        rw [show auV 0 = .nilIface from rfl] at HF
        clear hau HC hg hlt
        go_wp2_with fail
        exact HF.out
end Go.Proofs.YtfgaalhaeadhmaaDoor
