/- The law FragPlays: any pieces, at any times: the program's pool answers as the reference's does. No condition is asked. -/
import Derived.Test.YtgodjaffmojhlaaDoorRefPl9
import Derived.Test.YtgodjaffmojhlaaDoorWireSame
import Derived.Test.YtgodjaffmojhlaaDoorTold
import Derived.Test.YtgodjaffmojhlaaDoorMgC
import Derived.Deep.RegionHeld3
import Derived.Deep.DeepMust
namespace Go.Proofs.YtgodjaffmojhlaaDoor
open Go.RowKit Go.Maps
set_option linter.unusedVariables false

theorem errV_val (e : Int) : ErrVal (errV e) e := by
  unfold errV
  by_cases h : e = 0
  · rw [if_pos h]; exact .inl ⟨rfl, h⟩
  · rw [if_neg h]; exact .inr rfl
theorem same_err (n : Int) (W : World) (hL : ErrLaid W) : Calls Tryd.prog 5 #[errV n, .int .i64 n] W fun e w' => e = .returned (.bool true) ∧ Below W.heap.size W w' := by
  have := error_val (errV_val n) n W hL
  rw [show (n == n) = true by simp] at this
  exact this
theorem nums_at {w w' : World} {ao : Option Addr} {Z cz : Nat} {zs : List Int} (h : Nums w (.slice ao Z cz) zs) (hb : Below w.heap.size w w') {k : Nat} (hk : k < Z) (hZ : zs.length = Z) : ∃ b off, ao = some ⟨b, off, none⟩ ∧ Z ≤ cz ∧ cz ≤ 9223372036854775807 ∧ w'.cell? ⟨b, off + k, none⟩ = some (.int .i64 (zs.getD k 0)) := by
  rcases h with ⟨h0, _⟩ | ⟨b, off, len, cap, he, h1, h2, h3, h4, h5⟩
  · rw [h0] at hZ; simp at hZ; omega
  · simp only [Value.slice.injEq] at he
    obtain ⟨rfl, rfl, rfl⟩ := he
    unfold maxLen at h2
    exact ⟨b, off, rfl, h1, h2, (hb.cell (p := ⟨b, off + k, none⟩) h4).trans (h5 k (by omega))⟩
theorem nums_len {w : World} {v : Value} {zs : List Int} (h : Nums w v zs) : ∃ a c, v = .slice a zs.length c := by
  rcases h with ⟨rfl, a, c, rfl⟩ | ⟨b, off, len, cap, rfl, _, _, rfl, _⟩
  · exact ⟨a, c, rfl⟩
  · exact ⟨_, _, rfl⟩
set_option maxRecDepth 100000 in
set_option maxHeartbeats 8000000 in
theorem plays_walk (life : Int) (v : Value) (ps : List (Pk × Value)) (dv : Value) (zs : List Int) (w : World) {q1 q2 : Prop} (h1 : q1) (hv : Packs w v ps) (hz : Nums w dv zs) (h2 : q2) (hL : ErrLaid w) :
    Calls Tryd.prog 3 #[.int .i64 life, v, dv] w fun e w' => e = .returned (.bool true) ∧ Below w.heap.size w w' := by
  have hse := same_err
  clear h1 h2
  by_cases hlf : life < 1 ∨ 1000000 < life
  · have hnw := new_bad life w hlf
    have hes := hse 1 w hL
    rw [show errV 1 = .iface 48 (.int .i64 1) from rfl] at hes
    clear hse hv hz
    by_cases hl1 : life < 1
    · clear hlf
      go_enter Tryd.func3, Tryd.ntmps3
      go_wp2_with (first
        | (go_at_call 4; refine hnw.mono ?_; rintro e w2 ⟨rfl, hw2⟩; rw [hw2]; clear hw2)
        | (go_at_call 5; refine hes.mono ?_; rintro e w3 ⟨rfl, b3⟩))
      go_ret
      exact ⟨rfl, b3⟩
    · have hl2 : life > 1000000 := by omega
      clear hlf
      go_enter Tryd.func3, Tryd.ntmps3
      go_wp2_with (first
        | (go_at_call 4; refine hnw.mono ?_; rintro e w2 ⟨rfl, hw2⟩; rw [hw2]; clear hw2)
        | (go_at_call 5; refine hes.mono ?_; rintro e w3 ⟨rfl, b3⟩))
      go_ret
      exact ⟨rfl, b3⟩
  · have l1 : ¬ life < 1 := by omega
    have l2 : ¬ life > 1000000 := by omega
    have l1' : 1 ≤ life := by omega
    have l2' : life ≤ 1000000 := by omega
    have hnw := new_any life w l1' l2'
    unfold ptrV at hnw
    obtain ⟨ao, co, hve⟩ := packs_len hv
    obtain ⟨N, hN⟩ : ∃ N, ps.length = N := ⟨_, rfl⟩
    rw [hN] at hve
    subst hve
    obtain ⟨az, cz, hze⟩ := nums_len hz
    obtain ⟨Z, hZ⟩ : ∃ Z, zs.length = Z := ⟨_, rfl⟩
    rw [hZ] at hze
    subst hze
    have HV := hidR hv
    have HN := hidR hN
    have HZ := hidR hz
    have HZN := hidR hZ
    have HL := hidR hL
    have HSE := hidR hse
    clear hlf hv hN hz hZ hL hse
    go_enter Tryd.func3, Tryd.ntmps3
    go_upto_region 5 with (go_at_call 4; go_must (refine hnw.mono ?_; rintro e w2 ⟨rfl, hP2, b2, hs2⟩; have HS2 := hidR hs2; clear hs2))
    have hes := HSE.out 0 w2 (HL.out.below b2)
    rw [show errV 0 = .nilIface from rfl] at hes
    have HP2 := hidR hP2
    have HB2 := hidR b2
    clear hP2 b2 hnw
    go_upto_region 8 with (go_at_call 5; go_must (refine hes.mono ?_; rintro e w3 ⟨rfl, b3⟩))
    have HB3 := hidR b3
    clear hes b3
    go_upto_region 9 with fail
    have hE := TwoP.new w life w2 w3 l1' l2' HP2.out HB2.out HS2.out HB3.out
    obtain ⟨pb, hpb⟩ : ∃ pb, w.heap.size + 1 = pb := ⟨_, rfl⟩
    obtain ⟨mb, hmb⟩ : ∃ mb, w3.heap.size = mb := ⟨_, rfl⟩
    rw [hpb, hmb] at hE
    rw [hpb, hmb]
    generalize w3.alloc (.cells #[.int .i64 life, .int .i64 0, .slice none 0 0] 33) = w4 at hE ⊢
    generalize ({ life := life, now := 0, l := [] } : Po) = s0 at hE
    have HE := hidR hE
    clear hE HP2 HB2 HS2 HB3 hpb hmb l1 l2 l1' l2'
    go_upto_region 10 with fail
    go_loopw [12] (fun i wr => ∃ (k : Nat) (s : Po), k ≤ N ∧ k ≤ 40 ∧ i = .int .i64 (k : Int) ∧ TwoP w wr pb mb s s) (fun i _ => ((N : Int) - intOf i).toNat)
    case atStart => exact ⟨0, s0, by omega, by omega, rfl, HE.out⟩
    case round =>
      clear HE
      obtain ⟨k, s, hk, hk40, rfl, hE⟩ := hrel
      have HE := hidR hE
      clear hE
      by_cases hkn : k < N
      · have j1 : (k : Int) < (N : Int) := by omega
        have j2 : (0 : Int) ≤ (k : Int) := by omega
        by_cases hk4 : k < 40
        · have j4 : (k : Int) < 40 := by omega
          have hkp : k < ps.length := by have := HN.out; omega
          obtain ⟨b1, o1, hao, hNc, hcm, hcells⟩ := packs_shape HV.out (by omega)
          subst hao
          have hcm' : co ≤ 9223372036854775807 := by unfold maxLen at hcm; omega
          have hck := hcells k hkp
          obtain ⟨p, hp⟩ : ∃ p, ps[k].1 = p := ⟨_, rfl⟩
          obtain ⟨bv, hbv⟩ : ∃ bv, ps[k].2 = bv := ⟨_, rfl⟩
          rw [hp, hbv] at hck
          have hb0 := hck.2
          obtain ⟨a, c, hbe⟩ := len_body hb0
          subst hbe
          obtain ⟨L, hL⟩ : ∃ L, p.body.length = L := ⟨_, rfl⟩
          rw [hL] at hck hb0
          have HC := hidR (fun (W : World) (h : Below w.heap.size w W) => (hck.below h).1)
          have HB0 := hidR hb0
          clear hcells hck hp hbv hb0 hL hcm
          go_upto_if 62 with fail
          go_cut [13] (fun d ww => (∃ n : Int, d = .int .i64 n) ∧ ww = wr)
          case first =>
            by_cases hkz : k < Z
            · have j3 : (k : Int) < (Z : Int) := by omega
              obtain ⟨bz, oz, e2, hz1, hz2, hz3⟩ := nums_at HZ.out HE.out.bel hkz HZN.out
              subst e2
              go_wp2_with fail
              go_meet
              case rel => exact ⟨⟨_, rfl⟩, rfl⟩
            · have j3 : ¬ (k : Int) < (Z : Int) := by omega
              go_wp2_with fail
              go_meet
              case rel => exact ⟨⟨_, rfl⟩, rfl⟩
          case rest =>
            obtain ⟨⟨now, hd⟩, hw⟩ := hcut
            subst hd hw
            go_upto_if 69 with fail
            go_cut [10, 14, 15, 16, 17] (fun _ _ _ _ _ ww => ∃ s2, Hid (TwoP w ww pb mb s2 s2))
            case first =>
              by_cases h7 : (k : Int) % 7 = 6
              · have b7 : ((k : Int) % 7 == 6) = true := by rw [beq_iff_eq]; exact h7
                have t7 : (k : Int).tmod 7 = 6 := by rw [Int.tmod_eq_emod_of_nonneg j2]; exact h7
                have hrt := HE.out.rtick now
                have hpt := fun W (h : TwoP w W pb mb s (tickS s now)) => h.ptick now
                obtain ⟨s', hs'⟩ : ∃ s', tickS s now = s' := ⟨_, rfl⟩
                obtain ⟨te, hte⟩ : ∃ te, tickE s now = te := ⟨_, rfl⟩
                rw [hs', hte] at hrt
                simp only [hs', hte] at hpt
                generalize ((s.l.length : Int) - (s'.l.length : Int)) = D at hrt hpt
                have HPT := hidR hpt
                have hDD : (D != D) = false := by simp
                unfold ptrV at hrt
                clear hs' hte hpt
                go_upto_region 17 with (go_at_call 6; go_must (refine hrt.mono ?_; rintro e w5 ⟨rfl, hE5⟩))
                have hp5 := HPT.out w5 hE5
                unfold ptrV at hp5
                clear hrt hE5
                go_upto_region 18 with (go_at_call 7; go_must (refine hp5.mono ?_; rintro e w6 ⟨rfl, hE6⟩))
                have hes := HSE.out te w6 (HL.out.below hE6.bel)
                have HE6 := hidR hE6
                generalize errV te = ev at hes ⊢
                clear hp5 hE6
                go_wp2_with (go_at_call 5; go_must (refine hes.mono ?_; rintro e w7 ⟨rfl, b7⟩))
                go_meet
                case rel => exact ⟨s', HE6.out.below b7⟩
              · have b7 : ((k : Int) % 7 == 6) = false := by rw [beq_eq_false_iff_ne]; exact h7
                have t7 : ¬ (k : Int).tmod 7 = 6 := by rw [Int.tmod_eq_emod_of_nonneg j2]; exact h7
                go_wp2_with fail
                go_meet
                case rel => exact ⟨s, HE.out⟩
            case rest =>
              obtain ⟨s2, HE2⟩ := hcut
              clear HE
              obtain ⟨x0, x1, x2, x3, x4, x5, x6, x7⟩ := HC.out wc HE2.out.bel
              have hra := HE2.out.radd p (.slice a L c) now HB0.out
              have hpa := fun (W : World) (s3 : Po) (bv2 : Value) (x : Nat) (h : FreeX w W pb mb s2 s3 bv2 x) {zs : List Int} (hB2 : Bytes W bv2 zs) {q : Pk} (hx : PkAt W x q bv2) => h.padd p (.slice a L c) now HB0.out hB2 hx
              obtain ⟨R, hR⟩ : ∃ R, addA s2 p now = R := ⟨_, rfl⟩
              rw [hR] at hra
              simp only [hR] at hpa
              obtain ⟨s3, P, dn, er⟩ := R
              simp only at hra hpa
              have HPA := hidR @hpa
              unfold ptrV pkV at hra
              clear hR hpa
              go_upto_region 22 with (go_at_call 8; go_must (refine hra.mono ?_; rintro e w5 ⟨bv2, rfl, hB5, hF5⟩; obtain ⟨a2, c2, hv2⟩ := len_body hB5; subst hv2))
              obtain ⟨L2, hL2⟩ : ∃ L2, P.body.length = L2 := ⟨_, rfl⟩
              have HL2 := hidR hL2
              rw [hL2] at hB5 hF5 ⊢
              have hF6 := hF5.box (.cells #[.int .i64 P.kind, .int .i64 P.ttl, .int .i64 P.ident, .int .i64 P.src, .int .i64 P.dst, .int .i64 P.pos, .bool P.more, .slice a2 L2 c2] 40)
              have hX6 := PkAt.new w5 P (.slice a2 L2 c2)
              have hB6 := hB5.alloc (.cells #[.int .i64 P.kind, .int .i64 P.ttl, .int .i64 P.ident, .int .i64 P.src, .int .i64 P.dst, .int .i64 P.pos, .bool P.more, .slice a2 L2 c2] 40)
              obtain ⟨w6, hw6⟩ : ∃ w6, w5.alloc (.cells #[.int .i64 P.kind, .int .i64 P.ttl, .int .i64 P.ident, .int .i64 P.src, .int .i64 P.dst, .int .i64 P.pos, .bool P.more, .slice a2 L2 c2] 40) = w6 := ⟨_, rfl⟩
              obtain ⟨xb, hxb⟩ : ∃ xb, w5.heap.size = xb := ⟨_, rfl⟩
              rw [hw6, hxb] at hF6 hX6
              rw [hw6] at hB6
              rw [hw6, hxb]
              obtain ⟨y0, y1, y2, y3, y4, y5, y6, y7⟩ := HC.out w6 hF6.bel
              have hp6 := HPA.out w6 s3 (.slice a2 L2 c2) xb hF6 hB6 hX6
              unfold ptrV pkV at hp6
              clear hra x0 x1 x2 x3 x4 x5 x6 x7 hF5 hF6 hX6 hB5 hB6 hw6 hxb hL2 HE2
              go_upto_region 23 with (go_at_call 9; go_must (refine hp6.mono ?_; rintro e w7 ⟨bv3, rfl, hB7, hE7, hB27, hX7⟩; obtain ⟨a3, c3, hv3⟩ := len_body hB7; subst hv3))
              rw [HL2.out] at hB7 ⊢
              have b8 : Below w7.heap.size w7 (w7.alloc (.cells #[.int .i64 P.kind, .int .i64 P.ttl, .int .i64 P.ident, .int .i64 P.src, .int .i64 P.dst, .int .i64 P.pos, .bool P.more, .slice a3 L2 c3] 40)) := (Below.refl _ _).alloc (Nat.le_refl _) _
              have hE8 := hE7.below b8
              have hY8 := PkAt.new w7 P (.slice a3 L2 c3)
              have hX8 := hX7.below hX7.lt b8
              have hB8 := hB7.below (Nat.le_refl _) b8
              have hB28 := hB27.below (Nat.le_refl _) b8
              obtain ⟨w8, hw8⟩ : ∃ w8, w7.alloc (.cells #[.int .i64 P.kind, .int .i64 P.ttl, .int .i64 P.ident, .int .i64 P.src, .int .i64 P.dst, .int .i64 P.pos, .bool P.more, .slice a3 L2 c3] 40) = w8 := ⟨_, rfl⟩
              obtain ⟨yb, hyb⟩ : ∃ yb, w7.heap.size = yb := ⟨_, rfl⟩
              rw [hw8] at hE8 hX8 hB8 hB28
              rw [hw8, hyb] at hY8
              rw [hw8, hyb]
              have hes := HSE.out er w8 (HL.out.below hE8.bel)
              generalize errV er = ev at hes ⊢
              have HE8 := hidR hE8
              have HY8 := hidR hY8
              have HX8 := hidR hX8
              have HB8 := hidR hB8
              have HB28 := hidR hB28
              clear hp6 y0 y1 y2 y3 y4 y5 y6 y7 hE7 hB7 hB27 hX7 b8 hE8 hY8 hX8 hB8 hB28 hw8 hyb HPA
              go_upto_region 24 with (go_at_call 5; go_must (refine hes.mono ?_; rintro e w9 ⟨rfl, b9⟩))
              obtain ⟨x0, x1, x2, x3, x4, x5, x6, x7⟩ := (HX8.out.below HX8.out.lt b9).cells
              obtain ⟨y0, y1, y2, y3, y4, y5, y6, y7⟩ := (HY8.out.below HY8.out.lt b9).cells
              have hsp := samePk P (.slice a3 L2 c3) (.slice a2 L2 c2) w9 (HB8.out.below (Nat.le_refl _) b9) (HB28.out.below (Nat.le_refl _) b9)
              have HE9 := hidR (HE8.out.below b9)
              unfold pkV at hsp
              clear hes HE8 HX8 HY8 HB8 HB28 b9
              go_upto_region 25 with (go_at_call 10; go_must (refine hsp.mono ?_; rintro e w10 ⟨rfl, b10⟩))
              have HE10 := hidR (HE9.out.below b10)
              obtain ⟨m, gs, av, M, cv, c2', hmap, hgl, d2, hML, hne⟩ := HE10.out.lens
              have hlen := len_any pb m (grpsL gs) w10.drew c2' (hmap.block rfl)
              rw [show (grpsL gs).length = M by unfold grpsL; rw [List.length_map, hgl, hML]] at hlen
              unfold ptrV at hlen
              have hdd : (dn != dn) = false := by cases dn <;> rfl
              have hS : w10.cell? ⟨pb, 2, none⟩ = some (.map (some m)) ∧ w10.cell? ⟨mb, 2, none⟩ = some (.slice av M cv) := ⟨c2', d2⟩
              clear hsp x0 x1 x2 x3 x4 x5 x6 x7 y0 y1 y2 y3 y4 y5 y6 y7 HE9 b10 hmap hgl hML hne
              go_region_held3 (fun X => X.cell? ⟨pb, 2, none⟩ = some (.map (some m)) ∧ X.cell? ⟨mb, 2, none⟩ = some (.slice av M cv)) (with_reducible first | assumption | go_keep) (first
                | (go_at_call 11; refine hlen.mono ?_; rintro e w11 ⟨rfl, rfl⟩))
              go_wp2_with fail
              go_roundw
              case rel => exact ⟨k + 1, s3, by omega, by omega, by go_num, HE10.out.below (below_drewN (Below.refl _ _) 1)⟩
              case measure => simp [intOf]; omega
        · have j4 : ¬ (k : Int) < 40 := by omega
          go_wp2_with fail
          go_ret
          exact ⟨rfl, HE.out.bel⟩
      · have j1 : ¬ (k : Int) < (N : Int) := by omega
        go_wp2_with fail
        go_ret
        exact ⟨rfl, HE.out.bel⟩
end Go.Proofs.YtgodjaffmojhlaaDoor
