/- TriePlays: the law's walk. -/
import Derived.Test.YtdpnmhfhjcebbaaDoorTrPl0
import Derived.Test.YtdpnmhfhjcebbaaDoorOpenI
import Derived.Deep.DeepMust
namespace Go.Proofs.YtdpnmhfhjcebbaaDoor
open Go.RowKit
set_option linter.unusedVariables false
set_option maxRecDepth 4000

theorem hid {p : Prop} (h : p) : Hid p := h
theorem Prs.nil (w : World) : Prs w (.slice none 0 0) [] := .inl ⟨rfl, none, 0, rfl⟩
/-- What the law holds behind its loop, through worlds: both lists, rows of pairs, pairs that lie alone, the prefix. -/
structure TT (w w1 W : World) (B tb mb : Nat) (a l : Int) (s : Tv) (L : List (Value × List Pr)) (G : List (Nat × Pr)) : Prop where
  two : TwoE w1 W tb mb s s
  rows : ∀ x ∈ L, Prs W x.1 x.2
  pts : ∀ x ∈ G, TriAt W x.1 x.2
  pair : PairAt W B a l
  er : ErrLaid W
  bel : Below w.heap.size w W
section
variable {w w1 W W' : World} {B tb mb : Nat} {a l : Int} {s : Tv} {L : List (Value × List Pr)} {G : List (Nat × Pr)}
theorem TT.below (h : TT w w1 W B tb mb a l s L G) (hb : Below W.heap.size W W') : TT w w1 W' B tb mb a l s L G :=
  ⟨h.two.below hb, fun x hx => (h.rows x hx).below hb, fun x hx => (h.pts x hx).keep (hb.block _ (h.pts x hx).lt), h.pair.below h.pair.lt hb, h.er.below hb, h.bel.trans (hb.mono h.bel.size)⟩
theorem TT.ext {v : Value} {ps : List Pr} (h : TT w w1 W B tb mb a l s L G) (hv : Prs W v ps) : TT w w1 W B tb mb a l s ((v, ps) :: L) G :=
  ⟨h.two, fun x hx => by
    rcases List.mem_cons.1 hx with rfl | hx
    · exact hv
    · exact h.rows x hx, h.pts, h.pair, h.er, h.bel⟩
theorem TT.add {v : Value} {ps : List Pr} (h : TT w w1 W B tb mb a l s L G) (hb : Below W.heap.size W W') (hv : Prs W' v ps) : TT w w1 W' B tb mb a l s ((v, ps) :: L) G := (h.below hb).ext hv
theorem TT.extp {g : Nat} {q : Pr} (h : TT w w1 W B tb mb a l s L G) (hq : TriAt W g q) : TT w w1 W B tb mb a l s L ((g, q) :: G) :=
  ⟨h.two, h.rows, fun x hx => by
    rcases List.mem_cons.1 hx with rfl | hx
    · exact hq
    · exact h.pts x hx, h.pair, h.er, h.bel⟩
theorem TT.pt (h : TT w w1 W B tb mb a l s L G) (q : Pr) : TT w w1 (W.alloc (.cells #[.int .i64 q.a, .int .i64 q.l, .int .i64 q.v] 34)) B tb mb a l s L ((W.heap.size, q) :: G) :=
  (h.below ((Below.refl _ _).alloc (Nat.le_refl _) _)).extp (TriAt.new W q)
theorem TT.get {v : Value} {ps : List Pr} (h : TT w w1 W B tb mb a l s L G) (hx : (v, ps) ∈ L) : Prs W v ps := h.rows _ hx
theorem TT.pt' {g : Nat} {q : Pr} (h : TT w w1 W B tb mb a l s L G) (hx : (g, q) ∈ G) : TriAt W g q := h.pts _ hx
end
theorem nums_at {w w' : World} {ao : Option Addr} {Z cz : Nat} {zs : List Int} (h : Nums w (.slice ao Z cz) zs) (hb : Below w.heap.size w w') {k : Nat} (hk : k < Z) (hZ : zs.length = Z) : ∃ b off, ao = some ⟨b, off, none⟩ ∧ Z ≤ cz ∧ cz ≤ 9223372036854775807 ∧ w'.cell? ⟨b, off + k, none⟩ = some (.int .i64 (zs.getD k 0)) := by
  rcases h with ⟨h0, _⟩ | ⟨b, off, len, cap, he, h1, h2, h3, h4, h5⟩
  · rw [h0] at hZ; simp at hZ; omega
  · simp only [Value.slice.injEq] at he
    obtain ⟨rfl, rfl, rfl⟩ := he
    refine ⟨b, off, rfl, h1, by unfold maxLen at h2; omega, ?_⟩
    rw [hb.cell (p := ⟨b, off + k, none⟩) h4]; exact h5 k (by omega)
theorem nums_len {w : World} {v : Value} {zs : List Int} (h : Nums w v zs) : ∃ a c, v = .slice a zs.length c := by
  rcases h with ⟨rfl, a, c, rfl⟩ | ⟨b, off, len, cap, rfl, _, _, rfl, _⟩
  · exact ⟨a, c, rfl⟩
  · exact ⟨_, _, rfl⟩
set_option maxHeartbeats 16000000 in
theorem plays_walk (v : Value) (ps : List Pr) (dv : Value) (zs : List Int) (x a l : Int) (w : World) {q1 q2 q3 q4 q5 : Prop} (hv : Prs w v ps) (h1 : q1) (hz : Nums w dv zs) (h2 : q2) (h3 : q3) (h4 : q4) (h5 : q5) (hL : ErrLaid w) :
    Calls Tryd.prog 3 #[v, dv, .int .i64 x, .agg #[.int .i64 a, .int .i64 l]] w fun e w' => e = .returned (.bool true) ∧ Below w.heap.size w w' := by
  obtain ⟨ao, co, hve⟩ := hv.len
  obtain ⟨N, hN⟩ : ∃ N, ps.length = N := ⟨_, rfl⟩
  rw [hN] at hve
  subst hve
  obtain ⟨az, cz, hze⟩ := nums_len hz
  obtain ⟨Z, hZ⟩ : ∃ Z, zs.length = Z := ⟨_, rfl⟩
  rw [hZ] at hze
  subst hze
  have hnw := newTrie_any (w.alloc (.cells #[.int .i64 a, .int .i64 l] 25))
  have hs1 : (w.alloc (.cells #[.int .i64 a, .int .i64 l] 25)).heap.size = w.heap.size + 1 := by simp
  have HV : Hid (Prs w (.slice ao N co) ps) := hv
  have HN : Hid (ps.length = N) := hN
  have HZ : Hid (Nums w (.slice az Z cz) zs) := hz
  have HZN : Hid (zs.length = Z) := hZ
  have HL : Hid (ErrLaid w) := hL
  have HB1 : Hid (Below w.heap.size w (w.alloc (.cells #[.int .i64 a, .int .i64 l] 25))) := (Below.refl _ _).alloc (Nat.le_refl _) _
  have HP1 : Hid (PairAt (w.alloc (.cells #[.int .i64 a, .int .i64 l] 25)) w.heap.size a l) := PairAt.new w a l 25
  rw [hs1] at hnw
  have HS1 : Hid ((w.alloc (.cells #[.int .i64 a, .int .i64 l] 25)).heap.size = w.heap.size + 1) := hs1
  clear hv hN hz hZ hL h1 h2 h3 h4 h5 hs1
  go_enter Tryd.func3, Tryd.ntmps3
  go_upto_region 4 with (go_at_call 4; go_must (refine hnw.mono ?_; rintro e w2 ⟨rfl, hT2, b2, hs2⟩; have HS2 : Hid (w2.heap.size = w.heap.size + 1 + 1) := hs2; clear hs2))
  obtain ⟨w1, hw1⟩ : ∃ w1, w.alloc (.cells #[.int .i64 a, .int .i64 l] 25) = w1 := ⟨_, rfl⟩
  rw [hw1] at HB1 HP1 HS1 b2
  have hE3 := TwoE.new (w0 := w1) (w2 := w2) (by rw [HS1.out]; exact hT2) (by rw [HS1.out]; exact b2) (by rw [HS1.out]; exact HS2.out)
  rw [HS1.out] at hE3
  generalize w2.alloc (.cells #[.slice none 0 0] 30) = w3 at hE3 ⊢
  obtain ⟨B, hBe⟩ : ∃ B, w.heap.size = B := ⟨_, rfl⟩
  obtain ⟨tb, htb⟩ : ∃ tb, B + 1 = tb := ⟨_, rfl⟩
  obtain ⟨mb, hmb⟩ : ∃ mb, w2.heap.size = mb := ⟨_, rfl⟩
  rw [hBe, htb, hmb] at hE3
  rw [hBe, htb, hmb]
  have HBE : Hid (w.heap.size = B ∧ w1.heap.size = B + 1) := ⟨hBe, by rw [HS1.out, hBe]⟩
  have HE3 : Hid (TwoE w1 w3 tb mb newV newV) := hE3
  have HPB : Hid (PairAt w1 B a l) := by rw [← hBe]; exact HP1.out
  clear hE3 hT2 b2 hBe htb hmb hnw hw1
  go_loopw [11] (fun i wr => ∃ (k : Nat) (s : Tv), k ≤ N ∧ i = .int .i64 (k : Int) ∧ TwoE w1 wr tb mb s s) (fun i _ => ((N : Int) - intOf i).toNat)
  case atStart => exact ⟨0, newV, by omega, rfl, HE3.out⟩
  case round =>
    obtain ⟨k, s, hk, rfl, hE⟩ := hrel
    have HBR : Hid (Below w.heap.size w wr) := HB1.out.trans (hE.bel.mono HB1.out.size)
    have hok := hE.ok
    have HE : Hid (TwoE w1 wr tb mb s s) := hE
    clear hE
    by_cases hkn : k < N
    · as_aux_lemma =>
      have j1 : (k : Int) < (N : Int) := by omega
      have j2 : (0 : Int) ≤ (k : Int) := by omega
      have hkp : k < ps.length := by have := HN.out; omega
      obtain ⟨b1, o1, e1, hb1, hl1, hx1, hc1⟩ := HV.out.shape (by omega)
      subst e1
      have hx1' : co ≤ 9223372036854775807 := by unfold maxLen at hx1; omega
      have hC : ∀ W, Below w.heap.size w W → PrCells W b1 (o1 + k * 3) ps[k] := fun W hW => (hc1 k hkp).keep (hW.block b1 hb1)
      obtain ⟨q, hq⟩ : ∃ q, ps[k] = q := ⟨_, rfl⟩
      rw [hq] at hC
      have HC : Hid (∀ W, Below w.heap.size w W → PrCells W b1 (o1 + k * 3) q) := hC
      have HWB : Hid (∀ W s1 s2, TwoE w1 W tb mb s1 s2 → Below w.heap.size w W) := fun W s1 s2 h => HB1.out.trans (h.bel.mono HB1.out.size)
      have hS0 : wr.cell? ⟨b1, o1 + k * 3, none⟩ = some (.int .i64 q.a) ∧ wr.cell? ⟨b1, o1 + k * 3 + 1, none⟩ = some (.int .i64 q.l) ∧ wr.cell? ⟨b1, o1 + k * 3 + 2, none⟩ = some (.int .i64 q.v) := hC wr HBR.out
      have hput := HE.out.drew.rput hok.1 hok.2 q.a q.l q.v
      obtain ⟨s', hs'⟩ : ∃ s', (putV s q.a q.l q.v).1 = s' := ⟨_, rfl⟩
      obtain ⟨er, her⟩ : ∃ er, (putV s q.a q.l q.v).2.2 = er := ⟨_, rfl⟩
      obtain ⟨bb, hbb⟩ : ∃ bb, (putV s q.a q.l q.v).2.1 = bb := ⟨_, rfl⟩
      simp only [hs', her, hbb] at hput
      have HTP : Hid (∀ W, TwoE w1 W tb mb s s' → Calls Tryd.prog 6 #[.pointer (some ⟨tb, 0, none⟩), .agg #[.int .i64 q.a, .int .i64 q.l], .int .i64 q.v] W fun e w' => e = .returned (.tuple #[.bool bb, errT er]) ∧ TwoE w1 w' tb mb s' s') := fun W h => by
        have := h.tput q.a q.l q.v
        simp only [hs', her, hbb] at this
        exact this
      have HCA : Hid (∀ W, Below w.heap.size w W → ∀ i (hi : i < ps.length), PrCells W b1 (o1 + i * 3) ps[i]) := fun W hW i hi => (hc1 i hi).keep (hW.block b1 hb1)
      clear hc1 hx1 hq hs' her hbb hok hC
      go_upto_region 6 with fail
      go_region_held3 (fun W => W.cell? ⟨b1, o1 + k * 3, none⟩ = some (.int .i64 q.a) ∧ W.cell? ⟨b1, o1 + k * 3 + 1, none⟩ = some (.int .i64 q.l) ∧ W.cell? ⟨b1, o1 + k * 3 + 2, none⟩ = some (.int .i64 q.v)) (with_reducible first | assumption | go_keep) (first
        | (go_at_call 5; refine hput.mono ?_; rintro e w5 ⟨rfl, hE5⟩; have hc5 : w5.cell? ⟨b1, o1 + k * 3, none⟩ = some (.int .i64 q.a) ∧ w5.cell? ⟨b1, o1 + k * 3 + 1, none⟩ = some (.int .i64 q.l) ∧ w5.cell? ⟨b1, o1 + k * 3 + 2, none⟩ = some (.int .i64 q.v) := HC.out w5 (HWB.out w5 _ _ hE5)))
      have hput2 := HTP.out w5.drew hE5.drew
      clear hput hS0 hE5
      go_upto_region 7 with fail
      go_region_held3 (fun W => W.cell? ⟨b1, o1 + k * 3, none⟩ = some (.int .i64 q.a) ∧ W.cell? ⟨b1, o1 + k * 3 + 1, none⟩ = some (.int .i64 q.l) ∧ W.cell? ⟨b1, o1 + k * 3 + 2, none⟩ = some (.int .i64 q.v)) (with_reducible first | assumption | go_keep) (first
        | (go_at_call 6; refine hput2.mono ?_; rintro e w6 ⟨rfl, hE6⟩; have hc6 : w6.cell? ⟨b1, o1 + k * 3, none⟩ = some (.int .i64 q.a) ∧ w6.cell? ⟨b1, o1 + k * 3 + 1, none⟩ = some (.int .i64 q.l) ∧ w6.cell? ⟨b1, o1 + k * 3 + 2, none⟩ = some (.int .i64 q.v) := HC.out w6 (HWB.out w6 _ _ hE6)))
      have HE6 : Hid (TwoE w1 w6 tb mb s' s') := hE6
      have hes := errT_same er w6 (HL.out.below (HWB.out w6 _ _ hE6))
      generalize errT er = ev at hes ⊢
      clear hput2 hc5 hc6 hE6
      go_upto_region 9 with (go_at_call 7; go_must (refine hes.mono ?_; rintro e w7 ⟨rfl, b7⟩))
      have HE7 : Hid (TwoE w1 w7 tb mb s' s') := HE6.out.below b7
      have hbb2 : (bb != bb) = false := by cases bb <;> rfl
      clear hes b7
      go_upto_region 11 with fail
      by_cases hkz : k < Z
      · have j3 : (k : Int) < (Z : Int) := by omega
        obtain ⟨bz, oz, e2, hz1, hz2, hz3⟩ := nums_at HZ.out (HWB.out w7 _ _ HE7.out) hkz HZN.out
        subst e2
        obtain ⟨d, hd⟩ : ∃ d, zs.getD k 0 = d := ⟨_, rfl⟩
        rw [hd] at hz3
        clear hd hbb2
        by_cases hd0 : 0 ≤ d
        · by_cases hdN : d < (N : Int)
          · obtain ⟨m, rfl⟩ := Int.eq_ofNat_of_zero_le hd0
            have hmp : m < ps.length := by have := HN.out; omega
            obtain ⟨y0, y1, _⟩ := HCA.out w7 (HWB.out w7 _ _ HE7.out) m hmp
            generalize ps[m] = r at y0 y1
            have hok := HE7.out.ok
            have HOK : Hid (OkV s' ∧ (allV s').length ≤ 200) := hok
            clear hok
            go_upto_region 13 with fail
            have b8 := (Below.refl w7.heap.size w7).alloc (Nat.le_refl _) (.cells #[.int .i64 r.a, .int .i64 r.l] 25)
            have hp8 := PairAt.new w7 r.a r.l 25
            have hg8 := HE7.out.fresh b8 hp8.lt
            obtain ⟨w8, hw8⟩ : ∃ w8, w7.alloc (.cells #[.int .i64 r.a, .int .i64 r.l] 25) = w8 := ⟨_, rfl⟩
            rw [hw8] at hp8 hg8 ⊢
            obtain ⟨gp, hgp⟩ : ∃ gp, w7.heap.size = gp := ⟨_, rfl⟩
            rw [hgp] at hp8 hg8 ⊢
            have hpr := refPrefix_any r.a r.l w8
            have HG8 : Hid (TwoG w1 w8 gp tb mb s' s') := hg8
            have HP8 : Hid (PairAt w8 gp r.a r.l) := hp8
            obtain ⟨c0, c1, _, _⟩ := hp8
            obtain ⟨hde, hdn⟩ := dropV_err (s := s') (a := r.a) (l := r.l)
            clear b8 hg8 hw8 hgp y0 y1 hz3
            by_cases hp : prefE r.a r.l = 0
            · as_aux_lemma =>
              rw [hp] at hpr hde
              have HPZ : Hid (prefE r.a r.l = 0) := hp
              obtain ⟨sD, hsD⟩ : ∃ sD, (dropV s' r.a r.l).1 = sD := ⟨_, rfl⟩
              obtain ⟨bD, hbD⟩ : ∃ bD, (dropV s' r.a r.l).2.1 = bD := ⟨_, rfl⟩
              have hrd := fun W (h : TwoG w1 W gp tb mb s' s') => h.rdrop HOK.out.1 HOK.out.2 r.a r.l HPZ.out
              have htd := fun W (h : TwoG w1 W gp tb mb s' sD) => h.tdrop r.a r.l
              simp only [hsD, hbD] at hrd
              simp only [hsD, hbD, hde] at htd
              rw [show errT 0 = .nilIface from rfl] at htd
              have hes := fun W (h : ErrLaid W) => errT_same 0 W h
              rw [show errT 0 = .nilIface from rfl] at hes
              clear hde hdn hp hsD hbD
              go_upto_region 14 with (go_at_call 8; go_must (refine hpr.mono ?_; rintro e w9 ⟨rfl, b9⟩))
              have HG9 : Hid (TwoG w1 w9 gp tb mb s' s') := HG8.out.below b9
              have HP9 : Hid (PairAt w9 gp r.a r.l) := HP8.out.below HP8.out.lt b9
              obtain ⟨d0, d1, _, _⟩ := HP9.out
              clear hpr c0 c1 b9
              go_upto_region 15 with (go_at_call 9; go_must (refine (hrd _ HG9.out).mono ?_; rintro e w10 ⟨rfl, hg10, hb10⟩))
              have HG10 : Hid (TwoG w1 w10 gp tb mb s' sD) := hg10
              have f0 : w10.cell? ⟨gp, 0, none⟩ = some (.int .i64 r.a) := (World.cell?_of_block (w := w9) hb10).trans HP9.out.1
              have f1 : w10.cell? ⟨gp, 1, none⟩ = some (.int .i64 r.l) := (World.cell?_of_block (w := w9) hb10).trans HP9.out.2.1
              clear hg10 hb10 d0 d1
              go_upto_region 17 with (first
                | (go_at_call 7; go_must (refine (hes _ (HL.out.below (HWB.out w11 _ _ HE11.out))).mono ?_; rintro e w12 ⟨rfl, b12⟩))
                | (go_at_call 10; go_must (refine (htd _ HG10.out).mono ?_; rintro e w11 ⟨rfl, hE11⟩; have HE11 : Hid (TwoE w1 w11 tb mb sD sD) := hE11; clear hE11)))
              have HE12 : Hid (TwoE w1 w12 tb mb sD sD) := HE11.out.below b12
              have hbb3 : (bD != bD) = false := by cases bD <;> rfl
              clear b12 f0 f1
              go_wp2_with fail
              go_roundw
              case rel => exact ⟨k + 1, sD, by omega, by go_num, HE12.out⟩
              case measure => simp [intOf]; omega
            · as_aux_lemma =>
              obtain ⟨hd1, hd2⟩ := hdn hp
              have htd := fun W (h : TwoG w1 W gp tb mb s' s') => h.tdrop r.a r.l
              simp only [hd1, hd2, hde] at htd
              generalize prefE r.a r.l = n at hpr htd hp
              have hn0 : ¬ n = 0 := hp
              have hes := fun W (h : ErrLaid W) => errT_same n W h
              generalize errT n = ev2 at htd hes
              clear hde hdn hp hd1 hd2
              go_upto_region 14 with (go_at_call 8; go_must (refine hpr.mono ?_; rintro e w9 ⟨rfl, b9⟩))
              have HG9 : Hid (TwoG w1 w9 gp tb mb s' s') := HG8.out.below b9
              have HP9 : Hid (PairAt w9 gp r.a r.l) := HP8.out.below HP8.out.lt b9
              obtain ⟨d0, d1, _, _⟩ := HP9.out
              clear hpr c0 c1 b9
              go_upto_region 17 with (first
                | (go_at_call 7; go_must (refine (hes _ (HL.out.below (HWB.out w11 _ _ HE11.out))).mono ?_; rintro e w12 ⟨rfl, b12⟩))
                | (go_at_call 10; go_must (refine (htd _ HG9.out).mono ?_; rintro e w11 ⟨rfl, hE11⟩; have HE11 : Hid (TwoE w1 w11 tb mb s' s') := hE11; clear hE11)))
              have HE12 : Hid (TwoE w1 w12 tb mb s' s') := HE11.out.below b12
              clear b12 d0 d1
              go_wp2_with fail
              go_roundw
              case rel => exact ⟨k + 1, s', by omega, by go_num, HE12.out⟩
              case measure => simp [intOf]; omega
          · go_wp2_with fail
            go_roundw
            case rel => exact ⟨k + 1, s', by omega, by go_num, HE7.out⟩
            case measure => simp [intOf]; omega
        · go_wp2_with fail
          go_roundw
          case rel => exact ⟨k + 1, s', by omega, by go_num, HE7.out⟩
          case measure => simp [intOf]; omega
      · have j3 : ¬ (k : Int) < (Z : Int) := by omega
        clear hbb2
        go_wp2_with fail
        go_roundw
        case rel => exact ⟨k + 1, s', by omega, by go_num, HE7.out⟩
        case measure => simp [intOf]; omega
    · have j1 : ¬ (k : Int) < (N : Int) := by omega
      have HWB : Hid (∀ W s1 s2, TwoE w1 W tb mb s1 s2 → Below w.heap.size w W) := fun W s1 s2 h => HB1.out.trans (h.bel.mono HB1.out.size)
      have HOK : Hid (OkV s ∧ (allV s).length ≤ 200) := hok
      obtain ⟨V, cV, hmbl, hVp⟩ := HE.out.row
      have hal := HE.out.drew.tall
      have HVP : Hid (Prs wr V (allV s) ∧ mb < wr.heap.size ∧ wr.cell? ⟨mb, 0, none⟩ = some V) := ⟨hVp, hmbl, cV⟩
      clear hVp hok
      go_upto_region 19 with fail
      go_region_held3 (fun W => W.cell? ⟨mb, 0, none⟩ = some V) (with_reducible first | assumption | go_keep) (first
        | (go_at_call 12; go_must (refine hal.mono ?_; rintro e w5 ⟨v5, rfl, own5, b5⟩; have b5 := drew_below b5; have c5 : w5.cell? ⟨mb, 0, none⟩ = some V := (World.cell?_of_block (w := wr) (a := ⟨mb, 0, none⟩) (b5.block mb hmbl)).trans cV))
        | (go_at_call 11; go_must (refine (samePrs v5 V (allV s) _ (own5.prs) (HVP.out.1.below b5)).mono ?_; rintro e w6 ⟨rfl, b6⟩; have c6 : w6.cell? ⟨mb, 0, none⟩ = some V := (World.cell?_of_block (w := wr) (a := ⟨mb, 0, none⟩) ((b6.block mb (by have := b5.size; omega)).trans (b5.block mb hmbl))).trans cV)))
      have b56 : Below wr.heap.size wr w6 := b5.trans (b6.mono b5.size)
      have T0 : Hid (TT w w1 w6 B tb mb a l s [(.slice ao N co, ps)] []) := ⟨HE.out.below b56, fun x hx => by
        rw [List.mem_singleton] at hx; subst hx; exact (HV.out.below HBR.out).below b56, (fun x hx => by cases hx), (HPB.out.below HPB.out.lt HE.out.bel).below (Nat.lt_of_lt_of_le HPB.out.lt HE.out.bel.size) b56, (HL.out.below HBR.out).below b56, HBR.out.trans (b56.mono HBR.out.size)⟩
      have HRT := hid (fun W (h : Prs W (.slice ao N co) ps) => refThin_any (.slice ao N co) ps W h)
      have HTH := hid (fun W (h : Prs W (.slice ao N co) ps) => thin_any (.slice ao N co) ps W h)
      unfold RThins at HRT
      unfold Thins at HTH
      have HET := hid (fun W (h : ErrLaid W) => errT_same (thinE ps) W h)
      generalize (if thinE ps = 0 then thinL ps else []) = TL at HRT HTH
      generalize errT (thinE ps) = evt at HTH HET
      generalize thinE ps = te at HRT HET
      have hia := refAddr_any x
      have HIA : Hid (isAddr x = isAddr x) := rfl
      clear hal own5 b5 b6 b56 c5 c6 cV hmbl HVP
      by_cases hax : isAddr x = true
      · have hov := fun W (h : TwoE w1 W tb mb s s) => h.rover HOK.out.1 HOK.out.2 x 32 (by rw [prefE_32, if_pos hax])
        rw [show (32 : Int).toNat = 32 from rfl] at hov
        rw [hax] at hia
        obtain ⟨OX, hOX⟩ : ∃ OX, ovL s.f x 32 = OX := ⟨_, rfl⟩
        rw [hOX] at hov
        unfold RList at hov
        have HOVX := hid hov
        have hlen : OX.length ≤ 33 := by rw [← hOX]; exact ovL_len _ _ _
        clear hov HIA
        rcases Nat.eq_zero_or_pos OX.length with hz | hz
        · as_aux_lemma =>
          have hzz : OX = [] := List.length_eq_zero_iff.1 hz
          subst hzz
          have hfe : findE s x = 5 := by unfold findE; rw [if_pos hax, if_pos hOX]
          have hfv : findV s x = zeroR := by unfold findV; rw [if_pos hax, hOX]; rfl
          have HFV : Hid (Finds s x = fun w e w' => e = .returned (.tuple #[.agg #[.int .i64 0, .int .i64 0, .int .i64 0], errT 5]) ∧ Below w.heap.size w w') := by
            unfold Hid Finds; rw [hfe, hfv]; rfl
          have HER := hid (fun W (h : ErrLaid W) => errT_same 5 W h)
          generalize errT 5 = ev at HFV HER
          clear hfe hfv hax hOX hz hlen
          have b7 := (Below.refl w6.heap.size w6).alloc (Nat.le_refl _) (.cells #[.int .i64 0, .int .i64 0, .int .i64 0] 34)
          have T7 : Hid (TT w w1 (w6.alloc (.cells #[.int .i64 0, .int .i64 0, .int .i64 0] 34)) B tb mb a l s _ ((w6.heap.size, zeroR) :: _)) := T0.out.pt zeroR
          clear b7
          go_upto_region 24 with (go_at_call 13; go_must (refine (hia _).mono ?_; rintro e w6 ⟨rfl, rfl⟩))
          generalize w6.alloc (.cells #[.int .i64 0, .int .i64 0, .int .i64 0] 34) = w7 at T7 ⊢
          generalize w6.heap.size = gw at T7 ⊢
          have kc := HOVX.out _ T7.out.two
          have kc := kc.mono (R' := fun e w' => ∃ a1 c1, e = .returned (.slice a1 0 c1) ∧ Below w7.heap.size w7 w') (fun e w' h => by
            obtain ⟨v1, rfl, own1, b1⟩ := h
            obtain ⟨a1, c1, rfl⟩ := own1.len
            exact ⟨a1, c1, rfl, b1⟩)
          clear HOVX hia
          go_upto_region 29 with (go_at_call 14; go_must (refine kc.mono ?_; rintro e w8 ⟨a8, c8, rfl, b8⟩))
          have T8 : Hid (TT w w1 w8 B tb mb a l s _ _) := T7.out.below b8
          obtain ⟨q, hq⟩ : ∃ q : Pr, zeroR = q := ⟨_, rfl⟩
          have hqa : (0 : Int) = q.a ∧ (0 : Int) = q.l ∧ (0 : Int) = q.v := by rw [← hq]; exact ⟨rfl, rfl, rfl⟩
          rw [show (Finds s x = fun w e w' => e = .returned (.tuple #[.agg #[.int .i64 0, .int .i64 0, .int .i64 0], ev]) ∧ Below w.heap.size w w') = (Finds s x = fun w e w' => e = .returned (.tuple #[.agg #[.int .i64 q.a, .int .i64 q.l, .int .i64 q.v], ev]) ∧ Below w.heap.size w w') by rw [← hqa.1, ← hqa.2.1, ← hqa.2.2]] at HFV
          rw [hq] at T8
          clear kc b8 T7 hq hqa
          have kc := T8.out.two.tfind x
          rw [HFV.out] at kc
          go_upto_region 30 with (go_at_call 15; go_must (refine kc.mono ?_; rintro e z1 ⟨rfl, bz1⟩))
          have S1 : Hid (TT w w1 (z1.alloc (.cells #[.int .i64 q.a, .int .i64 q.l, .int .i64 q.v] 34)) B tb mb a l s _ ((z1.heap.size, q) :: _)) := (T8.out.below bz1).pt q
          clear kc bz1 T8
          generalize z1.alloc (.cells #[.int .i64 q.a, .int .i64 q.l, .int .i64 q.v] 34) = z2 at S1 ⊢
          generalize z1.heap.size = gg at S1 ⊢
          have kc := HER.out _ S1.out.er
          go_upto_region 31 with (go_at_call 7; go_must (refine kc.mono ?_; rintro e z3 ⟨rfl, bz3⟩))
          have S3 : Hid (TT w w1 z3 B tb mb a l s _ _) := S1.out.below bz3
          clear kc  bz3 S1
          obtain ⟨p0, p1, _, _⟩ := S3.out.pair
          have kc := refPrefix_any a l z3
          go_upto_region 33 with (go_at_call 8; go_must (refine kc.mono ?_; rintro e z4 ⟨rfl, bz4⟩))
          have S4 : Hid (TT w w1 z4 B tb mb a l s _ _) := S3.out.below bz4
          clear kc  bz4 S3
          clear p0 p1
          by_cases hpe : prefE a l = 0
          · as_aux_lemma =>
            have HPE : Hid (prefE a l = 0) := hpe
            have HOV := hid (fun W (h : TwoE w1 W tb mb s s) => h.tover a l)
            have HUN := hid (fun W (h : TwoE w1 W tb mb s s) => h.tunder a l)
            unfold Overs at HOV
            unfold Unders at HUN
            simp only [hpe, if_pos] at HOV HUN
            rw [show errT 0 = .nilIface from rfl] at HOV HUN
            have HE0 := hid (fun W (h : ErrLaid W) => errT_same 0 W h)
            rw [show errT 0 = .nilIface from rfl] at HE0
            have HRO := hid (fun W (h : TwoE w1 W tb mb s s) => h.rover HOK.out.1 HOK.out.2 a l HPE.out)
            have HRU := hid (fun W (h : TwoE w1 W tb mb s s) => h.runder HOK.out.1 HOK.out.2 a l HPE.out)
            unfold RList at HRO HRU
            generalize ovL s.f a l.toNat = OV at HOV HRO
            generalize undV s a l = UN at HUN HRU
            rw [hpe]
            clear hpe
            obtain ⟨p0, p1, _, _⟩ := S4.out.pair
            have kc := HRO.out _ S4.out.two
            go_upto_region 35 with (go_at_call 14; go_must (refine kc.mono ?_; rintro e z5 ⟨v29, rfl, own29, bz5⟩))
            have S5 : Hid (TT w w1 z5 B tb mb a l s _ _) := S4.out.add bz5 own29.prs
            clear kc  bz5 S4 own29
            clear p0 p1
            obtain ⟨p0, p1, _, _⟩ := S5.out.pair
            have kc := HRU.out _ S5.out.two
            go_upto_region 36 with (go_at_call 16; go_must (refine kc.mono ?_; rintro e z6 ⟨v30, rfl, own30, bz6⟩))
            have S6 : Hid (TT w w1 z6 B tb mb a l s _ _) := S5.out.add bz6 own30.prs
            clear kc  bz6 S5 own30
            clear p0 p1
            obtain ⟨p0, p1, _, _⟩ := S6.out.pair
            have kc := HOV.out _ S6.out.two
            go_upto_region 37 with (go_at_call 17; go_must (refine kc.mono ?_; rintro e z7 ⟨v31, rfl, own31, bz7⟩))
            have S7 : Hid (TT w w1 z7 B tb mb a l s _ _) := S6.out.add bz7 own31.prs
            clear kc  bz7 S6 own31
            clear p0 p1
            have kc := HE0.out _ S7.out.er
            go_upto_region 38 with (go_at_call 7; go_must (refine kc.mono ?_; rintro e z8 ⟨rfl, bz8⟩))
            have S8 : Hid (TT w w1 z8 B tb mb a l s _ _) := S7.out.below bz8
            clear kc  bz8 S7
            obtain ⟨p0, p1, _, _⟩ := S8.out.pair
            have kc := HUN.out _ S8.out.two
            go_upto_region 39 with (go_at_call 18; go_must (refine kc.mono ?_; rintro e z9 ⟨v33, rfl, own33, bz9⟩))
            have S9 : Hid (TT w w1 z9 B tb mb a l s _ _) := S8.out.add bz9 own33.prs
            clear kc  bz9 S8 own33
            clear p0 p1
            have kc := HE0.out _ S9.out.er
            go_upto_region 40 with (go_at_call 7; go_must (refine kc.mono ?_; rintro e z10 ⟨rfl, bz10⟩))
            have S10 : Hid (TT w w1 z10 B tb mb a l s _ _) := S9.out.below bz10
            clear kc  bz10 S9
            have k0 : Hid (Prs z10 v31 OV) := S10.out.get (by simp)
            have k1 : Hid (Prs z10 v29 OV) := S10.out.get (by simp)
            have kc := samePrs v31 v29 OV _ k0.out k1.out
            go_upto_region 41 with (go_at_call 11; go_must (refine kc.mono ?_; rintro e z11 ⟨rfl, bz11⟩))
            have S11 : Hid (TT w w1 z11 B tb mb a l s _ _) := S10.out.below bz11
            clear kc k0 k1 bz11 S10
            have k0 : Hid (Prs z11 v33 UN) := S11.out.get (by simp)
            have k1 : Hid (Prs z11 v30 UN) := S11.out.get (by simp)
            have kc := samePrs v33 v30 UN _ k0.out k1.out
            go_upto_region 42 with (go_at_call 11; go_must (refine kc.mono ?_; rintro e z12 ⟨rfl, bz12⟩))
            have S12 : Hid (TT w w1 z12 B tb mb a l s _ _) := S11.out.below bz12
            clear kc k0 k1 bz12 S11
            have k0 : Hid (Prs z12 (.slice ao N co) ps) := S12.out.get (by simp)
            have kc := HRT.out _ k0.out
            go_upto_region 43 with (go_at_call 19; go_must (refine kc.mono ?_; rintro e z13 ⟨v37, rfl, s37, bz13⟩))
            have S13 : Hid (TT w w1 z13 B tb mb a l s _ _) := S12.out.add bz13 s37
            clear kc k0 bz13 S12 s37
            have k0 : Hid (Prs z13 (.slice ao N co) ps) := S13.out.get (by simp)
            have kc := HTH.out _ k0.out
            go_upto_region 44 with (go_at_call 20; go_must (refine kc.mono ?_; rintro e z14 ⟨v38, rfl, own38, bz14⟩))
            have S14 : Hid (TT w w1 z14 B tb mb a l s _ _) := S13.out.add bz14 own38.prs
            clear kc k0 bz14 S13 own38
            have kc := HET.out _ S14.out.er
            go_upto_region 45 with (go_at_call 7; go_must (refine kc.mono ?_; rintro e z15 ⟨rfl, bz15⟩))
            have S15 : Hid (TT w w1 z15 B tb mb a l s _ _) := S14.out.below bz15
            clear kc  bz15 S14
            have k0 : Hid (Prs z15 v38 TL) := S15.out.get (by simp)
            have k1 : Hid (Prs z15 v37 TL) := S15.out.get (by simp)
            have kc := samePrs v38 v37 TL _ k0.out k1.out
            go_upto_region 46 with (go_at_call 11; go_must (refine kc.mono ?_; rintro e z16 ⟨rfl, bz16⟩))
            have S16 : Hid (TT w w1 z16 B tb mb a l s _ _) := S15.out.below bz16
            clear kc k0 k1 bz16 S15
            have hgg : TriAt z16 gg q := S16.out.pt' (by simp)
            have hgw : TriAt z16 gw q := S16.out.pt' (by simp)
            obtain ⟨r0, r1, r2⟩ := hgg.cells
            obtain ⟨t0, t1, t2⟩ := hgw.cells
            have HBW : Hid (Below w.heap.size w z16) := S16.out.bel
            have hgd := Tryd.prGuard
            have heq := Tryd.prEql
            clear S16 hgg hgw
            go_wp2_with fail
            go_ret
            exact ⟨rfl, HBW.out⟩
          · as_aux_lemma =>
            have HOV := hid (fun W (h : TwoE w1 W tb mb s s) => h.tover a l)
            have HUN := hid (fun W (h : TwoE w1 W tb mb s s) => h.tunder a l)
            unfold Overs at HOV
            unfold Unders at HUN
            simp only [hpe, if_false] at HOV HUN
            have HE0 := hid (fun W (h : ErrLaid W) => errT_same (prefE a l) W h)
            generalize errT (prefE a l) = ev0 at HOV HUN HE0
            generalize prefE a l = pe at HE0 hpe ⊢
            have hpz : (pe == 0) = false := by simpa using hpe
            have S0' : Hid (TT w w1 z4 B tb mb a l s ((.slice none 0 0, []) :: _) _) := S4.out.ext (Prs.nil _)
            clear hpe S4
            go_upto_region 36 with fail
            obtain ⟨p0, p1, _, _⟩ := S0'.out.pair
            have kc := HOV.out _ S0'.out.two
            go_upto_region 37 with (go_at_call 17; go_must (refine kc.mono ?_; rintro e z5 ⟨v31, rfl, own31, bz5⟩))
            have S5 : Hid (TT w w1 z5 B tb mb a l s _ _) := S0'.out.add bz5 own31.prs
            clear kc  bz5 S0' own31
            clear p0 p1
            have kc := HE0.out _ S5.out.er
            go_upto_region 38 with (go_at_call 7; go_must (refine kc.mono ?_; rintro e z6 ⟨rfl, bz6⟩))
            have S6 : Hid (TT w w1 z6 B tb mb a l s _ _) := S5.out.below bz6
            clear kc  bz6 S5
            obtain ⟨p0, p1, _, _⟩ := S6.out.pair
            have kc := HUN.out _ S6.out.two
            go_upto_region 39 with (go_at_call 18; go_must (refine kc.mono ?_; rintro e z7 ⟨v33, rfl, own33, bz7⟩))
            have S7 : Hid (TT w w1 z7 B tb mb a l s _ _) := S6.out.add bz7 own33.prs
            clear kc  bz7 S6 own33
            clear p0 p1
            have kc := HE0.out _ S7.out.er
            go_upto_region 40 with (go_at_call 7; go_must (refine kc.mono ?_; rintro e z8 ⟨rfl, bz8⟩))
            have S8 : Hid (TT w w1 z8 B tb mb a l s _ _) := S7.out.below bz8
            clear kc  bz8 S7
            have k0 : Hid (Prs z8 v31 []) := S8.out.get (by simp)
            have k1 : Hid (Prs z8 (.slice none 0 0) []) := S8.out.get (by simp)
            have kc := samePrs v31 (.slice none 0 0) [] _ k0.out k1.out
            go_upto_region 41 with (go_at_call 11; go_must (refine kc.mono ?_; rintro e z9 ⟨rfl, bz9⟩))
            have S9 : Hid (TT w w1 z9 B tb mb a l s _ _) := S8.out.below bz9
            clear kc k0 k1 bz9 S8
            have k0 : Hid (Prs z9 v33 []) := S9.out.get (by simp)
            have k1 : Hid (Prs z9 (.slice none 0 0) []) := S9.out.get (by simp)
            have kc := samePrs v33 (.slice none 0 0) [] _ k0.out k1.out
            go_upto_region 42 with (go_at_call 11; go_must (refine kc.mono ?_; rintro e z10 ⟨rfl, bz10⟩))
            have S10 : Hid (TT w w1 z10 B tb mb a l s _ _) := S9.out.below bz10
            clear kc k0 k1 bz10 S9
            have k0 : Hid (Prs z10 (.slice ao N co) ps) := S10.out.get (by simp)
            have kc := HRT.out _ k0.out
            go_upto_region 43 with (go_at_call 19; go_must (refine kc.mono ?_; rintro e z11 ⟨v37, rfl, s37, bz11⟩))
            have S11 : Hid (TT w w1 z11 B tb mb a l s _ _) := S10.out.add bz11 s37
            clear kc k0 bz11 S10 s37
            have k0 : Hid (Prs z11 (.slice ao N co) ps) := S11.out.get (by simp)
            have kc := HTH.out _ k0.out
            go_upto_region 44 with (go_at_call 20; go_must (refine kc.mono ?_; rintro e z12 ⟨v38, rfl, own38, bz12⟩))
            have S12 : Hid (TT w w1 z12 B tb mb a l s _ _) := S11.out.add bz12 own38.prs
            clear kc k0 bz12 S11 own38
            have kc := HET.out _ S12.out.er
            go_upto_region 45 with (go_at_call 7; go_must (refine kc.mono ?_; rintro e z13 ⟨rfl, bz13⟩))
            have S13 : Hid (TT w w1 z13 B tb mb a l s _ _) := S12.out.below bz13
            clear kc  bz13 S12
            have k0 : Hid (Prs z13 v38 TL) := S13.out.get (by simp)
            have k1 : Hid (Prs z13 v37 TL) := S13.out.get (by simp)
            have kc := samePrs v38 v37 TL _ k0.out k1.out
            go_upto_region 46 with (go_at_call 11; go_must (refine kc.mono ?_; rintro e z14 ⟨rfl, bz14⟩))
            have S14 : Hid (TT w w1 z14 B tb mb a l s _ _) := S13.out.below bz14
            clear kc k0 k1 bz14 S13
            have hgg : TriAt z14 gg q := S14.out.pt' (by simp)
            have hgw : TriAt z14 gw q := S14.out.pt' (by simp)
            obtain ⟨r0, r1, r2⟩ := hgg.cells
            obtain ⟨t0, t1, t2⟩ := hgw.cells
            have HBW : Hid (Below w.heap.size w z14) := S14.out.bel
            have hgd := Tryd.prGuard
            have heq := Tryd.prEql
            clear S14 hgg hgw
            go_wp2_with fail
            go_ret
            exact ⟨rfl, HBW.out⟩
        · as_aux_lemma =>
          have hq0 : ∃ q, OX[OX.length - 1]'(by omega) = q := ⟨_, rfl⟩
          obtain ⟨q, hq⟩ := hq0
          have hfe : findE s x = 0 := by unfold findE; rw [if_pos hax, if_neg (by rw [hOX]; intro h; rw [h] at hz; simp at hz)]
          have hfv : findV s x = q := by
            unfold findV
            rw [if_pos hax, hOX, List.getLastD_eq_getLast?, List.getLast?_eq_getElem?, List.getElem?_eq_getElem (by omega), Option.getD_some, hq]
          have HFV : Hid (Finds s x = fun w e w' => e = .returned (.tuple #[.agg #[.int .i64 q.a, .int .i64 q.l, .int .i64 q.v], .nilIface]) ∧ Below w.heap.size w w') := by
            unfold Hid Finds; rw [hfe, hfv]; rfl
          have HER := hid (fun W (h : ErrLaid W) => errT_same 0 W h)
          rw [show errT 0 = .nilIface from rfl] at HER
          obtain ⟨M, hM⟩ : ∃ M, OX.length = M + 1 := ⟨OX.length - 1, by omega⟩
          clear hfe hfv hax hOX
          have T7 : Hid (TT w w1 (w6.alloc (.cells #[.int .i64 0, .int .i64 0, .int .i64 0] 34)) B tb mb a l s [(.slice ao N co, ps)] []) := T0.out.below ((Below.refl _ _).alloc (Nat.le_refl _) _)
          have HTZ : Hid (TriAt (w6.alloc (.cells #[.int .i64 0, .int .i64 0, .int .i64 0] 34)) w6.heap.size zeroR) := TriAt.new w6 zeroR
          have HB7 : Hid (Below w6.heap.size w6 (w6.alloc (.cells #[.int .i64 0, .int .i64 0, .int .i64 0] 34))) := (Below.refl _ _).alloc (Nat.le_refl _) _
          go_upto_region 24 with (go_at_call 13; go_must (refine (hia _).mono ?_; rintro e w6 ⟨rfl, rfl⟩))
          generalize w6.alloc (.cells #[.int .i64 0, .int .i64 0, .int .i64 0] 34) = w7 at T7 HTZ HB7 ⊢
          obtain ⟨gw, hgw⟩ : ∃ gw, w6.heap.size = gw := ⟨_, rfl⟩
          have HGW : Hid (w6.heap.size = gw) := hgw
          rw [hgw] at HTZ ⊢
          have kc := HOVX.out _ T7.out.two
          have kc := kc.mono (R' := fun e w' => ∃ g1 c1, e = .returned (.slice (some ⟨g1, 0, none⟩) (M + 1) c1) ∧ M < c1 ∧ c1 ≤ 9223372036854775807 ∧ (w'.cell? ⟨g1, M * 3, none⟩ = some (.int .i64 q.a) ∧ w'.cell? ⟨g1, M * 3 + 1, none⟩ = some (.int .i64 q.l) ∧ w'.cell? ⟨g1, M * 3 + 2, none⟩ = some (.int .i64 q.v)) ∧ Below w7.heap.size w7 w') (fun e w' h => by
            obtain ⟨v1, rfl, own1, b1⟩ := h
            obtain ⟨g1, c1, rfl, _, _, h3, h4⟩ := own1.shape hz
            have hc := own1.cells (OX.length - 1) (by omega)
            rw [hq] at hc
            rw [hM] at hc h3 ⊢
            unfold maxLen at h4
            exact ⟨g1, c1, rfl, by omega, by omega, hc, b1⟩)
          clear HOVX hia hq hz hgw
          go_upto_region 28 with (go_at_call 14; go_must (refine kc.mono ?_; rintro e w8 ⟨g8, c8, rfl, hc8, hc8', ⟨d0, d1, d2⟩, b8⟩))
          have hcz := HTZ.out.keep (b8.block _ HTZ.out.lt)
          obtain ⟨z0, z1, z2⟩ := hcz.cells
          have f0 := hcz.free 0
          have f1 := hcz.free 1
          have f2 := hcz.free 2
          obtain ⟨w9, hw9, hp9, on9⟩ := hcz.store q.a q.l q.v
          have HW9 : Hid (((w8.setCell ⟨gw, 0, none⟩ (.int .i64 q.a)).setCell ⟨gw, 1, none⟩ (.int .i64 q.l)).setCell ⟨gw, 2, none⟩ (.int .i64 q.v) = w9) := hw9
          have T8 : Hid (TT w w1 w9 B tb mb a l s [(.slice ao N co, ps)] [(gw, q)]) := by
            have hb9 : Below w6.heap.size w6 w9 := on9.below (by rw [HGW.out]; exact Nat.le_refl _) (HB7.out.trans (b8.mono HB7.out.size))
            exact (T0.out.below hb9).extp hp9
          simp only [zeroR] at z0 z1 z2
          have hMn : (0 : Int) ≤ (M : Int) := by omega
          clear kc b8 T7 hcz hp9 on9 hw9 hM hlen
          go_upto_region 29 with fail
          rw [HW9.out]
          clear z0 z1 z2 f0 f1 f2 d0 d1 d2 HW9 hc8 hc8' hMn HTZ HB7 HGW
          have kc := T8.out.two.tfind x
          rw [HFV.out] at kc
          go_upto_region 30 with (go_at_call 15; go_must (refine kc.mono ?_; rintro e z1 ⟨rfl, bz1⟩))
          have S1 : Hid (TT w w1 (z1.alloc (.cells #[.int .i64 q.a, .int .i64 q.l, .int .i64 q.v] 34)) B tb mb a l s _ ((z1.heap.size, q) :: _)) := (T8.out.below bz1).pt q
          clear kc bz1 T8
          generalize z1.alloc (.cells #[.int .i64 q.a, .int .i64 q.l, .int .i64 q.v] 34) = z2 at S1 ⊢
          generalize z1.heap.size = gg at S1 ⊢
          have kc := HER.out _ S1.out.er
          go_upto_region 31 with (go_at_call 7; go_must (refine kc.mono ?_; rintro e z3 ⟨rfl, bz3⟩))
          have S3 : Hid (TT w w1 z3 B tb mb a l s _ _) := S1.out.below bz3
          clear kc  bz3 S1
          obtain ⟨p0, p1, _, _⟩ := S3.out.pair
          have kc := refPrefix_any a l z3
          go_upto_region 33 with (go_at_call 8; go_must (refine kc.mono ?_; rintro e z4 ⟨rfl, bz4⟩))
          have S4 : Hid (TT w w1 z4 B tb mb a l s _ _) := S3.out.below bz4
          clear kc  bz4 S3
          clear p0 p1
          by_cases hpe : prefE a l = 0
          · as_aux_lemma =>
            have HPE : Hid (prefE a l = 0) := hpe
            have HOV := hid (fun W (h : TwoE w1 W tb mb s s) => h.tover a l)
            have HUN := hid (fun W (h : TwoE w1 W tb mb s s) => h.tunder a l)
            unfold Overs at HOV
            unfold Unders at HUN
            simp only [hpe, if_pos] at HOV HUN
            rw [show errT 0 = .nilIface from rfl] at HOV HUN
            have HE0 := hid (fun W (h : ErrLaid W) => errT_same 0 W h)
            rw [show errT 0 = .nilIface from rfl] at HE0
            have HRO := hid (fun W (h : TwoE w1 W tb mb s s) => h.rover HOK.out.1 HOK.out.2 a l HPE.out)
            have HRU := hid (fun W (h : TwoE w1 W tb mb s s) => h.runder HOK.out.1 HOK.out.2 a l HPE.out)
            unfold RList at HRO HRU
            generalize ovL s.f a l.toNat = OV at HOV HRO
            generalize undV s a l = UN at HUN HRU
            rw [hpe]
            clear hpe
            obtain ⟨p0, p1, _, _⟩ := S4.out.pair
            have kc := HRO.out _ S4.out.two
            go_upto_region 35 with (go_at_call 14; go_must (refine kc.mono ?_; rintro e z5 ⟨v29, rfl, own29, bz5⟩))
            have S5 : Hid (TT w w1 z5 B tb mb a l s _ _) := S4.out.add bz5 own29.prs
            clear kc  bz5 S4 own29
            clear p0 p1
            obtain ⟨p0, p1, _, _⟩ := S5.out.pair
            have kc := HRU.out _ S5.out.two
            go_upto_region 36 with (go_at_call 16; go_must (refine kc.mono ?_; rintro e z6 ⟨v30, rfl, own30, bz6⟩))
            have S6 : Hid (TT w w1 z6 B tb mb a l s _ _) := S5.out.add bz6 own30.prs
            clear kc  bz6 S5 own30
            clear p0 p1
            obtain ⟨p0, p1, _, _⟩ := S6.out.pair
            have kc := HOV.out _ S6.out.two
            go_upto_region 37 with (go_at_call 17; go_must (refine kc.mono ?_; rintro e z7 ⟨v31, rfl, own31, bz7⟩))
            have S7 : Hid (TT w w1 z7 B tb mb a l s _ _) := S6.out.add bz7 own31.prs
            clear kc  bz7 S6 own31
            clear p0 p1
            have kc := HE0.out _ S7.out.er
            go_upto_region 38 with (go_at_call 7; go_must (refine kc.mono ?_; rintro e z8 ⟨rfl, bz8⟩))
            have S8 : Hid (TT w w1 z8 B tb mb a l s _ _) := S7.out.below bz8
            clear kc  bz8 S7
            obtain ⟨p0, p1, _, _⟩ := S8.out.pair
            have kc := HUN.out _ S8.out.two
            go_upto_region 39 with (go_at_call 18; go_must (refine kc.mono ?_; rintro e z9 ⟨v33, rfl, own33, bz9⟩))
            have S9 : Hid (TT w w1 z9 B tb mb a l s _ _) := S8.out.add bz9 own33.prs
            clear kc  bz9 S8 own33
            clear p0 p1
            have kc := HE0.out _ S9.out.er
            go_upto_region 40 with (go_at_call 7; go_must (refine kc.mono ?_; rintro e z10 ⟨rfl, bz10⟩))
            have S10 : Hid (TT w w1 z10 B tb mb a l s _ _) := S9.out.below bz10
            clear kc  bz10 S9
            have k0 : Hid (Prs z10 v31 OV) := S10.out.get (by simp)
            have k1 : Hid (Prs z10 v29 OV) := S10.out.get (by simp)
            have kc := samePrs v31 v29 OV _ k0.out k1.out
            go_upto_region 41 with (go_at_call 11; go_must (refine kc.mono ?_; rintro e z11 ⟨rfl, bz11⟩))
            have S11 : Hid (TT w w1 z11 B tb mb a l s _ _) := S10.out.below bz11
            clear kc k0 k1 bz11 S10
            have k0 : Hid (Prs z11 v33 UN) := S11.out.get (by simp)
            have k1 : Hid (Prs z11 v30 UN) := S11.out.get (by simp)
            have kc := samePrs v33 v30 UN _ k0.out k1.out
            go_upto_region 42 with (go_at_call 11; go_must (refine kc.mono ?_; rintro e z12 ⟨rfl, bz12⟩))
            have S12 : Hid (TT w w1 z12 B tb mb a l s _ _) := S11.out.below bz12
            clear kc k0 k1 bz12 S11
            have k0 : Hid (Prs z12 (.slice ao N co) ps) := S12.out.get (by simp)
            have kc := HRT.out _ k0.out
            go_upto_region 43 with (go_at_call 19; go_must (refine kc.mono ?_; rintro e z13 ⟨v37, rfl, s37, bz13⟩))
            have S13 : Hid (TT w w1 z13 B tb mb a l s _ _) := S12.out.add bz13 s37
            clear kc k0 bz13 S12 s37
            have k0 : Hid (Prs z13 (.slice ao N co) ps) := S13.out.get (by simp)
            have kc := HTH.out _ k0.out
            go_upto_region 44 with (go_at_call 20; go_must (refine kc.mono ?_; rintro e z14 ⟨v38, rfl, own38, bz14⟩))
            have S14 : Hid (TT w w1 z14 B tb mb a l s _ _) := S13.out.add bz14 own38.prs
            clear kc k0 bz14 S13 own38
            have kc := HET.out _ S14.out.er
            go_upto_region 45 with (go_at_call 7; go_must (refine kc.mono ?_; rintro e z15 ⟨rfl, bz15⟩))
            have S15 : Hid (TT w w1 z15 B tb mb a l s _ _) := S14.out.below bz15
            clear kc  bz15 S14
            have k0 : Hid (Prs z15 v38 TL) := S15.out.get (by simp)
            have k1 : Hid (Prs z15 v37 TL) := S15.out.get (by simp)
            have kc := samePrs v38 v37 TL _ k0.out k1.out
            go_upto_region 46 with (go_at_call 11; go_must (refine kc.mono ?_; rintro e z16 ⟨rfl, bz16⟩))
            have S16 : Hid (TT w w1 z16 B tb mb a l s _ _) := S15.out.below bz16
            clear kc k0 k1 bz16 S15
            have hgg : TriAt z16 gg q := S16.out.pt' (by simp)
            have hgw : TriAt z16 gw q := S16.out.pt' (by simp)
            obtain ⟨r0, r1, r2⟩ := hgg.cells
            obtain ⟨t0, t1, t2⟩ := hgw.cells
            have HBW : Hid (Below w.heap.size w z16) := S16.out.bel
            have hgd := Tryd.prGuard
            have heq := Tryd.prEql
            clear S16 hgg hgw
            go_wp2_with fail
            go_ret
            exact ⟨rfl, HBW.out⟩
          · as_aux_lemma =>
            have HOV := hid (fun W (h : TwoE w1 W tb mb s s) => h.tover a l)
            have HUN := hid (fun W (h : TwoE w1 W tb mb s s) => h.tunder a l)
            unfold Overs at HOV
            unfold Unders at HUN
            simp only [hpe, if_false] at HOV HUN
            have HE0 := hid (fun W (h : ErrLaid W) => errT_same (prefE a l) W h)
            generalize errT (prefE a l) = ev0 at HOV HUN HE0
            generalize prefE a l = pe at HE0 hpe ⊢
            have hpz : (pe == 0) = false := by simpa using hpe
            have S0' : Hid (TT w w1 z4 B tb mb a l s ((.slice none 0 0, []) :: _) _) := S4.out.ext (Prs.nil _)
            clear hpe S4
            go_upto_region 36 with fail
            obtain ⟨p0, p1, _, _⟩ := S0'.out.pair
            have kc := HOV.out _ S0'.out.two
            go_upto_region 37 with (go_at_call 17; go_must (refine kc.mono ?_; rintro e z5 ⟨v31, rfl, own31, bz5⟩))
            have S5 : Hid (TT w w1 z5 B tb mb a l s _ _) := S0'.out.add bz5 own31.prs
            clear kc  bz5 S0' own31
            clear p0 p1
            have kc := HE0.out _ S5.out.er
            go_upto_region 38 with (go_at_call 7; go_must (refine kc.mono ?_; rintro e z6 ⟨rfl, bz6⟩))
            have S6 : Hid (TT w w1 z6 B tb mb a l s _ _) := S5.out.below bz6
            clear kc  bz6 S5
            obtain ⟨p0, p1, _, _⟩ := S6.out.pair
            have kc := HUN.out _ S6.out.two
            go_upto_region 39 with (go_at_call 18; go_must (refine kc.mono ?_; rintro e z7 ⟨v33, rfl, own33, bz7⟩))
            have S7 : Hid (TT w w1 z7 B tb mb a l s _ _) := S6.out.add bz7 own33.prs
            clear kc  bz7 S6 own33
            clear p0 p1
            have kc := HE0.out _ S7.out.er
            go_upto_region 40 with (go_at_call 7; go_must (refine kc.mono ?_; rintro e z8 ⟨rfl, bz8⟩))
            have S8 : Hid (TT w w1 z8 B tb mb a l s _ _) := S7.out.below bz8
            clear kc  bz8 S7
            have k0 : Hid (Prs z8 v31 []) := S8.out.get (by simp)
            have k1 : Hid (Prs z8 (.slice none 0 0) []) := S8.out.get (by simp)
            have kc := samePrs v31 (.slice none 0 0) [] _ k0.out k1.out
            go_upto_region 41 with (go_at_call 11; go_must (refine kc.mono ?_; rintro e z9 ⟨rfl, bz9⟩))
            have S9 : Hid (TT w w1 z9 B tb mb a l s _ _) := S8.out.below bz9
            clear kc k0 k1 bz9 S8
            have k0 : Hid (Prs z9 v33 []) := S9.out.get (by simp)
            have k1 : Hid (Prs z9 (.slice none 0 0) []) := S9.out.get (by simp)
            have kc := samePrs v33 (.slice none 0 0) [] _ k0.out k1.out
            go_upto_region 42 with (go_at_call 11; go_must (refine kc.mono ?_; rintro e z10 ⟨rfl, bz10⟩))
            have S10 : Hid (TT w w1 z10 B tb mb a l s _ _) := S9.out.below bz10
            clear kc k0 k1 bz10 S9
            have k0 : Hid (Prs z10 (.slice ao N co) ps) := S10.out.get (by simp)
            have kc := HRT.out _ k0.out
            go_upto_region 43 with (go_at_call 19; go_must (refine kc.mono ?_; rintro e z11 ⟨v37, rfl, s37, bz11⟩))
            have S11 : Hid (TT w w1 z11 B tb mb a l s _ _) := S10.out.add bz11 s37
            clear kc k0 bz11 S10 s37
            have k0 : Hid (Prs z11 (.slice ao N co) ps) := S11.out.get (by simp)
            have kc := HTH.out _ k0.out
            go_upto_region 44 with (go_at_call 20; go_must (refine kc.mono ?_; rintro e z12 ⟨v38, rfl, own38, bz12⟩))
            have S12 : Hid (TT w w1 z12 B tb mb a l s _ _) := S11.out.add bz12 own38.prs
            clear kc k0 bz12 S11 own38
            have kc := HET.out _ S12.out.er
            go_upto_region 45 with (go_at_call 7; go_must (refine kc.mono ?_; rintro e z13 ⟨rfl, bz13⟩))
            have S13 : Hid (TT w w1 z13 B tb mb a l s _ _) := S12.out.below bz13
            clear kc  bz13 S12
            have k0 : Hid (Prs z13 v38 TL) := S13.out.get (by simp)
            have k1 : Hid (Prs z13 v37 TL) := S13.out.get (by simp)
            have kc := samePrs v38 v37 TL _ k0.out k1.out
            go_upto_region 46 with (go_at_call 11; go_must (refine kc.mono ?_; rintro e z14 ⟨rfl, bz14⟩))
            have S14 : Hid (TT w w1 z14 B tb mb a l s _ _) := S13.out.below bz14
            clear kc k0 k1 bz14 S13
            have hgg : TriAt z14 gg q := S14.out.pt' (by simp)
            have hgw : TriAt z14 gw q := S14.out.pt' (by simp)
            obtain ⟨r0, r1, r2⟩ := hgg.cells
            obtain ⟨t0, t1, t2⟩ := hgw.cells
            have HBW : Hid (Below w.heap.size w z14) := S14.out.bel
            have hgd := Tryd.prGuard
            have heq := Tryd.prEql
            clear S14 hgg hgw
            go_wp2_with fail
            go_ret
            exact ⟨rfl, HBW.out⟩
      · as_aux_lemma =>
        have hax' : isAddr x = false := by simpa using hax
        rw [hax'] at hia
        have hfe : findE s x = 1 := by unfold findE; rw [if_neg hax]
        have hfv : findV s x = zeroR := by unfold findV; rw [if_neg hax]
        have HFV : Hid (Finds s x = fun w e w' => e = .returned (.tuple #[.agg #[.int .i64 0, .int .i64 0, .int .i64 0], errT 1]) ∧ Below w.heap.size w w') := by
          unfold Hid Finds; rw [hfe, hfv]; rfl
        have HER := hid (fun W (h : ErrLaid W) => errT_same 1 W h)
        generalize errT 1 = ev at HFV HER
        clear hfe hfv hax hax' HIA
        have T7 : Hid (TT w w1 (w6.alloc (.cells #[.int .i64 0, .int .i64 0, .int .i64 0] 34)) B tb mb a l s _ ((w6.heap.size, zeroR) :: _)) := T0.out.pt zeroR
        go_upto_region 29 with (go_at_call 13; go_must (refine (hia _).mono ?_; rintro e w6 ⟨rfl, rfl⟩))
        generalize w6.alloc (.cells #[.int .i64 0, .int .i64 0, .int .i64 0] 34) = w7 at T7 ⊢
        generalize w6.heap.size = gw at T7 ⊢
        obtain ⟨q, hq⟩ : ∃ q : Pr, zeroR = q := ⟨_, rfl⟩
        have hqa : (0 : Int) = q.a ∧ (0 : Int) = q.l ∧ (0 : Int) = q.v := by rw [← hq]; exact ⟨rfl, rfl, rfl⟩
        rw [show (Finds s x = fun w e w' => e = .returned (.tuple #[.agg #[.int .i64 0, .int .i64 0, .int .i64 0], ev]) ∧ Below w.heap.size w w') = (Finds s x = fun w e w' => e = .returned (.tuple #[.agg #[.int .i64 q.a, .int .i64 q.l, .int .i64 q.v], ev]) ∧ Below w.heap.size w w') by rw [← hqa.1, ← hqa.2.1, ← hqa.2.2]] at HFV
        rw [hq] at T7
        clear hq hqa hia
        have kc := T7.out.two.tfind x
        rw [HFV.out] at kc
        go_upto_region 30 with (go_at_call 15; go_must (refine kc.mono ?_; rintro e z1 ⟨rfl, bz1⟩))
        have S1 : Hid (TT w w1 (z1.alloc (.cells #[.int .i64 q.a, .int .i64 q.l, .int .i64 q.v] 34)) B tb mb a l s _ ((z1.heap.size, q) :: _)) := (T7.out.below bz1).pt q
        clear kc bz1 T7
        generalize z1.alloc (.cells #[.int .i64 q.a, .int .i64 q.l, .int .i64 q.v] 34) = z2 at S1 ⊢
        generalize z1.heap.size = gg at S1 ⊢
        have kc := HER.out _ S1.out.er
        go_upto_region 31 with (go_at_call 7; go_must (refine kc.mono ?_; rintro e z3 ⟨rfl, bz3⟩))
        have S3 : Hid (TT w w1 z3 B tb mb a l s _ _) := S1.out.below bz3
        clear kc  bz3 S1
        obtain ⟨p0, p1, _, _⟩ := S3.out.pair
        have kc := refPrefix_any a l z3
        go_upto_region 33 with (go_at_call 8; go_must (refine kc.mono ?_; rintro e z4 ⟨rfl, bz4⟩))
        have S4 : Hid (TT w w1 z4 B tb mb a l s _ _) := S3.out.below bz4
        clear kc  bz4 S3
        clear p0 p1
        by_cases hpe : prefE a l = 0
        · as_aux_lemma =>
          have HPE : Hid (prefE a l = 0) := hpe
          have HOV := hid (fun W (h : TwoE w1 W tb mb s s) => h.tover a l)
          have HUN := hid (fun W (h : TwoE w1 W tb mb s s) => h.tunder a l)
          unfold Overs at HOV
          unfold Unders at HUN
          simp only [hpe, if_pos] at HOV HUN
          rw [show errT 0 = .nilIface from rfl] at HOV HUN
          have HE0 := hid (fun W (h : ErrLaid W) => errT_same 0 W h)
          rw [show errT 0 = .nilIface from rfl] at HE0
          have HRO := hid (fun W (h : TwoE w1 W tb mb s s) => h.rover HOK.out.1 HOK.out.2 a l HPE.out)
          have HRU := hid (fun W (h : TwoE w1 W tb mb s s) => h.runder HOK.out.1 HOK.out.2 a l HPE.out)
          unfold RList at HRO HRU
          generalize ovL s.f a l.toNat = OV at HOV HRO
          generalize undV s a l = UN at HUN HRU
          rw [hpe]
          clear hpe
          obtain ⟨p0, p1, _, _⟩ := S4.out.pair
          have kc := HRO.out _ S4.out.two
          go_upto_region 35 with (go_at_call 14; go_must (refine kc.mono ?_; rintro e z5 ⟨v29, rfl, own29, bz5⟩))
          have S5 : Hid (TT w w1 z5 B tb mb a l s _ _) := S4.out.add bz5 own29.prs
          clear kc  bz5 S4 own29
          clear p0 p1
          obtain ⟨p0, p1, _, _⟩ := S5.out.pair
          have kc := HRU.out _ S5.out.two
          go_upto_region 36 with (go_at_call 16; go_must (refine kc.mono ?_; rintro e z6 ⟨v30, rfl, own30, bz6⟩))
          have S6 : Hid (TT w w1 z6 B tb mb a l s _ _) := S5.out.add bz6 own30.prs
          clear kc  bz6 S5 own30
          clear p0 p1
          obtain ⟨p0, p1, _, _⟩ := S6.out.pair
          have kc := HOV.out _ S6.out.two
          go_upto_region 37 with (go_at_call 17; go_must (refine kc.mono ?_; rintro e z7 ⟨v31, rfl, own31, bz7⟩))
          have S7 : Hid (TT w w1 z7 B tb mb a l s _ _) := S6.out.add bz7 own31.prs
          clear kc  bz7 S6 own31
          clear p0 p1
          have kc := HE0.out _ S7.out.er
          go_upto_region 38 with (go_at_call 7; go_must (refine kc.mono ?_; rintro e z8 ⟨rfl, bz8⟩))
          have S8 : Hid (TT w w1 z8 B tb mb a l s _ _) := S7.out.below bz8
          clear kc  bz8 S7
          obtain ⟨p0, p1, _, _⟩ := S8.out.pair
          have kc := HUN.out _ S8.out.two
          go_upto_region 39 with (go_at_call 18; go_must (refine kc.mono ?_; rintro e z9 ⟨v33, rfl, own33, bz9⟩))
          have S9 : Hid (TT w w1 z9 B tb mb a l s _ _) := S8.out.add bz9 own33.prs
          clear kc  bz9 S8 own33
          clear p0 p1
          have kc := HE0.out _ S9.out.er
          go_upto_region 40 with (go_at_call 7; go_must (refine kc.mono ?_; rintro e z10 ⟨rfl, bz10⟩))
          have S10 : Hid (TT w w1 z10 B tb mb a l s _ _) := S9.out.below bz10
          clear kc  bz10 S9
          have k0 : Hid (Prs z10 v31 OV) := S10.out.get (by simp)
          have k1 : Hid (Prs z10 v29 OV) := S10.out.get (by simp)
          have kc := samePrs v31 v29 OV _ k0.out k1.out
          go_upto_region 41 with (go_at_call 11; go_must (refine kc.mono ?_; rintro e z11 ⟨rfl, bz11⟩))
          have S11 : Hid (TT w w1 z11 B tb mb a l s _ _) := S10.out.below bz11
          clear kc k0 k1 bz11 S10
          have k0 : Hid (Prs z11 v33 UN) := S11.out.get (by simp)
          have k1 : Hid (Prs z11 v30 UN) := S11.out.get (by simp)
          have kc := samePrs v33 v30 UN _ k0.out k1.out
          go_upto_region 42 with (go_at_call 11; go_must (refine kc.mono ?_; rintro e z12 ⟨rfl, bz12⟩))
          have S12 : Hid (TT w w1 z12 B tb mb a l s _ _) := S11.out.below bz12
          clear kc k0 k1 bz12 S11
          have k0 : Hid (Prs z12 (.slice ao N co) ps) := S12.out.get (by simp)
          have kc := HRT.out _ k0.out
          go_upto_region 43 with (go_at_call 19; go_must (refine kc.mono ?_; rintro e z13 ⟨v37, rfl, s37, bz13⟩))
          have S13 : Hid (TT w w1 z13 B tb mb a l s _ _) := S12.out.add bz13 s37
          clear kc k0 bz13 S12 s37
          have k0 : Hid (Prs z13 (.slice ao N co) ps) := S13.out.get (by simp)
          have kc := HTH.out _ k0.out
          go_upto_region 44 with (go_at_call 20; go_must (refine kc.mono ?_; rintro e z14 ⟨v38, rfl, own38, bz14⟩))
          have S14 : Hid (TT w w1 z14 B tb mb a l s _ _) := S13.out.add bz14 own38.prs
          clear kc k0 bz14 S13 own38
          have kc := HET.out _ S14.out.er
          go_upto_region 45 with (go_at_call 7; go_must (refine kc.mono ?_; rintro e z15 ⟨rfl, bz15⟩))
          have S15 : Hid (TT w w1 z15 B tb mb a l s _ _) := S14.out.below bz15
          clear kc  bz15 S14
          have k0 : Hid (Prs z15 v38 TL) := S15.out.get (by simp)
          have k1 : Hid (Prs z15 v37 TL) := S15.out.get (by simp)
          have kc := samePrs v38 v37 TL _ k0.out k1.out
          go_upto_region 46 with (go_at_call 11; go_must (refine kc.mono ?_; rintro e z16 ⟨rfl, bz16⟩))
          have S16 : Hid (TT w w1 z16 B tb mb a l s _ _) := S15.out.below bz16
          clear kc k0 k1 bz16 S15
          have hgg : TriAt z16 gg q := S16.out.pt' (by simp)
          have hgw : TriAt z16 gw q := S16.out.pt' (by simp)
          obtain ⟨r0, r1, r2⟩ := hgg.cells
          obtain ⟨t0, t1, t2⟩ := hgw.cells
          have HBW : Hid (Below w.heap.size w z16) := S16.out.bel
          have hgd := Tryd.prGuard
          have heq := Tryd.prEql
          clear S16 hgg hgw
          go_wp2_with fail
          go_ret
          exact ⟨rfl, HBW.out⟩
        · as_aux_lemma =>
          have HOV := hid (fun W (h : TwoE w1 W tb mb s s) => h.tover a l)
          have HUN := hid (fun W (h : TwoE w1 W tb mb s s) => h.tunder a l)
          unfold Overs at HOV
          unfold Unders at HUN
          simp only [hpe, if_false] at HOV HUN
          have HE0 := hid (fun W (h : ErrLaid W) => errT_same (prefE a l) W h)
          generalize errT (prefE a l) = ev0 at HOV HUN HE0
          generalize prefE a l = pe at HE0 hpe ⊢
          have hpz : (pe == 0) = false := by simpa using hpe
          have S0' : Hid (TT w w1 z4 B tb mb a l s ((.slice none 0 0, []) :: _) _) := S4.out.ext (Prs.nil _)
          clear hpe S4
          go_upto_region 36 with fail
          obtain ⟨p0, p1, _, _⟩ := S0'.out.pair
          have kc := HOV.out _ S0'.out.two
          go_upto_region 37 with (go_at_call 17; go_must (refine kc.mono ?_; rintro e z5 ⟨v31, rfl, own31, bz5⟩))
          have S5 : Hid (TT w w1 z5 B tb mb a l s _ _) := S0'.out.add bz5 own31.prs
          clear kc  bz5 S0' own31
          clear p0 p1
          have kc := HE0.out _ S5.out.er
          go_upto_region 38 with (go_at_call 7; go_must (refine kc.mono ?_; rintro e z6 ⟨rfl, bz6⟩))
          have S6 : Hid (TT w w1 z6 B tb mb a l s _ _) := S5.out.below bz6
          clear kc  bz6 S5
          obtain ⟨p0, p1, _, _⟩ := S6.out.pair
          have kc := HUN.out _ S6.out.two
          go_upto_region 39 with (go_at_call 18; go_must (refine kc.mono ?_; rintro e z7 ⟨v33, rfl, own33, bz7⟩))
          have S7 : Hid (TT w w1 z7 B tb mb a l s _ _) := S6.out.add bz7 own33.prs
          clear kc  bz7 S6 own33
          clear p0 p1
          have kc := HE0.out _ S7.out.er
          go_upto_region 40 with (go_at_call 7; go_must (refine kc.mono ?_; rintro e z8 ⟨rfl, bz8⟩))
          have S8 : Hid (TT w w1 z8 B tb mb a l s _ _) := S7.out.below bz8
          clear kc  bz8 S7
          have k0 : Hid (Prs z8 v31 []) := S8.out.get (by simp)
          have k1 : Hid (Prs z8 (.slice none 0 0) []) := S8.out.get (by simp)
          have kc := samePrs v31 (.slice none 0 0) [] _ k0.out k1.out
          go_upto_region 41 with (go_at_call 11; go_must (refine kc.mono ?_; rintro e z9 ⟨rfl, bz9⟩))
          have S9 : Hid (TT w w1 z9 B tb mb a l s _ _) := S8.out.below bz9
          clear kc k0 k1 bz9 S8
          have k0 : Hid (Prs z9 v33 []) := S9.out.get (by simp)
          have k1 : Hid (Prs z9 (.slice none 0 0) []) := S9.out.get (by simp)
          have kc := samePrs v33 (.slice none 0 0) [] _ k0.out k1.out
          go_upto_region 42 with (go_at_call 11; go_must (refine kc.mono ?_; rintro e z10 ⟨rfl, bz10⟩))
          have S10 : Hid (TT w w1 z10 B tb mb a l s _ _) := S9.out.below bz10
          clear kc k0 k1 bz10 S9
          have k0 : Hid (Prs z10 (.slice ao N co) ps) := S10.out.get (by simp)
          have kc := HRT.out _ k0.out
          go_upto_region 43 with (go_at_call 19; go_must (refine kc.mono ?_; rintro e z11 ⟨v37, rfl, s37, bz11⟩))
          have S11 : Hid (TT w w1 z11 B tb mb a l s _ _) := S10.out.add bz11 s37
          clear kc k0 bz11 S10 s37
          have k0 : Hid (Prs z11 (.slice ao N co) ps) := S11.out.get (by simp)
          have kc := HTH.out _ k0.out
          go_upto_region 44 with (go_at_call 20; go_must (refine kc.mono ?_; rintro e z12 ⟨v38, rfl, own38, bz12⟩))
          have S12 : Hid (TT w w1 z12 B tb mb a l s _ _) := S11.out.add bz12 own38.prs
          clear kc k0 bz12 S11 own38
          have kc := HET.out _ S12.out.er
          go_upto_region 45 with (go_at_call 7; go_must (refine kc.mono ?_; rintro e z13 ⟨rfl, bz13⟩))
          have S13 : Hid (TT w w1 z13 B tb mb a l s _ _) := S12.out.below bz13
          clear kc  bz13 S12
          have k0 : Hid (Prs z13 v38 TL) := S13.out.get (by simp)
          have k1 : Hid (Prs z13 v37 TL) := S13.out.get (by simp)
          have kc := samePrs v38 v37 TL _ k0.out k1.out
          go_upto_region 46 with (go_at_call 11; go_must (refine kc.mono ?_; rintro e z14 ⟨rfl, bz14⟩))
          have S14 : Hid (TT w w1 z14 B tb mb a l s _ _) := S13.out.below bz14
          clear kc k0 k1 bz14 S13
          have hgg : TriAt z14 gg q := S14.out.pt' (by simp)
          have hgw : TriAt z14 gw q := S14.out.pt' (by simp)
          obtain ⟨r0, r1, r2⟩ := hgg.cells
          obtain ⟨t0, t1, t2⟩ := hgw.cells
          have HBW : Hid (Below w.heap.size w z14) := S14.out.bel
          have hgd := Tryd.prGuard
          have heq := Tryd.prEql
          clear S14 hgg hgw
          go_wp2_with fail
          go_ret
          exact ⟨rfl, HBW.out⟩
end Go.Proofs.YtdpnmhfhjcebbaaDoor
