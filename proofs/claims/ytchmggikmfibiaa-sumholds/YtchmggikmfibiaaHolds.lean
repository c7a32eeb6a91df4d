/- The law SumHolds of package portlaw1 returns true, for every bytes, every place, byte and two numbers; the walk of its text. -/
import Derived.Test.YtchmggikmfibiaaOwn
import Derived.Test.YtchmggikmfibiaaUpd
import Derived.Test.YtchmggikmfibiaaNorm
import Derived.Deep.DeepCutAuto
import Derived.Outline
namespace Go.Proofs.Ytchmggikmfibiaa
open Go.RowKit
set_option linter.unusedVariables false

theorem own_lit (w : World) (base : Nat) (hb : base ≤ w.heap.size) (zs : List Int) (h : ∀ x ∈ zs, 0 ≤ x ∧ x ≤ 255) (hm : zs.length ≤ maxLen) :
    OwnB (w.alloc (.cells (zs.map (Value.int .u8)).toArray 5)) base (.slice (some ⟨w.heap.size, 0, none⟩) zs.length zs.length) zs :=
  ⟨World.ownsRow_lit w (zs.map (Value.int .u8)).toArray zs.length hb hm (by simp), h⟩

theorem bytes_len {w : World} {a : Option Addr} {l c : Nat} {zs : List Int} (h : Bytes w (.slice a l c) zs) : l = zs.length := by
  rcases h with ⟨rfl, a', c', h, _⟩ | ⟨b, off, len, cap, h, _, _, _, h5, _⟩
  · simp only [Value.slice.injEq] at h; simp [h.2.1]
  · simp only [Value.slice.injEq] at h; rw [h.2.1, h5]
def swapB (len : Nat) (i k : Int) : Bool := decide (len % 2 = 0 ∧ 0 ≤ i ∧ 0 ≤ k ∧ 2 * i + 1 < (len : Int) ∧ 2 * k + 1 < (len : Int) ∧ i < 4000 ∧ k < 4000)

theorem sw_yes {bl : Nat} {i k : Int} (h1 : (bl : Int) % 2 = 0) (h2 : 0 ≤ i) (h3 : 0 ≤ k) (h4 : wrap64 (wrap64 (2 * i) + 1) < (bl : Int)) (h5 : wrap64 (wrap64 (2 * k) + 1) < (bl : Int)) (h6 : i < 4000) :
    Value.bool (decide (k < 4000)) = .bool (swapB bl i k) := by
  congr 1; unfold swapB; unfold wrap64 at *; rw [decide_eq_decide]; omega
theorem sw_no {bl : Nat} {i k : Int} (h : ¬ (bl % 2 = 0 ∧ 0 ≤ i ∧ 0 ≤ k ∧ 2 * i + 1 < (bl : Int) ∧ 2 * k + 1 < (bl : Int) ∧ i < 4000 ∧ k < 4000)) : Value.bool false = .bool (swapB bl i k) := by
  congr 1; unfold swapB; exact (decide_eq_false h).symm
theorem sw_noi {bl : Nat} {i k : Int} (h2 : 0 ≤ i) (h : (bl : Int) ≤ wrap64 (wrap64 (2 * i) + 1)) : Value.bool false = .bool (swapB bl i k) :=
  sw_no (by unfold wrap64 at h; omega)
theorem sw_nok {bl : Nat} {i k : Int} (h2 : 0 ≤ k) (h : (bl : Int) ≤ wrap64 (wrap64 (2 * k) + 1)) : Value.bool false = .bool (swapB bl i k) :=
  sw_no (by unfold wrap64 at h; omega)

set_option maxRecDepth 100000 in
set_option maxHeartbeats 4000000 in
theorem holds_any (a : Option Addr) (bl bc : Nat) (bs : List Int) (pl tb i k : Int) (w : World) (hv : Bytes w (.slice a bl bc) bs) (hl : bs.length ≤ 140737488351232) (hto : 0 ≤ tb ∧ tb ≤ 255)
    (h1 : -9223372036854775808 ≤ pl ∧ pl ≤ 9223372036854775807) (h3 : -9223372036854775808 ≤ i ∧ i ≤ 9223372036854775807) (h4 : -9223372036854775808 ≤ k ∧ k ≤ 9223372036854775807) :
    Calls Try.prog 4 #[.slice a bl bc, .int .i64 pl, .int .u8 tb, .int .i64 i, .int .i64 k] w fun e w' => e = .returned (.bool true) ∧ Below w.heap.size w w' := by
  have hbl := bytes_len hv
  have hbl1 : bl ≤ bs.length := by omega
  have hbl2 : bs.length ≤ bl := by omega
  clear hbl
  go_enter Try.func4, Try.ntmps4
  go_wp2_with fail
  have o1 := own_lit w w.heap.size (Nat.le_refl _) [1, 2] (by simp) (by decide)
  refine (sum_same (o1.bytes (by decide))).mono ?_
  rintro e wa ⟨rfl, hwa⟩
  have ba : Below w.heap.size w wa := below_same ((Below.refl _ _).alloc (Nat.le_refl _) _) hwa
  have ht : tot 0 [1, 2] = 258 := by decide
  clear hwa o1
  go_wp2_with fail
  have o2 := own_lit wa w.heap.size ba.size [255, 255] (by simp) (by decide)
  refine (valid_same (o2.bytes (by decide))).mono ?_
  rintro e wb ⟨rfl, hwb⟩
  have bb : Below w.heap.size w wb := below_same (ba.alloc ba.size _) hwb
  have ht2 : (tot 0 [255, 255] == 65535) = true := by decide
  clear hwb o2
  have o3 := (own_lit wb w.heap.size bb.size [0] (by simp) (by decide)).bytes (by decide)
  have s3 : w.heap.size ≤ (wb.alloc (.cells #[.int .u8 0] 5)).heap.size := by have := bb.size; simp; omega
  go_upto_region 6 with (at_builtin; refine wpList_append_bytes rfl (.tmp 29) (.tmp 30) rfl w.heap.size _ [] rfl (OwnB.nil _ _) _ [0] rfl o3 (by decide) s3 ?_; intro v1 w1 own1 grow1)
  have e1 : Below w.heap.size w w1 := (bb.alloc bb.size _).grown grow1 s3 (fun k hk => by cases hk)
  clear o3 s3 grow1 bb ba ht ht2
  have o4 := (own_lit w1 w.heap.size e1.size [0] (by simp) (by decide)).bytes (by decide)
  have s4 : w.heap.size ≤ (w1.alloc (.cells #[.int .u8 0] 5)).heap.size := by have := e1.size; simp; omega
  go_upto_region 7 with (at_builtin; refine wpList_append_bytes rfl (.tmp 32) (.tmp 33) rfl w.heap.size _ _ rfl (own1.alloc _) _ [0] rfl o4 (by decide) s4 ?_; intro v2 w2 own2 grow2)
  have e2 : Below w.heap.size w w2 := (e1.alloc e1.size _).grown grow2 s4 (fun k hk => (own1.1.lt k hk).1)
  clear o4 s4 grow2 e1 own1
  have hv2 := hv.below (Nat.le_refl _) e2
  have hl2 : ([] ++ [0] ++ [0] : List Int).length + bs.length ≤ 140737488355328 := by simp; omega
  go_upto_region 8 with (at_builtin; refine wpList_append_bytes rfl (.tmp 35) (.tmp 36) rfl w.heap.size _ _ rfl own2 _ bs rfl hv2 hl2 e2.size ?_; intro v3 w3 own3 grow3)
  have e3 : Below w.heap.size w w3 := e2.grown grow3 e2.size (fun k hk => (own2.1.lt k hk).1)
  clear grow3 e2 own2 hv2 hl2
  have hx0 : ([] ++ [0] ++ [0] ++ bs : List Int) = 0 :: 0 :: bs := by simp
  rw [hx0] at own3
  clear hx0
  obtain ⟨g, cap, hv3, hg0, hg1, hlc, hcm⟩ := own3.shape (by simp)
  subst hv3
  obtain ⟨len, hlen⟩ : ∃ len, len = (0 :: 0 :: bs).length := ⟨_, rfl⟩
  rw [← hlen] at own3 hlc ⊢
  have hlenA : bs.length + 2 ≤ len := by rw [hlen]; simp
  have hlenB : len ≤ bs.length + 2 := by rw [hlen]; simp
  have hby : ∀ x ∈ bs, 0 ≤ x ∧ x ≤ 255 := hv.byte
  have hw0 : 0 ≤ wsum bs := wsum_nonneg bs hby
  have ht0 : tot 0 (0 :: 0 :: bs) = norm (wsum bs) := by
    rw [tot_norm _ 0 own3.2 (by omega) (by omega)]; congr 1; simp only [wsum]; omega
  obtain ⟨n, hn⟩ : ∃ n, n = 65535 - norm (wsum bs) := ⟨_, rfl⟩
  obtain ⟨hn0, hn1⟩ : 0 ≤ n ∧ n ≤ 65535 := by rw [hn]; exact sum_range hw0
  have hsum := sum_same (own3.bytes (by simp; omega))
  rw [ht0, ← hn] at hsum
  have HN : Hid (n = 65535 - norm (wsum bs)) := hn
  have HL : Hid (len = (0 :: 0 :: bs).length) := hlen
  clear hn ht0 hlen
  go_upto_region 11 with (go_at_call 6; refine hsum.mono ?_; rintro e w4 ⟨rfl, hw4⟩)
  have own4 := own3.same hw4
  have e4 := below_same e3 hw4
  clear hw4 own3 e3 hsum
  have c40 : w4.cell? ⟨g, 0, none⟩ = some (.int .u8 0) := own4.cell HL.out 0 (by simp)
  have c41 : w4.cell? ⟨g, 1, none⟩ = some (.int .u8 0) := own4.cell HL.out 1 (by simp)
  have f40 := own4.free HL.out 0
  have f41 := own4.free HL.out 1
  go_upto_region 13 with fail
  have own5 := (own4.store HL.out 0 (n / 256) (by omega) (by omega)).store (by rw [List.length_set]; exact HL.out) 1 (n % 256) (by omega) (by omega)
  have hx1 : ((0 :: 0 :: bs : List Int).set 0 (n / 256)).set 1 (n % 256) = n / 256 :: n % 256 :: bs := rfl
  rw [hx1] at own5
  have e5 := (e4.setCell (p := ⟨g, 0, none⟩) hg0 (.int .u8 (n / 256))).setCell (p := ⟨g, 1, none⟩) hg0 (.int .u8 (n % 256))
  clear hx1 c40 c41 f40 f41 own4 e4
  have hval := valid_same (own5.bytes (by simp; omega))
  have ht5 : tot 0 (n / 256 :: n % 256 :: bs) = 65535 := by
    rw [tot_norm _ 0 own5.2 (by omega) (by omega), ← valid_sum hw0 HN.out]
    congr 1; simp only [wsum]; omega
  rw [ht5] at hval
  clear ht5
  go_upto_region 15 with (go_at_call 7; refine hval.mono ?_; rintro e w6 ⟨rfl, hw6⟩)
  have own6 := own5.same hw6
  have e6 := below_same e5 hw6
  clear hw6 own5 e5 hval
  have g6 : g < w6.heap.size := by
    obtain ⟨g', cap', h', _, h'', _⟩ := own6.shape (by simp)
    simp only [Value.slice.injEq, Option.some.injEq, Addr.mk.injEq] at h'
    rw [h'.1.1]; exact h''
  go_cut [94] (fun s ww => s = .bool (swapB bl i k) ∧ ww = w6)
  case first =>
    as_aux_lemma =>
      go_wp2_with fail
      all_goals go_meet
      all_goals
        case rel => refine ⟨?_, rfl⟩; first | exact sw_yes ‹_› ‹_› ‹_› ‹_› ‹_› ‹_› | exact sw_noi ‹0 ≤ i› ‹_› | exact sw_nok ‹0 ≤ k› ‹_› | exact sw_no (by omega)
  case rest =>
    obtain ⟨hc, hwc⟩ := hcut
    subst hwc hc
    go_upto_if 94 with fail
    go_cut [14] (fun s ww => OwnB ww w.heap.size (.slice (some ⟨g, 0, none⟩) len cap) (n / 256 :: n % 256 :: bs) ∧ Below w.heap.size w ww)
    case first =>
      rcases hsw : swapB bl i k with _ | _
      · go_wp2_with fail
        go_meet
        case rel => exact ⟨own6, e6⟩
      · as_aux_lemma =>
          have hsw' : bl % 2 = 0 ∧ 0 ≤ i ∧ 0 ≤ k ∧ 2 * i + 1 < (bl : Int) ∧ 2 * k + 1 < (bl : Int) ∧ i < 4000 ∧ k < 4000 := by unfold swapB at hsw; exact of_decide_eq_true hsw
          obtain ⟨s1, s2, s3, s4, s5, s6, s7⟩ := hsw'
          obtain ⟨I, rfl⟩ := Int.eq_ofNat_of_zero_le s2
          obtain ⟨K, rfl⟩ := Int.eq_ofNat_of_zero_le s3
          have hv6 := hv.below (Nat.le_refl _) e6
          have hl6 : ([] : List Int).length + bs.length ≤ 140737488355328 := by simp; omega
          go_upto_region 18 with (at_builtin; refine wpList_append_bytes rfl (.tmp 95) (.tmp 96) rfl wc.heap.size _ _ rfl (OwnB.nil _ _) _ bs rfl hv6 hl6 (Nat.le_refl _) ?_; intro vy wy oy growy)
          have growy' : wc.grownBy wy none := growy
          have ox := own6.kept growy' (by simp [Value.ownBlock])
          have ey := e6.grown growy' e6.size (fun k hk => by cases hk)
          clear growy growy' hv6 hl6 own6 e6
          rw [List.nil_append] at oy
          obtain ⟨gy, capy, hvy, hgy0, hgy1, hlcy, hcmy⟩ := oy.shape (by omega)
          subst hvy
          have hgg : g < gy := by omega
          obtain ⟨ny, hny⟩ : ∃ ny, ny = bs.length := ⟨_, rfl⟩
          rw [← hny] at oy hlcy ⊢
          have hny1 : bl ≤ ny := by omega
          have hny2 : ny ≤ bl := by omega
          have HY : Hid (ny = bs.length) := hny
          clear hny
          have hv0 := hv
          rcases hv with ⟨hz, _⟩ | ⟨b, off, len', cap', hv', hb2, hb3, hb4, hb5, hb6⟩
          · subst hz; simp at hbl1; omega
          have hblk : b < w.heap.size := by
            have hc := hb6.1 0 (by omega)
            rcases Nat.lt_or_ge b w.heap.size with h | h
            · exact h
            · simp [World.cell?, Array.getElem?_eq_none h] at hc
          have hbg : b < gy := by omega
          have rb : ∀ {ww : World}, Below w.heap.size w ww → ∀ j, j < bs.length → ww.cell? ⟨b, off + j, none⟩ = some (.int .u8 (bs.getD j 0)) := by
            intro ww hww j hj
            rw [hww.cell (p := ⟨b, off + j, none⟩) hblk]; exact hb6.1 j hj
          simp only [Value.slice.injEq] at hv'
          obtain ⟨ha, hl', hbc'⟩ := hv'
          subst ha
          clear hb6 hl' hbc' hb2 hb3 hb4 hb5
          obtain ⟨bi0, hbi0⟩ : ∃ z, z = bs.getD (2 * I) 0 := ⟨_, rfl⟩
          obtain ⟨bi1, hbi1⟩ : ∃ z, z = bs.getD (2 * I + 1) 0 := ⟨_, rfl⟩
          obtain ⟨bk0, hbk0⟩ : ∃ z, z = bs.getD (2 * K) 0 := ⟨_, rfl⟩
          obtain ⟨bk1, hbk1⟩ : ∃ z, z = bs.getD (2 * K + 1) 0 := ⟨_, rfl⟩
          have ri0 : 0 ≤ bi0 ∧ bi0 ≤ 255 := by rw [hbi0]; exact getD_byte (by omega) hby
          have ri1 : 0 ≤ bi1 ∧ bi1 ≤ 255 := by rw [hbi1]; exact getD_byte (by omega) hby
          have rk0 : 0 ≤ bk0 ∧ bk0 ≤ 255 := by rw [hbk0]; exact getD_byte (by omega) hby
          have rk1 : 0 ≤ bk1 ∧ bk1 ≤ 255 := by rw [hbk1]; exact getD_byte (by omega) hby
          have HB : Hid ((bi0 = bs.getD (2 * I) 0 ∧ bi1 = bs.getD (2 * I + 1) 0) ∧ bk0 = bs.getD (2 * K) 0 ∧ bk1 = bs.getD (2 * K + 1) 0) := ⟨⟨hbi0, hbi1⟩, hbk0, hbk1⟩
          have RB : Hid (∀ {ww : World}, Below w.heap.size w ww → ∀ j, j < bs.length → ww.cell? ⟨b, off + j, none⟩ = some (.int .u8 (bs.getD j 0))) := rb
          clear hbi0 hbi1 hbk0 hbk1 rb
          have i1 : 2 * I + 1 < bs.length := by omega
          have i2 : 2 * K + 1 < bs.length := by omega
          have ca : wy.cell? ⟨b, off + 2 * K, none⟩ = some (.int .u8 bk0) := by rw [HB.out.2.1]; exact RB.out ey _ (by omega)
          have cb := oy.cell HY.out (2 * I) (by omega)
          have cf := oy.free HY.out (2 * I)
          go_upto_region 19 with fail
          obtain ⟨wy1, hwy1, oy1, ox1, ey1⟩ := step_store oy HY.out ox (by omega) ey (by omega) (2 * I) bk0 rk0.1 rk0.2
          rw [hwy1]
          clear hwy1 oy ox ey ca cb cf
          have ca : wy1.cell? ⟨b, off + (2 * K + 1), none⟩ = some (.int .u8 bk1) := by rw [HB.out.2.2]; exact RB.out ey1 _ (by omega)
          have cb := oy1.cell (by simp only [List.length_set]; exact HY.out) (2 * I + 1) (by simp only [List.length_set]; omega)
          have cf := oy1.free (by simp only [List.length_set]; exact HY.out) (2 * I + 1)
          go_upto_region 20 with fail
          obtain ⟨wy2, hwy2, owy2, xwy2, ewy2⟩ := step_store oy1 (by simp only [List.length_set]; exact HY.out) ox1 (by omega) ey1 (by omega) (2 * I + 1) bk1 rk1.1 rk1.2
          rw [hwy2]
          clear hwy2 oy1 ox1 ey1 ca cb cf
          have ca : wy2.cell? ⟨b, off + 2 * I, none⟩ = some (.int .u8 bi0) := by rw [HB.out.1.1]; exact RB.out ewy2 _ (by omega)
          have cb := owy2.cell (by simp only [List.length_set]; exact HY.out) (2 * K) (by simp only [List.length_set]; omega)
          have cf := owy2.free (by simp only [List.length_set]; exact HY.out) (2 * K)
          go_upto_region 21 with fail
          obtain ⟨wy3, hwy3, owy3, xwy3, ewy3⟩ := step_store owy2 (by simp only [List.length_set]; exact HY.out) xwy2 (by omega) ewy2 (by omega) (2 * K) bi0 ri0.1 ri0.2
          rw [hwy3]
          clear hwy3 owy2 xwy2 ewy2 ca cb cf
          have ca : wy3.cell? ⟨b, off + (2 * I + 1), none⟩ = some (.int .u8 bi1) := by rw [HB.out.1.2]; exact RB.out ewy3 _ (by omega)
          have cb := owy3.cell (by simp only [List.length_set]; exact HY.out) (2 * K + 1) (by simp only [List.length_set]; omega)
          have cf := owy3.free (by simp only [List.length_set]; exact HY.out) (2 * K + 1)
          go_upto_region 22 with fail
          obtain ⟨wy4, hwy4, owy4, xwy4, ewy4⟩ := step_store owy3 (by simp only [List.length_set]; exact HY.out) xwy3 (by omega) ewy3 (by omega) (2 * K + 1) bi1 ri1.1 ri1.2
          rw [hwy4]
          clear hwy4 owy3 xwy3 ewy3 ca cb cf
          have hsy := sum_same (owy4.bytes (by simp only [List.length_set]; omega))
          have hty : tot 0 ((((bs.set (2 * I) bk0).set (2 * I + 1) bk1).set (2 * K) bi0).set (2 * K + 1) bi1) = tot 0 bs := by
            rw [tot_norm _ 0 owy4.2 (by omega) (by omega), tot_norm _ 0 hby (by omega) (by omega), HB.out.1.1, HB.out.1.2, HB.out.2.1, HB.out.2.2, wsum_swap bs I K i1 i2]
          rw [hty] at hsy
          clear hty
          have hvb := (hv0.below (Nat.le_refl _) ewy4)
          go_wp2_with (first | (go_at_call 6; refine hsy.mono ?_; rintro e wz ⟨rfl, hwz⟩; have hvz := hvb.same hwz; clear hsy) | (go_at_call 6; refine (sum_same hvz).mono ?_; rintro e wz2 ⟨rfl, hwz2⟩))
          go_meet
          case rel => exact ⟨(xwy4.same hwz).same hwz2, below_same (below_same ewy4 hwz) hwz2⟩
    case rest =>
      obtain ⟨ox, ex⟩ := hcut
      clear own6 e6 g6
      have hvx := hv.below (Nat.le_refl _) ex
      by_cases p1 : pl < 0
      · go_wp2_with fail
        go_ret
        exact ⟨rfl, ex⟩
      by_cases p2 : (bl : Int) ≤ pl
      · go_wp2_with fail
        go_ret
        exact ⟨rfl, ex⟩
      obtain ⟨p, rfl⟩ := Int.eq_ofNat_of_zero_le (by omega : 0 ≤ pl)
      have p3 : p < bl := by omega
      rcases hvx with ⟨hz, _⟩ | ⟨b, off, len', cap', hv', hb2, hb3, hb4, hb5, hb6⟩
      · subst hz; simp at hbl1; omega
      have cp := hb6.1 p (by omega)
      obtain ⟨bp, hbp⟩ : ∃ z, z = bs.getD p 0 := ⟨_, rfl⟩
      have rp : 0 ≤ bp ∧ bp ≤ 255 := by rw [hbp]; exact getD_byte (by omega) hby
      rw [← hbp] at cp
      have HP : Hid (bp = bs.getD p 0) := hbp
      simp only [Value.slice.injEq] at hv'
      obtain ⟨ha, hl', hbc'⟩ := hv'
      subst ha
      clear hb6 hl' hbc' hbp hb2 hb3 hb4 hb5 hv h3 h4 h1
      rcases heq : (bp == tb) with _ | _
      · have hlx : len = (n / 256 :: n % 256 :: bs).length := by rw [HL.out]; simp
        have HLX : Hid (len = (n / 256 :: n % 256 :: bs).length) := hlx
        clear hlx
        have xg : ∀ q, (n / 256 :: n % 256 :: bs).getD (q + 2) 0 = bs.getD q 0 := fun q => by simp [List.getD]
        have XG : Hid (∀ q, (n / 256 :: n % 256 :: bs).getD (q + 2) 0 = bs.getD q 0) := xg
        clear xg
        go_upto_region 26 with fail
        have HE : Hid ((bp == tb) = false) := heq
        clear heq cp
        have cx : wc.cell? ⟨g, p + 2, none⟩ = some (.int .u8 bp) := by rw [ox.cell HLX.out (p + 2) (by simp; omega), XG.out, HP.out]
        have fx := ox.free HLX.out (p + 2)
        rcases Nat.mod_two_eq_zero_or_one p with hpm | hpm
        · have hm : ((p : Int) + 2) % 2 = 0 := by omega
          by_cases hpp : p + 1 < bl
          · obtain ⟨bq, hbq⟩ : ∃ z, z = bs.getD (p + 1) 0 := ⟨_, rfl⟩
            have rq : 0 ≤ bq ∧ bq ≤ 255 := by rw [hbq]; exact getD_byte (by omega) hby
            have cq : wc.cell? ⟨g, p + 2 + 1, none⟩ = some (.int .u8 bq) := by rw [ox.cell HLX.out (p + 2 + 1) (by simp; omega), XG.out (p + 1), hbq]
            clear hbq
            as_aux_lemma =>
              go_upto_region 34 with fail
              have HD : Hid (tb * 256 + bq - (bp * 256 + bq) = (tb - bs.getD p 0) * place p) := by
                show tb * 256 + bq - (bp * 256 + bq) = (tb - bs.getD p 0) * place p
                rw [← HP.out, (show place p = 256 by unfold place; rw [if_pos hpm])]; omega
              have ox2 := ox.store HLX.out (p + 2) tb hto.1 hto.2
              have ex2 := ex.setCell (p := ⟨g, p + 2, none⟩) hg0 (.int .u8 tb)
              obtain ⟨wd, hwd⟩ : ∃ wd, wc.setCell ⟨g, p + 2, none⟩ (.int .u8 tb) = wd := ⟨_, rfl⟩
              rw [hwd] at ox2 ex2 ⊢
              have hl2 : ((n / 256 :: n % 256 :: bs).set (p + 2) tb).length = bs.length + 2 := by simp
              have hval := valid_same (ox2.bytes (by rw [hl2]; omega))
              rw [spoilt_byte bs p n tb hby (by omega) HN.out hto (by rw [← HP.out]; simpa using HE.out) ox2.2] at hval
              have ro : 0 ≤ bp * 256 + bq ∧ bp * 256 + bq ≤ 65535 := by omega
              have rn : 0 ≤ tb * 256 + bq ∧ tb * 256 + bq ≤ 65535 := by omega
              have r4 := addS_range (a := 65535 - n) (b := 65535 - (bp * 256 + bq)) (by omega) (by omega) (by omega) (by omega)
              have r5 := addS_range (a := addS (65535 - n) (65535 - (bp * 256 + bq))) (b := tb * 256 + bq) r4.1 r4.2 rn.1 rn.2
              have hup := fun ww => update_yes n (bp * 256 + bq) (tb * 256 + bq) ww (word_yes hn0 hn1) (word_yes ro.1 ro.2) (word_yes rn.1 rn.2)
              obtain ⟨m, hmm⟩ : ∃ m, m = 65535 - addS (addS (65535 - n) (65535 - (bp * 256 + bq))) (tb * 256 + bq) := ⟨_, rfl⟩
              rw [← hmm] at hup
              have hm0 : 0 ≤ m := by omega
              have hm1 : m ≤ 65535 := by omega
              have HM : Hid (m = 65535 - addS (addS (65535 - n) (65535 - (bp * 256 + bq))) (tb * 256 + bq)) := hmm
              clear hmm r4 r5 hwd ox ex fx cx
              go_upto_region 39 with (first | (go_at_call 7; refine hval.mono ?_; rintro e we ⟨rfl, hwe⟩) | (go_at_call 8; refine (hup _).mono ?_; rintro e we ⟨rfl, rfl⟩))
              have ox3 := ox2.same hwe
              have ex3 := below_same ex2 hwe
              have HL3 : Hid (len = ((n / 256 :: n % 256 :: bs).set (p + 2) tb).length) := by
                show len = ((n / 256 :: n % 256 :: bs).set (p + 2) tb).length
                rw [hl2]; omega
              have c0 := ox3.cell HL3.out 0 (by rw [hl2]; omega)
              have c1 := ox3.cell HL3.out 1 (by rw [hl2]; omega)
              have f0 := ox3.free HL3.out 0
              have f1 := ox3.free HL3.out 1
              clear ox2 ex2 hwe hval hup
              go_upto_region 41 with fail
              have ox4 := (ox3.store HL3.out 0 (m / 256) (by omega) (by omega)).store (by rw [List.length_set]; exact HL3.out) 1 (m % 256) (by omega) (by omega)
              have ex4 := (ex3.setCell (p := ⟨g, 0, none⟩) hg0 (.int .u8 (m / 256))).setCell (p := ⟨g, 1, none⟩) hg0 (.int .u8 (m % 256))
              obtain ⟨wf, hwf⟩ : ∃ wf, (we.setCell ⟨g, 0, none⟩ (.int .u8 (m / 256))).setCell ⟨g, 1, none⟩ (.int .u8 (m % 256)) = wf := ⟨_, rfl⟩
              rw [hwf] at ox4 ex4 ⊢
              clear hwf c0 c1 f0 f1 ox3 ex3
              have hb4 := ox4.bytes (by simp only [List.length_set, List.length_cons]; omega)
              have hval := valid_same hb4
              rcases mended_byte bs p n tb (bp * 256 + bq) (tb * 256 + bq) m hby (by omega) HN.out hto ro rn HD.out HM.out ox4.2 with hA | ⟨hB0, hB⟩
              · rw [hA] at hval
                clear hA
                go_wp2_with (go_at_call 7; refine hval.mono ?_; rintro e we2 ⟨rfl, hwe2⟩)
                go_ret
                exact ⟨rfl, below_same ex4 hwe2⟩
              · rw [hB] at hval
                have hq : (m == 0) = true := by rw [hB0]; rfl
                have hrt := fun ww (hs : Same wf ww) => refTotal_bytes (hb4.same hs)
                rw [hB] at hrt
                clear hB hB0
                go_wp2_with (first | (go_at_call 7; refine hval.mono ?_; rintro e we2 ⟨rfl, hwe2⟩) | (go_at_call 9; refine (hrt _ hwe2).mono ?_; rintro e w' ⟨rfl, rfl⟩))
                go_ret
                exact ⟨rfl, below_same ex4 hwe2⟩
          · have hpp' : bl ≤ p + 1 := by omega
            as_aux_lemma =>
              go_upto_region 34 with fail
              have HD : Hid (tb * 256 - (bp * 256) = (tb - bs.getD p 0) * place p) := by
                show tb * 256 - (bp * 256) = (tb - bs.getD p 0) * place p
                rw [← HP.out, (show place p = 256 by unfold place; rw [if_pos hpm])]; omega
              have ox2 := ox.store HLX.out (p + 2) tb hto.1 hto.2
              have ex2 := ex.setCell (p := ⟨g, p + 2, none⟩) hg0 (.int .u8 tb)
              obtain ⟨wd, hwd⟩ : ∃ wd, wc.setCell ⟨g, p + 2, none⟩ (.int .u8 tb) = wd := ⟨_, rfl⟩
              rw [hwd] at ox2 ex2 ⊢
              have hl2 : ((n / 256 :: n % 256 :: bs).set (p + 2) tb).length = bs.length + 2 := by simp
              have hval := valid_same (ox2.bytes (by rw [hl2]; omega))
              rw [spoilt_byte bs p n tb hby (by omega) HN.out hto (by rw [← HP.out]; simpa using HE.out) ox2.2] at hval
              have ro : 0 ≤ bp * 256 ∧ bp * 256 ≤ 65535 := by omega
              have rn : 0 ≤ tb * 256 ∧ tb * 256 ≤ 65535 := by omega
              have r4 := addS_range (a := 65535 - n) (b := 65535 - (bp * 256)) (by omega) (by omega) (by omega) (by omega)
              have r5 := addS_range (a := addS (65535 - n) (65535 - (bp * 256))) (b := tb * 256) r4.1 r4.2 rn.1 rn.2
              have hup := fun ww => update_yes n (bp * 256) (tb * 256) ww (word_yes hn0 hn1) (word_yes ro.1 ro.2) (word_yes rn.1 rn.2)
              obtain ⟨m, hmm⟩ : ∃ m, m = 65535 - addS (addS (65535 - n) (65535 - (bp * 256))) (tb * 256) := ⟨_, rfl⟩
              rw [← hmm] at hup
              have hm0 : 0 ≤ m := by omega
              have hm1 : m ≤ 65535 := by omega
              have HM : Hid (m = 65535 - addS (addS (65535 - n) (65535 - (bp * 256))) (tb * 256)) := hmm
              clear hmm r4 r5 hwd ox ex fx cx
              go_upto_region 39 with (first | (go_at_call 7; refine hval.mono ?_; rintro e we ⟨rfl, hwe⟩) | (go_at_call 8; refine (hup _).mono ?_; rintro e we ⟨rfl, rfl⟩))
              have ox3 := ox2.same hwe
              have ex3 := below_same ex2 hwe
              have HL3 : Hid (len = ((n / 256 :: n % 256 :: bs).set (p + 2) tb).length) := by
                show len = ((n / 256 :: n % 256 :: bs).set (p + 2) tb).length
                rw [hl2]; omega
              have c0 := ox3.cell HL3.out 0 (by rw [hl2]; omega)
              have c1 := ox3.cell HL3.out 1 (by rw [hl2]; omega)
              have f0 := ox3.free HL3.out 0
              have f1 := ox3.free HL3.out 1
              clear ox2 ex2 hwe hval hup
              go_upto_region 41 with fail
              have ox4 := (ox3.store HL3.out 0 (m / 256) (by omega) (by omega)).store (by rw [List.length_set]; exact HL3.out) 1 (m % 256) (by omega) (by omega)
              have ex4 := (ex3.setCell (p := ⟨g, 0, none⟩) hg0 (.int .u8 (m / 256))).setCell (p := ⟨g, 1, none⟩) hg0 (.int .u8 (m % 256))
              obtain ⟨wf, hwf⟩ : ∃ wf, (we.setCell ⟨g, 0, none⟩ (.int .u8 (m / 256))).setCell ⟨g, 1, none⟩ (.int .u8 (m % 256)) = wf := ⟨_, rfl⟩
              rw [hwf] at ox4 ex4 ⊢
              clear hwf c0 c1 f0 f1 ox3 ex3
              have hb4 := ox4.bytes (by simp only [List.length_set, List.length_cons]; omega)
              have hval := valid_same hb4
              rcases mended_byte bs p n tb (bp * 256) (tb * 256) m hby (by omega) HN.out hto ro rn HD.out HM.out ox4.2 with hA | ⟨hB0, hB⟩
              · rw [hA] at hval
                clear hA
                go_wp2_with (go_at_call 7; refine hval.mono ?_; rintro e we2 ⟨rfl, hwe2⟩)
                go_ret
                exact ⟨rfl, below_same ex4 hwe2⟩
              · rw [hB] at hval
                have hq : (m == 0) = true := by rw [hB0]; rfl
                have hrt := fun ww (hs : Same wf ww) => refTotal_bytes (hb4.same hs)
                rw [hB] at hrt
                clear hB hB0
                go_wp2_with (first | (go_at_call 7; refine hval.mono ?_; rintro e we2 ⟨rfl, hwe2⟩) | (go_at_call 9; refine (hrt _ hwe2).mono ?_; rintro e w' ⟨rfl, rfl⟩))
                go_ret
                exact ⟨rfl, below_same ex4 hwe2⟩
        · have hm : ((p : Int) + 2) % 2 = 1 := by omega
          obtain ⟨bq, hbq⟩ : ∃ z, z = (n / 256 :: n % 256 :: bs).getD (p + 1) 0 := ⟨_, rfl⟩
          have rq : 0 ≤ bq ∧ bq ≤ 255 := by rw [hbq]; exact getD_byte (by simp; omega) ox.2
          have cq : wc.cell? ⟨g, p + 1, none⟩ = some (.int .u8 bq) := by rw [ox.cell HLX.out (p + 1) (by simp; omega), hbq]
          clear hbq
          as_aux_lemma =>
            go_upto_region 34 with fail
            have HD : Hid (bq * 256 + tb - (bq * 256 + bp) = (tb - bs.getD p 0) * place p) := by
              show bq * 256 + tb - (bq * 256 + bp) = (tb - bs.getD p 0) * place p
              rw [← HP.out, (show place p = 1 by unfold place; rw [if_neg (by omega)])]; omega
            have ox2 := ox.store HLX.out (p + 2) tb hto.1 hto.2
            have ex2 := ex.setCell (p := ⟨g, p + 2, none⟩) hg0 (.int .u8 tb)
            obtain ⟨wd, hwd⟩ : ∃ wd, wc.setCell ⟨g, p + 2, none⟩ (.int .u8 tb) = wd := ⟨_, rfl⟩
            rw [hwd] at ox2 ex2 ⊢
            have hl2 : ((n / 256 :: n % 256 :: bs).set (p + 2) tb).length = bs.length + 2 := by simp
            have hval := valid_same (ox2.bytes (by rw [hl2]; omega))
            rw [spoilt_byte bs p n tb hby (by omega) HN.out hto (by rw [← HP.out]; simpa using HE.out) ox2.2] at hval
            have ro : 0 ≤ bq * 256 + bp ∧ bq * 256 + bp ≤ 65535 := by omega
            have rn : 0 ≤ bq * 256 + tb ∧ bq * 256 + tb ≤ 65535 := by omega
            have r4 := addS_range (a := 65535 - n) (b := 65535 - (bq * 256 + bp)) (by omega) (by omega) (by omega) (by omega)
            have r5 := addS_range (a := addS (65535 - n) (65535 - (bq * 256 + bp))) (b := bq * 256 + tb) r4.1 r4.2 rn.1 rn.2
            have hup := fun ww => update_yes n (bq * 256 + bp) (bq * 256 + tb) ww (word_yes hn0 hn1) (word_yes ro.1 ro.2) (word_yes rn.1 rn.2)
            obtain ⟨m, hmm⟩ : ∃ m, m = 65535 - addS (addS (65535 - n) (65535 - (bq * 256 + bp))) (bq * 256 + tb) := ⟨_, rfl⟩
            rw [← hmm] at hup
            have hm0 : 0 ≤ m := by omega
            have hm1 : m ≤ 65535 := by omega
            have HM : Hid (m = 65535 - addS (addS (65535 - n) (65535 - (bq * 256 + bp))) (bq * 256 + tb)) := hmm
            clear hmm r4 r5 hwd ox ex fx cx
            go_upto_region 39 with (first | (go_at_call 7; refine hval.mono ?_; rintro e we ⟨rfl, hwe⟩) | (go_at_call 8; refine (hup _).mono ?_; rintro e we ⟨rfl, rfl⟩))
            have ox3 := ox2.same hwe
            have ex3 := below_same ex2 hwe
            have HL3 : Hid (len = ((n / 256 :: n % 256 :: bs).set (p + 2) tb).length) := by
              show len = ((n / 256 :: n % 256 :: bs).set (p + 2) tb).length
              rw [hl2]; omega
            have c0 := ox3.cell HL3.out 0 (by rw [hl2]; omega)
            have c1 := ox3.cell HL3.out 1 (by rw [hl2]; omega)
            have f0 := ox3.free HL3.out 0
            have f1 := ox3.free HL3.out 1
            clear ox2 ex2 hwe hval hup
            go_upto_region 41 with fail
            have ox4 := (ox3.store HL3.out 0 (m / 256) (by omega) (by omega)).store (by rw [List.length_set]; exact HL3.out) 1 (m % 256) (by omega) (by omega)
            have ex4 := (ex3.setCell (p := ⟨g, 0, none⟩) hg0 (.int .u8 (m / 256))).setCell (p := ⟨g, 1, none⟩) hg0 (.int .u8 (m % 256))
            obtain ⟨wf, hwf⟩ : ∃ wf, (we.setCell ⟨g, 0, none⟩ (.int .u8 (m / 256))).setCell ⟨g, 1, none⟩ (.int .u8 (m % 256)) = wf := ⟨_, rfl⟩
            rw [hwf] at ox4 ex4 ⊢
            clear hwf c0 c1 f0 f1 ox3 ex3
            have hb4 := ox4.bytes (by simp only [List.length_set, List.length_cons]; omega)
            have hval := valid_same hb4
            rcases mended_byte bs p n tb (bq * 256 + bp) (bq * 256 + tb) m hby (by omega) HN.out hto ro rn HD.out HM.out ox4.2 with hA | ⟨hB0, hB⟩
            · rw [hA] at hval
              clear hA
              go_wp2_with (go_at_call 7; refine hval.mono ?_; rintro e we2 ⟨rfl, hwe2⟩)
              go_ret
              exact ⟨rfl, below_same ex4 hwe2⟩
            · rw [hB] at hval
              have hq : (m == 0) = true := by rw [hB0]; rfl
              have hrt := fun ww (hs : Same wf ww) => refTotal_bytes (hb4.same hs)
              rw [hB] at hrt
              clear hB hB0
              go_wp2_with (first | (go_at_call 7; refine hval.mono ?_; rintro e we2 ⟨rfl, hwe2⟩) | (go_at_call 9; refine (hrt _ hwe2).mono ?_; rintro e w' ⟨rfl, rfl⟩))
              go_ret
              exact ⟨rfl, below_same ex4 hwe2⟩
      · go_wp2_with fail
        go_ret
        exact ⟨rfl, ex⟩
end Go.Proofs.Ytchmggikmfibiaa
