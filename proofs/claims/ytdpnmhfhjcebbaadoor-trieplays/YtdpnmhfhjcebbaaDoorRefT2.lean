/- What Put and Drop of the reference's list do. -/
import Derived.Test.YtdpnmhfhjcebbaaDoorRefT1
import Derived.Test.YtdpnmhfhjcebbaaDoorQuietX
namespace Go.Proofs.YtdpnmhfhjcebbaaDoor
open Go.RowKit
set_option linter.unusedVariables false
set_option maxRecDepth 4000

theorem Prs.upto {w : World} {base : Nat} {av : Option Addr} {N cv : Nat} {L : List Pr} (h : OwnR w base (.slice av N cv) L) {k : Nat} (hk : k ≤ L.length) : Prs w (sliced av 0 k cv 3) (L.take k) := by
  rcases Nat.eq_zero_or_pos k with h0 | h0
  · subst h0; exact .inl ⟨by simp, _, _, rfl⟩
  · obtain ⟨g, cap, hv, _⟩ := h.shape (by omega)
    simp only [Value.slice.injEq] at hv
    obtain ⟨rfl, rfl, rfl⟩ := hv
    have := Prs.head h (by omega) hk
    unfold sliced
    simpa [Addr.add] using this
theorem Prs.from {w : World} {base : Nat} {av : Option Addr} {N cv : Nat} {L : List Pr} (h : OwnR w base (.slice av N cv) L) (hN : L.length = N) {k : Nat} (hk : k ≤ N) : Prs w (sliced av k N cv 3) (L.drop k) := by
  rcases Nat.eq_or_lt_of_le hk with h0 | h0
  · refine .inl ⟨by rw [List.drop_eq_nil_iff]; omega, if cv = k then av else av.map (·.add (k * 3)), cv - k, ?_⟩
    unfold sliced
    rw [show N - k = 0 by omega]
  · obtain ⟨g, cap, hv, _, _, h7, h8⟩ := h.shape (by omega)
    simp only [Value.slice.injEq] at hv
    obtain ⟨rfl, e1, rfl⟩ := hv
    have := Prs.tail (c := cv - k) h (by omega) (k := k) (m := N - k) (by omega) (by omega) (by omega)
    unfold sliced
    rw [if_neg (by omega)]
    simp only [Option.map_some]
    have add : Addr.add ⟨g, 0, none⟩ (k * 3) = ⟨g, k * 3, none⟩ := by by_cases hj : k * 3 = 0 <;> simp [Addr.add, hj]
    rw [add]; exact this
theorem OwnR.two {w : World} {base : Nat} {av : Option Addr} {N cv : Nat} {L : List Pr} (h : OwnR w base (.slice av N cv) L) : (av = none ∧ N = 0 ∧ cv = 0) ∨ ∃ g, av = some ⟨g, 0, none⟩ ∧ N ≤ cv ∧ cv ≤ maxLen ∧ g < w.heap.size := by
  obtain ⟨_, h2⟩ := h
  rcases h2 with ⟨h2, _⟩ | ⟨g, cap, cur, hv, _, hh, hl, hm, _⟩
  · simp only [Value.slice.injEq] at h2; exact .inl h2
  · simp only [Value.slice.injEq] at hv
    obtain ⟨rfl, rfl, rfl⟩ := hv
    refine .inr ⟨g, rfl, hl, hm, ?_⟩
    rcases Nat.lt_or_ge g w.heap.size with h1 | h1
    · exact h1
    · simp [Array.getElem?_eq_none h1] at hh
theorem list_at {L : List Pr} {k : Nat} (h : k < L.length) : ∃ A B, L = A ++ L[k] :: B ∧ A.length = k :=
  ⟨L.take k, L.drop (k + 1), by simp, by rw [List.length_take]; omega⟩
theorem RV.grown {w w' : World} {F : Nat → Prop} {mb : Nat} {V : Value} {L : List Pr} {row : Option Nat} (h : RV w F mb V L) (hg : w.grownBy w' row) (hr : ∀ k, row = some k → ¬ F k) (hF : ∀ k, F k → k < w.heap.size) : RV w' F mb V L :=
  h.keep (fun k hk => hg.block k (hF k hk) (fun e => hr k e.symm hk))
/-- A row of the call's own is laid as the list's row. -/
theorem RV.lay {w w' : World} {F : Nat → Prop} {mb : Nat} {V V' : Value} {L L' : List Pr} (h : RV w' F mb V L) (hmb : mb < w.heap.size) (ho : OwnR w' w.heap.size V' L') : RV (w'.setCell ⟨mb, 0, none⟩ V') (Plus F w (w'.setCell ⟨mb, 0, none⟩ V')) mb V' L' := by
  refine ⟨heap_setCell_same w' mb 0 _ _ V' h.blk, ?_, .inl h.own, fun k hk => ?_⟩
  · refine (ho.base (Nat.zero_le _)).blk (fun k hk => ?_)
    have := ho.block k hk
    exact heap_setCell_other w' ⟨mb, 0, none⟩ k V' (by show k ≠ mb; omega)
  · have := ho.block k hk
    exact ⟨.inr ⟨this.1, by simpa [World.setCell] using this.2⟩, by omega⟩
def NewF (w : World) (k : Nat) : Prop := w.heap.size ≤ k
theorem Turn.grown {w w1 w2 : World} {F : Nat → Prop} {row : Option Nat} (h : Turn F w w1) (hg : w1.grownBy w2 row) (hr : ∀ k, row = some k → w.heap.size ≤ k) : Turn F w w2 :=
  h.andThen (Turn.of_grown (F := NewF w) hg hr) (fun i hi => .inr hi)
/-- What Put returns and leaves. -/
def RPuts (F : Nat → Prop) (mb : Nat) (s : Tv) (a l v : Int) (w : World) (e : Ending) (w' : World) : Prop :=
  e = .returned (.tuple #[.bool (putV s a l v).2.1, .int .i64 (putV s a l v).2.2]) ∧ RT w' (Plus F w w') mb (allV (putV s a l v).1) ∧ Turn F w w'
theorem rputs_stay {F : Nat → Prop} {mb : Nat} {s : Tv} {a l v n : Int} {V : Value} {w w' : World} (h : RV w F mb V (allV s)) (hp : putV s a l v = (s, false, n)) (hb : Below w.heap.size w w') : RPuts F mb s a l v w (.returned (.tuple #[.bool false, .int .i64 n])) w' := by
  refine ⟨by rw [hp], ?_, Turn.of_below hb F⟩
  rw [hp]; exact ⟨V, (h.below hb).mono (fun k hk => .inl hk)⟩
set_option maxHeartbeats 16000000 in
theorem refPut_any (F : Nat → Prop) (mb : Nat) (s : Tv) (hs : OkV s) (a l v : Int) (w : World) (h : RT w F mb (allV s)) (hF : ∀ k, F k → k < w.heap.size) (hn : (allV s).length ≤ 200) :
    Calls Tryd.prog 5 #[.pointer (some ⟨mb, 0, none⟩), .agg #[.int .i64 a, .int .i64 l], .int .i64 v] w (RPuts F mb s a l v w) := by
  obtain ⟨V, hV⟩ := h
  obtain ⟨av, cv, hve⟩ := hV.row.len
  obtain ⟨L, hL⟩ : ∃ L, allV s = L := ⟨_, rfl⟩
  have hB : Below w.heap.size w (w.alloc (.cells #[.int .i64 a, .int .i64 l] 25)) := (Below.refl _ _).alloc (Nat.le_refl _) _
  have hpr := refPrefix_any a l (w.alloc (.cells #[.int .i64 a, .int .i64 l] 25))
  have HB : Hid (Below w.heap.size w (w.alloc (.cells #[.int .i64 a, .int .i64 l] 25))) := hB
  have HP : Hid (PairAt (w.alloc (.cells #[.int .i64 a, .int .i64 l] 25)) w.heap.size a l) := PairAt.new w a l 25
  have HV : Hid (RV w F mb V (allV s)) := hV
  have HF : Hid (∀ k, F k → k < w.heap.size) := hF
  have HOK : Hid (OkV s) := hs
  have HL : Hid (allV s = L) := hL
  by_cases hp : prefE a l = 0
  · rw [hp] at hpr
    have HPR : Hid (prefE a l = 0) := hp
    rw [hL] at hve hn
    obtain ⟨N, hN⟩ : ∃ N, L.length = N := ⟨_, rfl⟩
    rw [hN] at hve hn
    subst hve
    have HN : Hid (L.length = N) := hN
    clear hV hF hs hL hp hB hN
    go_enter Tryd.func5, Tryd.ntmps5
    go_upto_region 5 with (first
      | (go_at_call 21; refine (refAt_any F mb _ L a l _ (by have := HV.out.below (HB.out.trans (b1.mono HB.out.size)); rw [HL.out] at this; exact this)).mono ?_; rintro e w2 ⟨r, rfl, hats, b2⟩)
      | (go_at_call 8; refine hpr.mono ?_; rintro e w1 ⟨rfl, b1⟩; obtain ⟨p0, p1, _, _⟩ := id (HP.out.below HP.out.lt b1)))
    have HB2 : Hid (Below w.heap.size w w2) := (HB.out.trans (b1.mono HB.out.size)).trans (b2.mono (HB.out.trans (b1.mono HB.out.size)).size)
    have HV2 : Hid (RV w2 F mb (.slice av N cv) L) := by have := HV.out.below HB2.out; rw [HL.out] at this; exact this
    have HP2 : Hid (PairAt w2 w.heap.size a l) := (HP.out.below HP.out.lt b1).below (HP.out.below HP.out.lt b1).lt b2
    clear hpr b1 b2 p0 p1
    rcases hats with ⟨k, hk, rfl, ea, el⟩ | ⟨rfl, hno⟩
    · obtain ⟨A, B, hAB, hA⟩ := list_at hk
      have hNk : k < N := by have := HN.out; omega
      obtain ⟨g, cap, hve, _, hg, hl, hx⟩ := HV2.out.row.shape (by omega)
      simp only [Value.slice.injEq] at hve
      obtain ⟨rfl, _, rfl⟩ := hve
      generalize L[k] = x at hAB ea el
      subst ea el
      obtain ⟨e1, e2⟩ := lput_old HOK.out v (by rw [HL.out]; exact hAB)
      have hFg := HV2.out.rown g rfl
      have hrow := HV2.out.row
      rw [hAB] at hrow
      have hrow2 := hrow.setVal v
      rw [hA] at hrow2
      obtain ⟨y, c2⟩ : ∃ y : Int, w2.cell? ⟨g, k * 3 + 2, none⟩ = some (.int .i64 y) := ⟨_, (hrow.cells k (by rw [← hAB]; omega)).2.2⟩
      have f2 : w2.frozen? ⟨g, k * 3 + 2, none⟩ = false := by
        obtain ⟨_, hh⟩ := hrow
        rcases hh with ⟨hh, _⟩ | ⟨g', cap', cur, hv', _, hh, _⟩
        · cases hh
        · simp only [Value.slice.injEq, Option.some.injEq, Addr.mk.injEq] at hv'
          obtain ⟨⟨rfl, _⟩, _, _⟩ := hv'
          exact frozen_of_row w2 g _ _ _ hh
      have cm := HV2.out.cell
      have HZ : Hid (RPuts F mb s x.a x.l v w (.returned (.tuple #[.bool false, .int .i64 0])) (w2.setCell ⟨g, k * 3 + 2, none⟩ (.int .i64 v))) := by
        refine ⟨by rw [e2], ?_, (Turn.of_below HB2.out F).trans (Turn.of_only ((Only.refl g _).setCell _ _) hFg.1)⟩
        rw [e1]
        refine ⟨_, ⟨(heap_setCell_other w2 ⟨g, k * 3 + 2, none⟩ mb _ (fun e => hFg.2 e.symm)).trans HV2.out.blk, hrow2, .inl HV2.out.own, fun i hi => ⟨.inl (HV2.out.rown i hi).1, (HV2.out.rown i hi).2⟩⟩⟩
      have i1 : (0 : Int) ≤ (k : Int) := by omega
      have i2 : (k : Int) < (N : Int) := by omega
      have i3 : cv ≤ 9223372036854775807 := by unfold maxLen at hx; omega
      clear hrow hrow2 e1 e2 hFg hAB hA hg hx hk
      go_wp2_with fail
      go_ret2
      exact HZ.out
    · have HNO : Hid (∀ x ∈ L, ¬ (x.a = a ∧ x.l = l)) := hno
      have cm := HV2.out.cell
      have i0 : ¬ (0 : Int) ≤ -1 := by omega
      clear hno
      by_cases hfull : 200 ≤ N
      · have i1 : (200 : Int) ≤ (N : Int) := by omega
        have HZ : Hid (RPuts F mb s a l v w (.returned (.tuple #[.bool false, .int .i64 4])) w2) := rputs_stay HV.out (lput_full HOK.out HPR.out (by rw [HL.out]; exact HNO.out) (by rw [HL.out, HN.out]; omega)) HB2.out
        go_wp2_with fail
        go_ret2
        exact HZ.out
      have i1 : ¬ (200 : Int) ≤ (N : Int) := by omega
      rcases HV2.out.row.two with ⟨rfl, rfl, rfl⟩ | ⟨g, rfl, hNc, hcm0, hFg⟩
      · go_upto_region 11 with fail
        go_loopw [9] (fun i wr => ∃ j : Nat, j ≤ 0 ∧ i = .int .i64 (j : Int) ∧ Below w2.heap.size w2 wr) (fun i _ => 0)
        case atStart => exact ⟨0, by omega, rfl, Below.refl _ _⟩
        case round =>
          obtain ⟨j, hjn, rfl, hb⟩ := hrel
          have hcm := (HV2.out.below hb).cell
          have hbef : Hid (∀ i (hi : i < L.length), i < j → befP L[i] ⟨a, l, v⟩) := fun i _ hi => by omega
          obtain rfl : j = 0 := by omega
          clear cm
          have t1 : ¬ ((0 : Nat) : Int) < (0 : Int) := by omega
          have z0 := Ext.cell hcm
          have HBR : Hid (Below w2.heap.size w2 wr) := hb
          have HEND : Hid (∀ z, L[0]? = some z → ¬ befP z ⟨a, l, v⟩) := fun z hz _ => by
            rw [List.getElem?_eq_none (by have := HN.out; omega)] at hz; cases hz
          clear hb
          go_upto_region 11 with fail
          refine wp_region_ext (by kernel_rfl) (by kernel_rfl) ?_
          repeat (go_big_quiet_step (fail))
          refine wpQuiet_nil ?_
          rintro _ ⟨u, rfl⟩
          have HB4 : Hid (Below w2.heap.size w2 u.W) := HBR.out.trans (u.h.mono HBR.out.size)
          obtain ⟨w4, hw4⟩ : ∃ w4, u.W = w4 := ⟨_, rfl⟩
          rw [hw4] at HB4 ⊢
          clear hw4 z0 hcm t1
          have HX : Hid (allV (putV s a l v).1 = L.take 0 ++ ⟨a, l, v⟩ :: L.drop 0 ∧ (putV s a l v).2 = (true, 0)) := by
            refine lput_new HOK.out HPR.out (by rw [HL.out, List.take_append_drop]) (by rw [HL.out]; exact HNO.out) (by rw [HL.out, HN.out]; omega) (fun z hz => ?_) ?_
            · obtain ⟨i, hi, rfl⟩ := List.mem_iff_getElem.1 hz
              rw [List.length_take] at hi
              rw [List.getElem_take]
              exact hbef.out i (by omega) (by omega)
            · intro z hz
              rw [List.head?_drop] at hz
              exact HEND.out z hz
          have hj : 0 ≤ L.length := by have := HN.out; omega
          have HBJ : Hid (Below w.heap.size w w4) := HB2.out.trans (HB4.out.mono HB2.out.size)
          have HV4 : Hid (RV w4 F mb (.slice none 0 0) L) := HV2.out.below HB4.out
          have HP4 : Hid (PairAt w4 w.heap.size a l) := HP2.out.below HP2.out.lt HB4.out
          have cm := HV4.out.cell
          have tl1 : (0 : Int) ≤ ((0 : Nat) : Int) := by omega
          have tl2 : ((0 : Nat) : Int) ≤ (0 : Int) := by omega
          have tl3 : ((0 : Nat) : Int) ≤ (0 : Int) := by omega
          have hsz4 : w.heap.size ≤ w4.heap.size := HBJ.out.size
          have hS1 : Prs w4 (.slice none 0 0) (L.take 0) := .inl ⟨by simp, _, _, rfl⟩
          go_upto_region 15 with (at_builtin; refine wpList_append_prs rfl (.tmp 56) (.tmp 62) rfl w.heap.size (.slice none 0 0) [] rfl (OwnR.nil _ _) _ (L.take 0) rfl hS1 (by rw [List.length_take]; simp only [List.length_nil]; omega) hsz4 ?_; intro v5 w5 own5 grow5 n5)
          rw [List.nil_append] at own5
          have HV5 : Hid (RV w5 F mb (.slice none 0 0) L) := HV4.out.grown grow5 (fun k hk => by cases hk) (fun k hk => by have := HF.out k hk; omega)
          have hT5 : Turn F w w5 := (Turn.of_below HBJ.out F).grown grow5 (fun k hk => by cases hk)
          have hsz5 : w.heap.size < w5.heap.size := by have := HP4.out.lt; have := grow5.size; omega
          have hP5 : w5.cell? ⟨w.heap.size, 0, none⟩ = some (.int .i64 a) ∧ w5.cell? ⟨w.heap.size, 1, none⟩ = some (.int .i64 l) := ⟨grow5.cell HP4.out.1 (by simp [Value.ownBlock]), grow5.cell HP4.out.2.1 (by simp [Value.ownBlock])⟩
          have HT5 : Hid (Turn F w w5) := hT5
          obtain ⟨d0, d1⟩ := hP5
          have hO5 : ∀ k, v5.ownBlock = some k → w.heap.size ≤ k := fun k hk => (own5.block k hk).1
          have hl5 : (L.take 0).length ≤ 1000000 := by rw [List.length_take]; omega
          have HS4 : Hid (w4.heap.size ≤ w5.heap.size) := grow5.size
          clear cm hS1 grow5 n5 hT5
          go_upto_region 16 with (at_builtin; refine wpList_append_pr rfl (.tmp 64) (.tmp 68) rfl w.heap.size v5 (L.take 0) rfl own5 ⟨a, l, v⟩ rfl hl5 (Nat.le_of_lt hsz5) ?_; intro g6 cap6 w6; generalize (L.take 0).length + 1 = M6; intro own6 grow6 n6)
          have HA6 : Hid (Below w5.heap.size w5 (w5.alloc (.cells #[.int .i64 a, .int .i64 l, .int .i64 v] 34))) := (Below.refl _ _).alloc (Nat.le_refl _) _
          have HV6 : Hid (RV w6 F mb (.slice none 0 0) L) := (HV5.out.below HA6.out).grown grow6 (fun k hk hf => by have := hO5 k hk; have := HF.out k hf; omega) (fun k hk => by have := HF.out k hk; have := HA6.out.size; omega)
          have HT6 : Hid (Turn F w w6) := (HT5.out.trans (Turn.of_below HA6.out F)).grown grow6 hO5
          have hsz6 : w.heap.size ≤ w6.heap.size := HT6.out.size
          have hO6 : ∀ k, (Value.slice (some ⟨g6, 0, none⟩) M6 cap6).ownBlock = some k → w.heap.size ≤ k := fun k hk => (own6.block k hk).1
          have cm := HV6.out.cell
          have fm := HV6.out.free
          have hS2 : Prs w6 (.slice none 0 0) (L.drop 0) := .inl ⟨by rw [List.drop_eq_nil_iff]; have := HN.out; omega, _, _, rfl⟩
          have hl6 : (L.take 0 ++ [(⟨a, l, v⟩ : Pr)]).length + (L.drop 0).length ≤ 1000000 := by simp only [List.length_append, List.length_take, List.length_drop, List.length_singleton]; have := HN.out; omega
          clear own5 grow6 n6 d0 d1 hO5 hl5
          have HO6 : Hid (∀ k, (Value.slice (some ⟨g6, 0, none⟩) M6 cap6).ownBlock = some k → w.heap.size ≤ k) := hO6
          clear cm fm hO6
          have cm6 := HV6.out.cell
          go_wp2_with (at_builtin; refine wpList_append_prs rfl (.tmp 71) (.tmp 77) rfl w.heap.size (.slice (some ⟨g6, 0, none⟩) M6 cap6) (L.take 0 ++ [⟨a, l, v⟩]) rfl own6 _ (L.drop 0) rfl hS2 hl6 hsz6 ?_; intro v7 w7 own7 grow7 n7; obtain ⟨a7, c7, hv7⟩ := own7.len; generalize (L.take 0 ++ [(⟨a, l, v⟩ : Pr)] ++ L.drop 0).length = M7 at hv7; subst hv7; have HV7 : Hid (RV w7 F mb (.slice none 0 0) L) := HV6.out.grown grow7 (fun k hk hf => by have := HO6.out k hk; have := HF.out k hf; omega) (fun k hk => by have := HF.out k hk; omega); have HT7 : Hid (Turn F w w7) := HT6.out.grown grow7 HO6.out; have HOW7 : Hid (OwnR w7 w.heap.size (.slice a7 M7 c7) (L.take 0 ++ [⟨a, l, v⟩] ++ L.drop 0)) := own7; have cm7 := HV7.out.cell; have fm7 := HV7.out.free; clear own7 grow7 n7 cm6)
          all_goals
            go_ret2
            refine ⟨by rw [HX.out.2]; rfl, ?_, HT7.out.trans (Turn.of_only ((Only.refl mb _).setCell _ _) HV7.out.own)⟩
            have hL := HV7.out.lay (w := w) HV.out.lt HOW7.out
            rw [HX.out.1]
            rw [List.append_assoc, List.singleton_append] at hL
            exact ⟨_, hL⟩

      · go_upto_region 11 with fail
        go_loopw [9] (fun i wr => ∃ j : Nat, j ≤ N ∧ i = .int .i64 (j : Int) ∧ Below w2.heap.size w2 wr ∧ Hid (∀ i (hi : i < L.length), i < j → befP L[i] ⟨a, l, v⟩)) (fun i _ => ((N : Int) - intOf i).toNat)
        case atStart => exact ⟨0, by omega, rfl, Below.refl _ _, fun j _ hj => by omega⟩
        case round =>
          obtain ⟨j, hjn, rfl, hb, hbef⟩ := hrel
          have hcm := (HV2.out.below hb).cell
          clear cm
          by_cases hjN : j < N
          · have t1 : (j : Int) < (N : Int) := by omega
            have t2 : (0 : Int) ≤ (j : Int) := by omega
            have hkp : j < L.length := by have := HN.out; omega
            obtain ⟨x0, x1, x2⟩ := (HV2.out.below hb).row.cells j hkp
            obtain ⟨y0, y1, _, _⟩ := HP2.out.below HP2.out.lt hb
            obtain ⟨q, hq⟩ : ∃ q, L[j] = q := ⟨_, rfl⟩
            rw [hq] at x0 x1 x2
            have HQ : Hid (L[j] = q) := hq
            have hx1' : cv ≤ 9223372036854775807 := by unfold maxLen at hcm0; omega
            have HBR : Hid (Below w2.heap.size w2 wr) := hb
            have hbe := fun W => before_any q.a q.l a l W
            clear hb hq x2
            rcases hbb : befB q.a q.l a l with _ | _
            · as_aux_lemma =>
              rw [hbb] at hbe
              have z0 := Ext.cell hcm
              have z1 := Ext.cell x0
              have z2 := Ext.cell x1
              have z3 := Ext.cell y0
              have z4 := Ext.cell y1
              have hcl := Ext.call (w := wr) hbe
              go_upto_region 11 with fail
              refine wp_region_ext (by kernel_rfl) (by kernel_rfl) ?_
              repeat (go_big_quiet_step ((go_at_call 22; exact hcl _)))
              refine wpQuiet_nil ?_
              rintro _ ⟨u, rfl⟩
              have HB4 : Hid (Below w2.heap.size w2 u.W) := HBR.out.trans (u.h.mono HBR.out.size)
              obtain ⟨w4, hw4⟩ : ∃ w4, u.W = w4 := ⟨_, rfl⟩
              rw [hw4] at HB4 ⊢
              have HEND : Hid (∀ z, L[j]? = some z → ¬ befP z ⟨a, l, v⟩) := fun z hz hbz => by
                rw [List.getElem?_eq_getElem hkp, HQ.out, Option.some.injEq] at hz
                subst hz
                unfold befB at hbb; unfold befP at hbz; simp only at hbz
                simp only [Bool.or_eq_false_iff, Bool.and_eq_false_iff, decide_eq_false_iff_not] at hbb
                omega
              clear hw4 z0 z1 z2 z3 z4 hcl hbe hcm x0 x1 y0 y1 hbb t1 t2

              have HX : Hid (allV (putV s a l v).1 = L.take j ++ ⟨a, l, v⟩ :: L.drop j ∧ (putV s a l v).2 = (true, 0)) := by
                refine lput_new HOK.out HPR.out (by rw [HL.out, List.take_append_drop]) (by rw [HL.out]; exact HNO.out) (by rw [HL.out, HN.out]; omega) (fun z hz => ?_) ?_
                · obtain ⟨i, hi, rfl⟩ := List.mem_iff_getElem.1 hz
                  rw [List.length_take] at hi
                  rw [List.getElem_take]
                  exact hbef.out i (by omega) (by omega)
                · intro z hz
                  rw [List.head?_drop] at hz
                  exact HEND.out z hz
              have hj : j ≤ L.length := by have := HN.out; omega
              have HBJ : Hid (Below w.heap.size w w4) := HB2.out.trans (HB4.out.mono HB2.out.size)
              have HV4 : Hid (RV w4 F mb (.slice (some ⟨g, 0, none⟩) N cv) L) := HV2.out.below HB4.out
              have HP4 : Hid (PairAt w4 w.heap.size a l) := HP2.out.below HP2.out.lt HB4.out
              have cm := HV4.out.cell
              have tl1 : (0 : Int) ≤ (j : Int) := by omega
              have tl2 : (j : Int) ≤ (cv : Int) := by omega
              have tl3 : (j : Int) ≤ (N : Int) := by omega
              have hsz4 : w.heap.size ≤ w4.heap.size := HBJ.out.size
              have hS1 : Prs w4 (.slice (some ⟨g, 0, none⟩) j cv) (L.take j) := (by have := Prs.upto HV4.out.row hj; simpa [sliced, Addr.add] using this)
              go_upto_region 15 with (at_builtin; refine wpList_append_prs rfl (.tmp 56) (.tmp 62) rfl w.heap.size (.slice none 0 0) [] rfl (OwnR.nil _ _) _ (L.take j) rfl hS1 (by rw [List.length_take]; simp only [List.length_nil]; omega) hsz4 ?_; intro v5 w5 own5 grow5 n5)
              rw [List.nil_append] at own5
              have HV5 : Hid (RV w5 F mb (.slice (some ⟨g, 0, none⟩) N cv) L) := HV4.out.grown grow5 (fun k hk => by cases hk) (fun k hk => by have := HF.out k hk; omega)
              have hT5 : Turn F w w5 := (Turn.of_below HBJ.out F).grown grow5 (fun k hk => by cases hk)
              have hsz5 : w.heap.size < w5.heap.size := by have := HP4.out.lt; have := grow5.size; omega
              have hP5 : w5.cell? ⟨w.heap.size, 0, none⟩ = some (.int .i64 a) ∧ w5.cell? ⟨w.heap.size, 1, none⟩ = some (.int .i64 l) := ⟨grow5.cell HP4.out.1 (by simp [Value.ownBlock]), grow5.cell HP4.out.2.1 (by simp [Value.ownBlock])⟩
              have HT5 : Hid (Turn F w w5) := hT5
              obtain ⟨d0, d1⟩ := hP5
              have hO5 : ∀ k, v5.ownBlock = some k → w.heap.size ≤ k := fun k hk => (own5.block k hk).1
              have hl5 : (L.take j).length ≤ 1000000 := by rw [List.length_take]; omega
              have HS4 : Hid (w4.heap.size ≤ w5.heap.size) := grow5.size
              clear cm hS1 grow5 n5 hT5
              go_upto_region 16 with (at_builtin; refine wpList_append_pr rfl (.tmp 64) (.tmp 68) rfl w.heap.size v5 (L.take j) rfl own5 ⟨a, l, v⟩ rfl hl5 (Nat.le_of_lt hsz5) ?_; intro g6 cap6 w6; generalize (L.take j).length + 1 = M6; intro own6 grow6 n6)
              have HA6 : Hid (Below w5.heap.size w5 (w5.alloc (.cells #[.int .i64 a, .int .i64 l, .int .i64 v] 34))) := (Below.refl _ _).alloc (Nat.le_refl _) _
              have HV6 : Hid (RV w6 F mb (.slice (some ⟨g, 0, none⟩) N cv) L) := (HV5.out.below HA6.out).grown grow6 (fun k hk hf => by have := hO5 k hk; have := HF.out k hf; omega) (fun k hk => by have := HF.out k hk; have := HA6.out.size; omega)
              have HT6 : Hid (Turn F w w6) := (HT5.out.trans (Turn.of_below HA6.out F)).grown grow6 hO5
              have hsz6 : w.heap.size ≤ w6.heap.size := HT6.out.size
              have hO6 : ∀ k, (Value.slice (some ⟨g6, 0, none⟩) M6 cap6).ownBlock = some k → w.heap.size ≤ k := fun k hk => (own6.block k hk).1
              have cm := HV6.out.cell
              have fm := HV6.out.free
              have hS2 : Prs w6 (.slice (some ⟨g, j * 3, none⟩) (N - j) (cv - j)) (L.drop j) := Prs.tail HV6.out.row (by have := HN.out; omega) (by have := HN.out; omega) (by omega) (by omega)
              have hl6 : (L.take j ++ [(⟨a, l, v⟩ : Pr)]).length + (L.drop j).length ≤ 1000000 := by simp only [List.length_append, List.length_take, List.length_drop, List.length_singleton]; have := HN.out; omega
              clear own5 grow6 n6 d0 d1 hO5 hl5
              have HO6 : Hid (∀ k, (Value.slice (some ⟨g6, 0, none⟩) M6 cap6).ownBlock = some k → w.heap.size ≤ k) := hO6
              clear cm fm hO6
              have cm6 := HV6.out.cell
              go_wp2_with (at_builtin; refine wpList_append_prs rfl (.tmp 71) (.tmp 77) rfl w.heap.size (.slice (some ⟨g6, 0, none⟩) M6 cap6) (L.take j ++ [⟨a, l, v⟩]) rfl own6 _ (L.drop j) rfl hS2 hl6 hsz6 ?_; intro v7 w7 own7 grow7 n7; obtain ⟨a7, c7, hv7⟩ := own7.len; generalize (L.take j ++ [(⟨a, l, v⟩ : Pr)] ++ L.drop j).length = M7 at hv7; subst hv7; have HV7 : Hid (RV w7 F mb (.slice (some ⟨g, 0, none⟩) N cv) L) := HV6.out.grown grow7 (fun k hk hf => by have := HO6.out k hk; have := HF.out k hf; omega) (fun k hk => by have := HF.out k hk; omega); have HT7 : Hid (Turn F w w7) := HT6.out.grown grow7 HO6.out; have HOW7 : Hid (OwnR w7 w.heap.size (.slice a7 M7 c7) (L.take j ++ [⟨a, l, v⟩] ++ L.drop j)) := own7; have cm7 := HV7.out.cell; have fm7 := HV7.out.free; clear own7 grow7 n7 cm6)
              all_goals
                go_ret2
                refine ⟨by rw [HX.out.2]; rfl, ?_, HT7.out.trans (Turn.of_only ((Only.refl mb _).setCell _ _) HV7.out.own)⟩
                have hL := HV7.out.lay (w := w) HV.out.lt HOW7.out
                rw [HX.out.1]
                rw [List.append_assoc, List.singleton_append] at hL
                exact ⟨_, hL⟩

            · as_aux_lemma =>
              rw [hbb] at hbe
              have z0 := Ext.cell hcm
              have z1 := Ext.cell x0
              have z2 := Ext.cell x1
              have z3 := Ext.cell y0
              have z4 := Ext.cell y1
              have hcl := Ext.call (w := wr) hbe
              go_upto_region 11 with fail
              refine wp_region_ext (by kernel_rfl) (by kernel_rfl) ?_
              repeat (go_big_quiet_step ((go_at_call 22; exact hcl _)))
              refine wpQuiet_nil ?_
              rintro _ ⟨u, rfl⟩
              have HB4 : Hid (Below w2.heap.size w2 u.W) := HBR.out.trans (u.h.mono HBR.out.size)
              obtain ⟨w4, hw4⟩ : ∃ w4, u.W = w4 := ⟨_, rfl⟩
              rw [hw4] at HB4 ⊢
              have HZ : Hid (∀ i (hi : i < L.length), i < j + 1 → befP L[i] ⟨a, l, v⟩) := fun i hi hij => by
                by_cases hij' : i = j
                · subst hij'; rw [HQ.out]
                  unfold befB at hbb; unfold befP; simp only
                  simp only [Bool.or_eq_true, Bool.and_eq_true, decide_eq_true_eq] at hbb
                  exact hbb
                · exact hbef.out i hi (by omega)
              clear hw4 z0 z1 z2 z3 z4 hcl hbe hcm x0 x1 y0 y1 hbb
              go_wp2_with fail
              go_roundw
              case rel => exact ⟨j + 1, by omega, by go_num, HB4.out, HZ⟩
              case measure => simp [intOf]; omega
          · have hjN' : N ≤ j := by omega
            clear hjN
            as_aux_lemma =>
              have t1 : ¬ (j : Int) < (N : Int) := by omega
              have z0 := Ext.cell hcm
              have HBR : Hid (Below w2.heap.size w2 wr) := hb
              have HEND : Hid (∀ z, L[j]? = some z → ¬ befP z ⟨a, l, v⟩) := fun z hz _ => by
                rw [List.getElem?_eq_none (by have := HN.out; omega)] at hz; cases hz
              clear hb
              go_upto_region 11 with fail
              refine wp_region_ext (by kernel_rfl) (by kernel_rfl) ?_
              repeat (go_big_quiet_step (fail))
              refine wpQuiet_nil ?_
              rintro _ ⟨u, rfl⟩
              have HB4 : Hid (Below w2.heap.size w2 u.W) := HBR.out.trans (u.h.mono HBR.out.size)
              obtain ⟨w4, hw4⟩ : ∃ w4, u.W = w4 := ⟨_, rfl⟩
              rw [hw4] at HB4 ⊢
              clear hw4 z0 hcm t1
              have HX : Hid (allV (putV s a l v).1 = L.take j ++ ⟨a, l, v⟩ :: L.drop j ∧ (putV s a l v).2 = (true, 0)) := by
                refine lput_new HOK.out HPR.out (by rw [HL.out, List.take_append_drop]) (by rw [HL.out]; exact HNO.out) (by rw [HL.out, HN.out]; omega) (fun z hz => ?_) ?_
                · obtain ⟨i, hi, rfl⟩ := List.mem_iff_getElem.1 hz
                  rw [List.length_take] at hi
                  rw [List.getElem_take]
                  exact hbef.out i (by omega) (by omega)
                · intro z hz
                  rw [List.head?_drop] at hz
                  exact HEND.out z hz
              have hj : j ≤ L.length := by have := HN.out; omega
              have HBJ : Hid (Below w.heap.size w w4) := HB2.out.trans (HB4.out.mono HB2.out.size)
              have HV4 : Hid (RV w4 F mb (.slice (some ⟨g, 0, none⟩) N cv) L) := HV2.out.below HB4.out
              have HP4 : Hid (PairAt w4 w.heap.size a l) := HP2.out.below HP2.out.lt HB4.out
              have cm := HV4.out.cell
              have tl1 : (0 : Int) ≤ (j : Int) := by omega
              have tl2 : (j : Int) ≤ (cv : Int) := by omega
              have tl3 : (j : Int) ≤ (N : Int) := by omega
              have hsz4 : w.heap.size ≤ w4.heap.size := HBJ.out.size
              have hS1 : Prs w4 (.slice (some ⟨g, 0, none⟩) j cv) (L.take j) := (by have := Prs.upto HV4.out.row hj; simpa [sliced, Addr.add] using this)
              go_upto_region 15 with (at_builtin; refine wpList_append_prs rfl (.tmp 56) (.tmp 62) rfl w.heap.size (.slice none 0 0) [] rfl (OwnR.nil _ _) _ (L.take j) rfl hS1 (by rw [List.length_take]; simp only [List.length_nil]; omega) hsz4 ?_; intro v5 w5 own5 grow5 n5)
              rw [List.nil_append] at own5
              have HV5 : Hid (RV w5 F mb (.slice (some ⟨g, 0, none⟩) N cv) L) := HV4.out.grown grow5 (fun k hk => by cases hk) (fun k hk => by have := HF.out k hk; omega)
              have hT5 : Turn F w w5 := (Turn.of_below HBJ.out F).grown grow5 (fun k hk => by cases hk)
              have hsz5 : w.heap.size < w5.heap.size := by have := HP4.out.lt; have := grow5.size; omega
              have hP5 : w5.cell? ⟨w.heap.size, 0, none⟩ = some (.int .i64 a) ∧ w5.cell? ⟨w.heap.size, 1, none⟩ = some (.int .i64 l) := ⟨grow5.cell HP4.out.1 (by simp [Value.ownBlock]), grow5.cell HP4.out.2.1 (by simp [Value.ownBlock])⟩
              have HT5 : Hid (Turn F w w5) := hT5
              obtain ⟨d0, d1⟩ := hP5
              have hO5 : ∀ k, v5.ownBlock = some k → w.heap.size ≤ k := fun k hk => (own5.block k hk).1
              have hl5 : (L.take j).length ≤ 1000000 := by rw [List.length_take]; omega
              have HS4 : Hid (w4.heap.size ≤ w5.heap.size) := grow5.size
              clear cm hS1 grow5 n5 hT5
              go_upto_region 16 with (at_builtin; refine wpList_append_pr rfl (.tmp 64) (.tmp 68) rfl w.heap.size v5 (L.take j) rfl own5 ⟨a, l, v⟩ rfl hl5 (Nat.le_of_lt hsz5) ?_; intro g6 cap6 w6; generalize (L.take j).length + 1 = M6; intro own6 grow6 n6)
              have HA6 : Hid (Below w5.heap.size w5 (w5.alloc (.cells #[.int .i64 a, .int .i64 l, .int .i64 v] 34))) := (Below.refl _ _).alloc (Nat.le_refl _) _
              have HV6 : Hid (RV w6 F mb (.slice (some ⟨g, 0, none⟩) N cv) L) := (HV5.out.below HA6.out).grown grow6 (fun k hk hf => by have := hO5 k hk; have := HF.out k hf; omega) (fun k hk => by have := HF.out k hk; have := HA6.out.size; omega)
              have HT6 : Hid (Turn F w w6) := (HT5.out.trans (Turn.of_below HA6.out F)).grown grow6 hO5
              have hsz6 : w.heap.size ≤ w6.heap.size := HT6.out.size
              have hO6 : ∀ k, (Value.slice (some ⟨g6, 0, none⟩) M6 cap6).ownBlock = some k → w.heap.size ≤ k := fun k hk => (own6.block k hk).1
              have cm := HV6.out.cell
              have fm := HV6.out.free
              have hS2 : ∀ a c, Prs w6 (.slice a 0 c) (L.drop j) := fun a c => .inl ⟨by rw [List.drop_eq_nil_iff]; have := HN.out; omega, a, c, rfl⟩
              have hl6 : (L.take j ++ [(⟨a, l, v⟩ : Pr)]).length + (L.drop j).length ≤ 1000000 := by simp only [List.length_append, List.length_take, List.length_drop, List.length_singleton]; have := HN.out; omega
              clear own5 grow6 n6 d0 d1 hO5 hl5
              have HO6 : Hid (∀ k, (Value.slice (some ⟨g6, 0, none⟩) M6 cap6).ownBlock = some k → w.heap.size ≤ k) := hO6
              clear cm fm hO6
              have cm6 := HV6.out.cell
              go_wp2_with (at_builtin; refine wpList_append_prs rfl (.tmp 71) (.tmp 77) rfl w.heap.size (.slice (some ⟨g6, 0, none⟩) M6 cap6) (L.take j ++ [⟨a, l, v⟩]) rfl own6 _ (L.drop j) rfl (hS2 _ _) hl6 hsz6 ?_; intro v7 w7 own7 grow7 n7; obtain ⟨a7, c7, hv7⟩ := own7.len; generalize (L.take j ++ [(⟨a, l, v⟩ : Pr)] ++ L.drop j).length = M7 at hv7; subst hv7; have HV7 : Hid (RV w7 F mb (.slice (some ⟨g, 0, none⟩) N cv) L) := HV6.out.grown grow7 (fun k hk hf => by have := HO6.out k hk; have := HF.out k hf; omega) (fun k hk => by have := HF.out k hk; omega); have HT7 : Hid (Turn F w w7) := HT6.out.grown grow7 HO6.out; have HOW7 : Hid (OwnR w7 w.heap.size (.slice a7 M7 c7) (L.take j ++ [⟨a, l, v⟩] ++ L.drop j)) := own7; have cm7 := HV7.out.cell; have fm7 := HV7.out.free; clear own7 grow7 n7 cm6)
              all_goals
                go_ret2
                refine ⟨by rw [HX.out.2]; rfl, ?_, HT7.out.trans (Turn.of_only ((Only.refl mb _).setCell _ _) HV7.out.own)⟩
                have hL := HV7.out.lay (w := w) HV.out.lt HOW7.out
                rw [HX.out.1]
                rw [List.append_assoc, List.singleton_append] at hL
                exact ⟨_, hL⟩

  · have HZ : Hid (∀ w', Below w.heap.size w w' → RPuts F mb s a l v w (.returned (.tuple #[.bool false, .int .i64 (prefE a l)])) w') := fun w' hb => rputs_stay hV (lput_bad hp) hb
    generalize prefE a l = n at hpr hp HZ
    have i1 : ¬ n = 0 := hp
    clear hV hF hs hL hp hB hve hn
    go_enter Tryd.func5, Tryd.ntmps5
    go_wp2_with (go_at_call 8; refine hpr.mono ?_; rintro e w1 ⟨rfl, b1⟩)
    go_ret2
    exact HZ.out w1 (HB.out.trans (b1.mono HB.out.size))
end Go.Proofs.YtdpnmhfhjcebbaaDoor
