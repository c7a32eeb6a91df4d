/- What Drop of the reference's list does. -/
import Derived.Test.YtdpnmhfhjcebbaaDoorRefT2
namespace Go.Proofs.YtdpnmhfhjcebbaaDoor
open Go.RowKit
set_option linter.unusedVariables false
set_option maxRecDepth 4000

/-- What Drop returns and leaves. -/
def RDrops (F : Nat → Prop) (mb : Nat) (s : Tv) (a l : Int) (w : World) (e : Ending) (w' : World) : Prop :=
  e = .returned (.bool (dropV s a l).2.1) ∧ RT w' (Plus F w w') mb (allV (dropV s a l).1) ∧ Turn F w w'
set_option maxHeartbeats 16000000 in
theorem refDrop_any (F : Nat → Prop) (mb : Nat) (s : Tv) (hs : OkV s) (a l : Int) (w : World) (h : RT w F mb (allV s)) (hF : ∀ k, F k → k < w.heap.size) (hn : (allV s).length ≤ 200) (hp : prefE a l = 0) :
    Calls Tryd.prog 9 #[.pointer (some ⟨mb, 0, none⟩), .agg #[.int .i64 a, .int .i64 l]] w (RDrops F mb s a l w) := by
  obtain ⟨V, hV⟩ := h
  obtain ⟨av, cv, hve⟩ := hV.row.len
  obtain ⟨L, hL⟩ : ∃ L, allV s = L := ⟨_, rfl⟩
  have HB : Hid (Below w.heap.size w (w.alloc (.cells #[.int .i64 a, .int .i64 l] 25))) := (Below.refl _ _).alloc (Nat.le_refl _) _
  have HV : Hid (RV w F mb V (allV s)) := hV
  have HF : Hid (∀ k, F k → k < w.heap.size) := hF
  have HOK : Hid (OkV s) := hs
  have HL : Hid (allV s = L) := hL
  have HPR : Hid (prefE a l = 0) := hp
  rw [hL] at hve hn
  obtain ⟨N, hN⟩ : ∃ N, L.length = N := ⟨_, rfl⟩
  rw [hN] at hve hn
  subst hve
  have HN : Hid (L.length = N) := hN
  clear hV hF hs hL hp hN
  go_enter Tryd.func9, Tryd.ntmps9
  go_upto_region 2 with (go_at_call 21; refine (refAt_any F mb _ L a l _ (by have := HV.out.below HB.out; rw [HL.out] at this; exact this)).mono ?_; rintro e w2 ⟨r, rfl, hats, b2⟩)
  have HB2 : Hid (Below w.heap.size w w2) := HB.out.trans (b2.mono HB.out.size)
  have HV2 : Hid (RV w2 F mb (.slice av N cv) L) := by have := HV.out.below HB2.out; rw [HL.out] at this; exact this
  clear b2
  rcases hats with ⟨k, hk, rfl, ea, el⟩ | ⟨rfl, hno⟩
  · obtain ⟨A, B, hAB, hA⟩ := list_at hk
    have hNk : k < N := by have := HN.out; omega
    obtain ⟨g, cap, hve, _, hg, hl, hx⟩ := HV2.out.row.shape (by omega)
    simp only [Value.slice.injEq] at hve
    obtain ⟨rfl, hNL, rfl⟩ := hve
    clear hNL
    have hNc : N ≤ cv := by have := HN.out; omega
    have HXM : Hid (cv ≤ maxLen) := hx
    generalize L[k] = x at hAB ea el
    subst ea el
    obtain ⟨e1, e2⟩ := ldrop_old HOK.out (by rw [HL.out]; exact hAB)
    obtain ⟨m, hm⟩ : ∃ m : Nat, k + 1 = m := ⟨_, rfl⟩
    have hAk : A = L.take k := by rw [hAB, ← hA]; simp
    have hBk : B = L.drop m := by rw [hAB, ← hm, ← hA]; simp
    have HX : Hid (allV (dropV s x.a x.l).1 = L.take k ++ L.drop m ∧ (dropV s x.a x.l).2 = (true, 0)) := ⟨by rw [e1, hAk, hBk], e2⟩
    have tm : (k : Int) + 1 = (m : Int) := by omega
    have HM : Hid (k + 1 = m) := hm
    have hmN : m ≤ N := by omega
    have hj : k ≤ L.length := by omega
    have cm := HV2.out.cell
    have i0 : ¬ (k : Int) < 0 := by omega
    have tl1 : (0 : Int) ≤ (k : Int) := by omega
    have tl2 : (k : Int) ≤ (cv : Int) := by omega
    have tl3 : (0 : Int) ≤ (m : Int) := by omega
    have tl4 : (m : Int) ≤ (N : Int) := by omega
    have hsz2 : w.heap.size ≤ w2.heap.size := HB2.out.size
    have hS1 : Prs w2 (.slice (some ⟨g, 0, none⟩) k cv) (L.take k) := (by have := Prs.upto HV2.out.row hj; simpa [sliced, Addr.add] using this)
    clear e1 e2 hAB hA hAk hBk hm hg hx hk hl
    go_upto_region 6 with (at_builtin; refine wpList_append_prs rfl (.tmp 12) (.tmp 18) rfl w.heap.size (.slice none 0 0) [] rfl (OwnR.nil _ _) _ (L.take k) rfl hS1 (by rw [List.length_take]; simp only [List.length_nil]; omega) hsz2 ?_; intro v5 w5 own5 grow5 n5)
    rw [List.nil_append] at own5
    have HV5 : Hid (RV w5 F mb (.slice (some ⟨g, 0, none⟩) N cv) L) := HV2.out.grown grow5 (fun k hk => by cases hk) (fun k hk => by have := HF.out k hk; omega)
    have HT5 : Hid (Turn F w w5) := (Turn.of_below HB2.out F).grown grow5 (fun k hk => by cases hk)
    have hsz5 : w.heap.size ≤ w5.heap.size := HT5.out.size
    have HO5 : Hid (∀ k, v5.ownBlock = some k → w.heap.size ≤ k) := fun k hk => (own5.block k hk).1
    have cm5 := HV5.out.cell
    have hl6 : (L.take k).length + (L.drop m).length ≤ 1000000 := by simp only [List.length_take, List.length_drop]; have := HN.out; omega
    clear cm hS1 grow5 n5
    by_cases hmn : m < N
    · have hS2 : Prs w5 (.slice (some ⟨g, m * 3, none⟩) (N - m) (cv - m)) (L.drop m) := Prs.tail HV5.out.row (by have := HN.out; omega) (by have := HN.out; omega) (by omega) (by have := HXM.out; omega)
      go_wp2_with (at_builtin; refine wpList_append_prs rfl (.tmp 21) (.tmp 28) rfl w.heap.size v5 (L.take k) rfl own5 _ (L.drop m) rfl hS2 hl6 hsz5 ?_; intro v7 w7 own7 grow7 n7; obtain ⟨a7, c7, hv7⟩ := own7.len; generalize (L.take k ++ L.drop m).length = M7 at hv7; subst hv7; have HV7 : Hid (RV w7 F mb (.slice (some ⟨g, 0, none⟩) N cv) L) := HV5.out.grown grow7 (fun k hk hf => by have := HO5.out k hk; have := HF.out k hf; omega) (fun k hk => by have := HF.out k hk; omega); have HT7 : Hid (Turn F w w7) := HT5.out.grown grow7 HO5.out; have HOW7 : Hid (OwnR w7 w.heap.size (.slice a7 M7 c7) (L.take k ++ L.drop m)) := own7; have cm7 := HV7.out.cell; have fm7 := HV7.out.free; clear own7 grow7 n7 cm5)
      all_goals
        go_ret
        refine ⟨by rw [HX.out.2]; rfl, ?_, HT7.out.trans (Turn.of_only ((Only.refl mb _).setCell _ _) HV7.out.own)⟩
        have hL := HV7.out.lay (w := w) HV.out.lt HOW7.out
        rw [HX.out.1]
        exact ⟨_, hL⟩
    · have hNm : N ≤ m := by omega
      clear hmn
      have hS2 : ∀ a c, Prs w5 (.slice a 0 c) (L.drop m) := fun a c => .inl ⟨by rw [List.drop_eq_nil_iff]; have := HN.out; omega, a, c, rfl⟩
      go_wp2_with (at_builtin; refine wpList_append_prs rfl (.tmp 21) (.tmp 28) rfl w.heap.size v5 (L.take k) rfl own5 _ (L.drop m) rfl (hS2 _ _) hl6 hsz5 ?_; intro v7 w7 own7 grow7 n7; obtain ⟨a7, c7, hv7⟩ := own7.len; generalize (L.take k ++ L.drop m).length = M7 at hv7; subst hv7; have HV7 : Hid (RV w7 F mb (.slice (some ⟨g, 0, none⟩) N cv) L) := HV5.out.grown grow7 (fun k hk hf => by have := HO5.out k hk; have := HF.out k hf; omega) (fun k hk => by have := HF.out k hk; omega); have HT7 : Hid (Turn F w w7) := HT5.out.grown grow7 HO5.out; have HOW7 : Hid (OwnR w7 w.heap.size (.slice a7 M7 c7) (L.take k ++ L.drop m)) := own7; have cm7 := HV7.out.cell; have fm7 := HV7.out.free; clear own7 grow7 n7 cm5)
      all_goals
        go_ret
        refine ⟨by rw [HX.out.2]; rfl, ?_, HT7.out.trans (Turn.of_only ((Only.refl mb _).setCell _ _) HV7.out.own)⟩
        have hL := HV7.out.lay (w := w) HV.out.lt HOW7.out
        rw [HX.out.1]
        exact ⟨_, hL⟩
  · have i0 : (-1 : Int) < 0 := by omega
    have HZ : Hid (RDrops F mb s a l w (.returned (.bool false)) w2) := by
      have e := ldrop_none HOK.out HPR.out (by rw [HL.out]; exact hno)
      refine ⟨by rw [e], ?_, Turn.of_below HB2.out F⟩
      rw [e]
      exact ⟨_, (HV.out.below HB2.out).mono (fun k hk => .inl hk)⟩
    clear hno
    go_wp2_with fail
    go_ret
    exact HZ.out
end Go.Proofs.YtdpnmhfhjcebbaaDoor
