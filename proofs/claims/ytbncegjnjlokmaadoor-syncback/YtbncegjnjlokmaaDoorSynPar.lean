/- What parse of package sync returns: the numbers of the note that any bytes begin with, in a row of the call's own, and how many bytes they are. -/
import Derived.Test.YtbncegjnjlokmaaDoorSynRd
import Derived.Test.YtbncegjnjlokmaaDoorSynChk
import Derived.Test.YtbncegjnjlokmaaDoorOwnI
namespace Go.Proofs.YtbncegjnjlokmaaDoor
open Go.RowKit
set_option linter.unusedVariables false

theorem view_drop {w : World} {b off len cap : Nat} {zs : List Int} (hr : Row w b off zs) (hz : zs.length = len) (hl : len ≤ cap) (hm : cap ≤ maxLen) (h62 : len < 2 ^ 62) (k o : Nat) (hk : k ≤ len) (ho : o = off + k ∨ len = k) :
    Bytes w (.slice (some ⟨b, o, none⟩) (len - k) (cap - k)) (zs.drop k) := by
  by_cases h : len = k
  · refine .inl ⟨List.drop_eq_nil_of_le (by omega), some ⟨b, o, none⟩, cap - k, ?_, fun e => by cases e⟩
    rw [show len - k = 0 by omega]
  · obtain rfl : o = off + k := by omega
    have hp := hr.part k (len - k) (by omega)
    rw [List.take_of_length_le (by simp; omega)] at hp
    exact .inr ⟨b, off + k, len - k, cap - k, rfl, by omega, by omega, by omega, by simp; omega, hp⟩
theorem errV_ne {z : Int} (h : ¬ z = 0) : errV z = .iface 70 (.int .i64 z) := by unfold errV; rw [if_neg h]
theorem errV_0 : errV 0 = .nilIface := rfl
theorem par_len (zs : List Int) : (parL zs).2.1.length ≤ 16 := by
  have hp : ∀ (m : Nat) (acc : List Int) (used : Nat) (b : List Int), (psI m acc used b).2.1.length ≤ acc.length + m := by
    intro m
    induction m with
    | zero => intro acc used b; simp [psI]
    | succ m ih =>
      intro acc used b
      simp only [psI]; split
      · simp
      · refine Nat.le_trans (ih _ _ _) ?_
        simp; omega
  unfold parL; split
  · simp
  · split
    · simp
    · rename_i h2
      refine Nat.le_trans (hp _ _ _ _) ?_
      have hm : manyN (rdL zs).2.1 ≤ 16 := by unfold manyN; split <;> (try split) <;> (try split) <;> omega
      simp; omega
/-- What noteOf is said to return. -/
def NoteOfSays : Prop := ∀ (lv : Value) (l : List Int) (base : Nat) (w : World), OwnI w base lv l → l.length ≤ 16 →
    Calls Tryd.prog 33 #[lv] w fun e w' => e = .returned (ntV (noteL l)) ∧ Below w.heap.size w w'
set_option maxRecDepth 100000 in
set_option maxHeartbeats 4000000 in
theorem parse_any (v : Value) (zs : List Int) (w : World) (h : Bytes w v zs) :
    Calls Tryd.prog 32 #[v] w fun e w' => ∃ lv, e = .returned (.tuple #[lv, .int .i64 ((parL zs).2.2 : Nat), errV (parL zs).1]) ∧ OwnI w' w.heap.size lv (parL zs).2.1 ∧ Below w.heap.size w w' := by
  have c0 := nrd_any v zs w h
  obtain ⟨R, HR⟩ : ∃ R, Hid (R = parL zs) := ⟨_, rfl⟩
  rw [← HR.out]
  have hR := HR.out
  unfold parL at hR
  by_cases h1 : (rdL zs).1 = 0
  · rw [if_neg (fun e => e h1)] at hR
    rw [h1, errV_0] at c0
    by_cases h2 : manyN (rdL zs).2.1 = 0
    · rw [if_pos h2] at hR
      subst hR
      have hM := fun W => many_any (rdL zs).2.1 W
      rw [h2] at hM
      generalize (rdL zs).2.1 = t at c0 hM
      clear HR h1 h2
      go_enter Tryd.func32, Tryd.ntmps32
      go_wp2_with (first | (go_at_call 45; refine c0.mono ?_; rintro e w2 ⟨rfl, rfl⟩) | (go_at_call 41; refine (hM _).mono ?_; rintro e w2 ⟨rfl, rfl⟩))
      go_ret3
      exact ⟨_, rfl, OwnI.nil _ _, Below.refl _ _⟩
    · rw [if_neg h2] at hR
      have hM := fun W => many_any (rdL zs).2.1 W
      have hu := rdL_used h1
      rcases h with ⟨rfl, _⟩ | ⟨b, off, len, cap, rfl, hl, hm, h62, hz, hrow⟩
      · simp [rdL, rdG] at h1
      have hz0 : 0 < zs.length := by
        cases zs with
        | nil => simp [rdL, rdG] at h1
        | cons x l => simp
      have hm16 : manyN (rdL zs).2.1 ≤ 16 := by unfold manyN; split <;> (try split) <;> (try split) <;> omega
      have HT0 : Hid (psI (manyN (rdL zs).2.1 - 1) [(rdL zs).2.1] (rdL zs).2.2 zs = R) := hR.symm
      have e0 : (((manyN (rdL zs).2.1 : Nat) : Int) == 0) = false := by simp; omega
      generalize (rdL zs).2.1 = t at c0 hM hm16 HT0 e0 h2
      generalize (rdL zs).2.2 = u at c0 hu HT0
      generalize manyN t = m at hM hm16 HT0 e0 h2
      clear HR h1 hR
      go_enter Tryd.func32, Tryd.ntmps32
      go_upto_region 6 with (first | (go_at_call 45; refine c0.mono ?_; rintro e w2 ⟨rfl, rfl⟩) | (go_at_call 41; refine (hM _).mono ?_; rintro e w2 ⟨rfl, rfl⟩))
      clear c0 e0
      go_wp2_with (at_builtin; refine wpList_append_int rfl (.tmp 22) (.tmp 24) rfl w2.heap.size _ [] rfl (OwnI.nil _ _) t rfl (by simp) (Nat.le_refl _) ?_; intro v3 w3 own3 gr3 n3)
      clear n3
      have b3 : Below w2.heap.size w2 w3 := ((Below.refl _ _).alloc (Nat.le_refl _) _).grown gr3 (by simp) (fun j hj => by cases hj)
      clear gr3
      rw [List.nil_append] at own3
      go_loopw [2, 3] (fun vl vu wr => ∃ (k used : Nat) (acc : List Int), acc.length + k = m ∧ vu = .int .i64 (used : Int) ∧ used ≤ len ∧ OwnI wr w2.heap.size vl acc ∧ Below w2.heap.size w2 wr ∧ Hid (psI k acc used zs = R)) (fun vl _ _ => (m - (match vl with | .slice _ n _ => n | _ => 0)))
      case atStart => exact ⟨m - 1, u, [t], by simp; omega, rfl, by omega, own3, b3, HT0⟩
      case round =>
        obtain ⟨k, used, acc, hk, rfl, hus, own, b4, hT⟩ := hrel
        obtain ⟨ao, ca, rfl⟩ := own.form
        have hrow4 := hrow.below (hrow.lt hz0) b4
        cases k with
        | zero =>
          have HX : Hid (R = (0, acc, used)) := by
            show R = _
            rw [← hT.out]; rfl
          have hlt : ¬ ((acc.length : Int) < (m : Int)) := by omega
          clear hT
          go_wp2_with (go_at_call 41; refine (hM _).mono ?_; rintro e w5 ⟨rfl, rfl⟩)
          go_ret3
          rw [HX.out]
          exact ⟨_, rfl, own, b4⟩
        | succ k =>
          have hlt : ((acc.length : Int) < (m : Int)) := by omega
          have hTT := hT.out
          simp only [psI] at hTT
          have hw := fun h => rdL_used (b := zs.drop used) h
          rw [List.length_drop, hz] at hw
          have cRR : ∀ o, (o = off + used ∨ len = used) → Calls Tryd.prog 45 #[.slice (some ⟨b, o, none⟩) (len - used) (cap - used)] wr fun e w' => e = .returned (.tuple #[.int .i64 (rdL (zs.drop used)).2.1, .int .i64 ((rdL (zs.drop used)).2.2 : Nat), errV (rdL (zs.drop used)).1]) ∧ w' = wr :=
            fun o ho => nrd_any _ _ wr (view_drop hrow4 hz hl hm h62 used o hus ho)
          generalize (rdL (zs.drop used)).2.1 = n at cRR hTT
          generalize (rdL (zs.drop used)).2.2 = wd at cRR hTT hw
          have hle : acc.length ≤ 16 := by omega
          clear hT hrow4
          by_cases hc : cap = used
          · have HX : Hid (R = (8, [], 0)) := by
              show R = _
              have e : rdL (zs.drop used) = (8, 0, 0) := by rw [List.drop_eq_nil_of_le (by omega)]; rfl
              rw [e] at hTT
              rw [← hTT]; rfl
            have cR := nrd_none (some ⟨b, off, none⟩) 0 wr
            obtain rfl : len = used := by omega
            subst hc
            clear hTT hw cRR
            go_wp2_with (first | (go_at_call 41; refine (hM _).mono ?_; rintro e w5 ⟨rfl, rfl⟩) | (go_at_call 45; (first | refine cR.mono ?_ | trace_state); rintro e w5 ⟨rfl, rfl⟩))
            go_ret3
            rw [HX.out]
            exact ⟨_, rfl, OwnI.nil _ _, b4⟩
          · have cR := cRR (off + used) (.inl rfl)
            clear cRR
            by_cases he : (rdL (zs.drop used)).1 = 0
            · rw [if_neg (fun h => h he)] at hTT
              have hw2 := hw he
              clear hw
              rw [he, errV_0] at cR
              have HX : Hid (psI k (acc ++ [n]) (used + wd) zs = R) := hTT
              have hi1 : (used : Int) + (wd : Int) ≤ (len : Int) := by omega
              have hi2 : (len : Int) < 4611686018427387904 := by omega
              clear hTT he
              go_wp2_with (first
                | (go_at_call 41; refine (hM _).mono ?_; rintro e w5 ⟨rfl, rfl⟩)
                | (go_at_call 45; refine cR.mono ?_; rintro e w5 ⟨rfl, rfl⟩)
                | (at_builtin; refine wpList_append_int rfl (.tmp 42) (.tmp 44) rfl w2.heap.size _ acc rfl own n rfl (by omega) b4.size ?_; intro v6 w6 own6 gr6 n6))
              go_roundw
              case rel => exact ⟨k, used + wd, acc ++ [n], by simp; omega, by go_num, by omega, own6, (b4.alloc b4.size _).grown gr6 (by have := b4.size; simp; omega) (fun j hj => (own.lt j hj).1), HX⟩
              case measure =>
                obtain ⟨ao6, ca6, rfl⟩ := own6.form
                simp; omega
            · rw [if_pos he] at hTT
              rw [errV_ne he] at cR
              have HX : Hid (R = ((rdL (zs.drop used)).1, [], 0)) := hTT.symm
              have HE : Hid (errV (rdL (zs.drop used)).1 = .iface 70 (.int .i64 (rdL (zs.drop used)).1)) := errV_ne he
              generalize (rdL (zs.drop used)).1 = z at cR HX HE
              clear hTT he hw
              go_wp2_with (first | (go_at_call 41; refine (hM _).mono ?_; rintro e w5 ⟨rfl, rfl⟩) | (go_at_call 45; refine cR.mono ?_; rintro e w5 ⟨rfl, rfl⟩))
              go_ret3
              rw [HX.out]
              exact ⟨_, by rw [HE.out]; rfl, OwnI.nil _ _, b4⟩
  · rw [if_pos h1] at hR
    subst hR
    rw [errV_ne h1] at c0 ⊢
    generalize (rdL zs).1 = z at c0
    generalize (rdL zs).2.1 = t at c0
    generalize (rdL zs).2.2 = u at c0
    clear HR h1
    go_enter Tryd.func32, Tryd.ntmps32
    go_wp2_with (go_at_call 45; refine c0.mono ?_; rintro e w2 ⟨rfl, rfl⟩)
    go_ret3
    exact ⟨_, rfl, OwnI.nil _ _, Below.refl _ _⟩
end Go.Proofs.YtbncegjnjlokmaaDoor
