/- The reference's reader of words (package portref1): Next, Takes. -/
import Derived.Test.YthnkjfgiclolaaaGreatDoorRefShw
import Derived.Test.YthnkjfgiclolaaaGreatDoorMgA
import Derived.Test.YthnkjfgiclolaaaGreatDoorMgO
import Derived.Test.YthnkjfgiclolaaaGreatDoorMgH
import Derived.Test.YthnkjfgiclolaaaGreatDoorMgP
namespace Go.Proofs.YthnkjfgiclolaaaGreatDoor
open Go.RowKit
set_option linter.unusedVariables false
set_option maxRecDepth 10000

/-- The reader at B holds the words ws. -/
def WAt (W : World) (B : Nat) (ws : List (List UInt8)) (bad : Bool) : Prop :=
  ∃ g off c, W.heap[B]? = some (.cells #[.slice (some ⟨g, off, none⟩) ws.length c, .bool bad] 96 (0, 0)) ∧ ws.length ≤ c ∧ c ≤ maxLen ∧ (∀ i (h : i < ws.length), W.cell? ⟨g, off + i, none⟩ = some (.string (mkB ws[i]))) ∧ g ≠ B ∧ g < W.heap.size
theorem WAt.lt {W : World} {B : Nat} {ws : List (List UInt8)} {bad : Bool} (h : WAt W B ws bad) : B < W.heap.size := by
  obtain ⟨g, off, c, h1, _⟩ := h
  exact (Array.getElem?_eq_some_iff.1 h1).1
theorem WAt.below {W W' : World} {B : Nat} {ws : List (List UInt8)} {bad : Bool} (h : WAt W B ws bad) (hb : Below W.heap.size W W') : WAt W' B ws bad := by
  have hB := h.lt
  obtain ⟨g, off, c, h1, h2, h3, h4, h5, h6⟩ := h
  exact ⟨g, off, c, (hb.block _ hB).trans h1, h2, h3, fun i hi => (hb.cell (p := ⟨g, off + i, none⟩) h6).trans (h4 i hi), h5, Nat.lt_of_lt_of_le h6 hb.size⟩
theorem only_cell {g b : Nat} {W W' : World} (o : Only g W W') (hb : b ≠ g) (j : Nat) : W'.cell? ⟨b, j, none⟩ = W.cell? ⟨b, j, none⟩ := by
  unfold World.cell?
  rw [o.block b hb]
theorem WAt.only {W W' : World} {B G : Nat} {ws : List (List UInt8)} {bad : Bool} (h : WAt W B ws bad) (o : Only G W W') (hG : G ≠ B) (hg : ∀ ob, W.heap[G]? = some ob → ∀ j s, W.cell? ⟨G, j, none⟩ ≠ some (.string s)) : WAt W' B ws bad := by
  obtain ⟨g, off, c, h1, h2, h3, h4, h5, h6⟩ := h
  refine ⟨g, off, c, (o.block _ (Ne.symm hG)).trans h1, h2, h3, fun i hi => ?_, h5, by rw [o.size]; exact h6⟩
  by_cases hgG : g = G
  · subst hgG
    exfalso
    obtain ⟨ob, hob⟩ : ∃ ob, W.heap[g]? = some ob := ⟨_, Array.getElem?_eq_getElem h6⟩
    exact hg ob hob _ _ (h4 i hi)
  · rw [only_cell o hgG]; exact h4 i hi
theorem WAt.tail {W : World} {B : Nat} {x : List UInt8} {ws : List (List UInt8)} {bad : Bool} {g off c : Nat} (h1 : W.heap[B]? = some (.cells #[.slice (some ⟨g, off, none⟩) (x :: ws).length c, .bool bad] 96 (0, 0))) (h2 : (x :: ws).length ≤ c) (h3 : c ≤ maxLen) (h4 : ∀ i (h : i < (x :: ws).length), W.cell? ⟨g, off + i, none⟩ = some (.string (mkB (x :: ws)[i]))) (h5 : g ≠ B) (h6 : g < W.heap.size) :
    (¬ c = 1 → WAt (W.setCell ⟨B, 0, none⟩ (.slice (some ⟨g, off + 1, none⟩) ws.length (c - 1))) B ws bad) ∧ (c = 1 → WAt (W.setCell ⟨B, 0, none⟩ (.slice (some ⟨g, off, none⟩) ws.length 0)) B ws bad) := by
  have o : ∀ v, Only B W (W.setCell ⟨B, 0, none⟩ v) := fun v => (Only.refl _ _).setCell _ _
  rw [List.length_cons] at h2
  constructor
  · intro hc
    refine ⟨g, off + 1, c - 1, heap_setCell_same W B 0 _ _ _ h1, by omega, by omega, fun i hi => ?_, h5, by rw [(o _).size]; exact h6⟩
    rw [only_cell (o _) h5]
    have := h4 (i + 1) (by rw [List.length_cons]; omega)
    rw [show off + (i + 1) = off + 1 + i by omega] at this
    exact this
  · intro hc
    have h0 : ws.length = 0 := by omega
    refine ⟨g, off, 0, heap_setCell_same W B 0 _ _ _ h1, by omega, by omega, fun i hi => by omega, h5, by rw [(o _).size]; exact h6⟩
def nxtW (ws : List (List UInt8)) : List UInt8 := ws.headD []
set_option maxHeartbeats 4000000 in
theorem wNext_any (B : Nat) (ws : List (List UInt8)) (bad : Bool) (w : World) (h : WAt w B ws bad) :
    Calls Tryz.prog 50 #[.pointer (some ⟨B, 0, none⟩)] w fun e w' => e = .returned (.string (mkB (ws.headD []))) ∧ WAt w' B ws.tail (bad || ws.isEmpty) ∧ Only B w w' := by
  obtain ⟨g, off, c, h1, h2, h3, h4, h5, h6⟩ := h
  have c0 : w.cell? ⟨B, 0, none⟩ = some (.slice (some ⟨g, off, none⟩) ws.length c) := by rw [cell_of_row w B _ _ _ _ h1]; rfl
  have c1 : w.cell? ⟨B, 1, none⟩ = some (.bool bad) := by rw [cell_of_row w B _ _ _ _ h1]; rfl
  have f0 : w.frozen? ⟨B, 0, none⟩ = false := frozen_of_row w B 0 _ _ h1
  have f1 : w.frozen? ⟨B, 1, none⟩ = false := frozen_of_row w B 1 _ _ h1
  cases ws with
  | nil =>
    obtain ⟨Q, hQ⟩ : ∃ Q : Ending → World → Prop, Q = fun e w' => e = .returned (.string (mkB (([] : List (List UInt8)).headD []))) ∧ WAt w' B ([] : List (List UInt8)).tail (bad || ([] : List (List UInt8)).isEmpty) ∧ Only B w w' := ⟨_, rfl⟩
    have HQ : Hid (Q (.returned (.string ⟨#[]⟩)) (w.setCell ⟨B, 1, none⟩ (.bool true))) := by
      rw [hQ]
      have o : Only B w (w.setCell ⟨B, 1, none⟩ (.bool true)) := (Only.refl _ _).setCell _ _
      refine ⟨rfl, ⟨g, off, c, ?_, h2, h3, (fun i hi => absurd hi (Nat.not_lt_zero i)), h5, by rw [o.size]; exact h6⟩, o⟩
      have := heap_setCell_same w B 1 _ _ (.bool true) h1
      rw [show (bad || ([] : List (List UInt8)).isEmpty) = true by simp]
      exact this
    rw [← hQ]
    clear hQ h1 h2 h3 h4
    rw [List.length_nil] at c0
    go_enter Tryz.func50, Tryz.ntmps50
    go_wp2_with fail
    exact HQ.out
  | cons x ws =>
    obtain ⟨t1, t2⟩ := WAt.tail h1 h2 h3 h4 h5 h6
    have HT := hidE t1
    have HT2 := hidE t2
    have r0 := h4 0 (by simp)
    simp only [List.getElem_cons_zero, Nat.add_zero] at r0
    rw [List.length_cons] at c0 h2
    obtain ⟨n, hn⟩ : ∃ n, ws.length = n := ⟨_, rfl⟩
    rw [hn] at c0 h2
    have HN := hidE hn
    obtain ⟨Q, hQ⟩ : ∃ Q : Ending → World → Prop, Q = fun e w' => e = .returned (.string (mkB ((x :: ws).headD []))) ∧ WAt w' B (x :: ws).tail (bad || (x :: ws).isEmpty) ∧ Only B w w' := ⟨_, rfl⟩
    have HQ : Hid (∀ v, WAt (w.setCell ⟨B, 0, none⟩ v) B ws bad → Q (.returned (.string (mkB x))) (w.setCell ⟨B, 0, none⟩ v)) := by
      rw [hQ]
      intro v hv
      refine ⟨rfl, ?_, (Only.refl _ _).setCell _ _⟩
      rw [show (bad || (x :: ws).isEmpty) = bad by simp]
      exact hv
    rw [← hQ]
    have i2 : (((n + 1 : Nat) : Int) == 0) = false := by rw [beq_eq_false_iff_ne]; omega
    have i3 : (0 : Int) < ((n + 1 : Nat) : Int) := by omega
    clear hQ h1 h4 t1 t2 hn
    rw [HN.out] at HT HT2
    go_enter Tryz.func50, Tryz.ntmps50
    by_cases hc1 : c = 1
    · subst hc1
      obtain rfl : n = 0 := by omega
      go_wp2_with fail
      exact HQ.out _ (HT2.out (by first | rfl | trivial))
    · go_wp2_with fail
      exact HQ.out _ (HT.out hc1)
def takB (s : List UInt8) (ws : List (List UInt8)) : Bool := ws.head? == some s
def takR (s : List UInt8) (ws : List (List UInt8)) : List (List UInt8) := if takB s ws = true then ws.tail else ws
set_option maxHeartbeats 4000000 in
theorem wTakes_any (B : Nat) (s : List UInt8) (ws : List (List UInt8)) (bad : Bool) (w : World) (h : WAt w B ws bad) :
    Calls Tryz.prog 51 #[.pointer (some ⟨B, 0, none⟩), .string (mkB s)] w fun e w' => e = .returned (.bool (takB s ws)) ∧ WAt w' B (takR s ws) bad ∧ Only B w w' := by
  have hh := h
  obtain ⟨g, off, c, h1, h2, h3, h4, h5, h6⟩ := h
  have c0 : w.cell? ⟨B, 0, none⟩ = some (.slice (some ⟨g, off, none⟩) ws.length c) := by rw [cell_of_row w B _ _ _ _ h1]; rfl
  have f0 : w.frozen? ⟨B, 0, none⟩ = false := frozen_of_row w B 0 _ _ h1
  obtain ⟨Q, hQ⟩ : ∃ Q : Ending → World → Prop, Q = fun e w' => e = .returned (.bool (takB s ws)) ∧ WAt w' B (takR s ws) bad ∧ Only B w w' := ⟨_, rfl⟩
  have HQN : Hid (takB s ws = false → Q (.returned (.bool false)) w) := by
    rw [hQ]
    intro hf
    refine ⟨by rw [hf], ?_, Only.refl _ _⟩
    unfold takR
    rw [hf, if_neg (by simp)]
    exact hh
  cases ws with
  | nil =>
    rw [← hQ]
    clear hQ h1 h2 h3 h4 hh
    have hq := hidE (HQN.out rfl)
    clear HQN
    rw [List.length_nil] at c0
    go_enter Tryz.func51, Tryz.ntmps51
    go_wp2_with fail
    exact hq.out
  | cons x ws =>
    obtain ⟨t1, t2⟩ := WAt.tail h1 h2 h3 h4 h5 h6
    have r0 := h4 0 (by simp)
    simp only [List.getElem_cons_zero, Nat.add_zero] at r0
    rw [List.length_cons] at c0 h2
    obtain ⟨n, hn⟩ : ∃ n, ws.length = n := ⟨_, rfl⟩
    rw [hn] at c0 h2 t1 t2
    have HT := hidE t1
    have HT2 := hidE t2
    have i3 : ((n + 1 : Nat) : Int) > 0 := by omega
    have i4 : (0 : Int) < ((n + 1 : Nat) : Int) := by omega
    by_cases hx : x = s
    · have HQY : Hid (∀ v, WAt (w.setCell ⟨B, 0, none⟩ v) B ws bad → Q (.returned (.bool true)) (w.setCell ⟨B, 0, none⟩ v)) := by
        rw [hQ]
        intro v hv
        have ht : takB s (x :: ws) = true := by unfold takB; rw [hx]; simp
        refine ⟨by rw [ht], ?_, (Only.refl _ _).setCell _ _⟩
        unfold takR
        rw [ht, if_pos rfl]
        exact hv
      rw [← hQ]
      clear hQ h1 h4 t1 t2 hn HQN hh
      rw [hx] at r0
      generalize mkB s = sb at r0 ⊢
      clear hx
      go_enter Tryz.func51, Tryz.ntmps51
      by_cases hc1 : c = 1
      · subst hc1
        obtain rfl : n = 0 := by omega
        go_wp2_with fail
        exact HQY.out _ (HT2.out (by first | rfl | trivial))
      · go_wp2_with fail
        exact HQY.out _ (HT.out hc1)
    · have hq := hidE (HQN.out (by unfold takB; simpa using hx))
      have hne : ¬ mkB x = mkB s := fun e => hx (by have := congrArg (fun b : ByteArray => b.data.toList) e; simpa [mkB_toList] using this)
      rw [← hQ]
      clear hQ h1 h4 t1 t2 hn HQN hh HT HT2 hx
      generalize mkB s = sb at hne ⊢
      generalize mkB x = xb at hne r0
      have e1 : (xb.toList == sb.toList) = false := by
        rw [beq_eq_false_iff_ne]
        intro e
        exact hne (by
          have h1 : xb.data.toList = sb.data.toList := by simpa [ByteArray.toList_eq] using e
          have := congrArg mkB h1
          rw [mkB_data, mkB_data] at this
          exact this)
      go_enter Tryz.func51, Tryz.ntmps51
      go_wp2_with fail
      exact hq.out
end Go.Proofs.YthnkjfgiclolaaaGreatDoor

namespace Go.Proofs.YthnkjfgiclolaaaGreatDoor
open Go.RowKit
set_option linter.unusedVariables false

theorem cutG_split (c : UInt8) : ∀ (l cur : List UInt8), cutG c cur l = (cur ++ (splitC c l).1) :: (if (splitC c l).2.2 = true then cutG c [] (splitC c l).2.1 else [])
  | [], cur => by simp [cutG, splitC]
  | x :: r, cur => by
      have h1 : cutG c cur (x :: r) = if x = c then cur :: cutG c [] r else cutG c (cur ++ [x]) r := rfl
      have h2 : splitC c (x :: r) = if x = c then ([], r, true) else (x :: (splitC c r).1, (splitC c r).2.1, (splitC c r).2.2) := rfl
      rw [h1, h2]
      by_cases h : x = c
      · rw [if_pos h, if_pos h]; simp
      · rw [if_neg h, if_neg h, cutG_split c r (cur ++ [x])]
        simp
theorem cutL_split (c : UInt8) (l : List UInt8) : cutL c l = (splitC c l).1 :: (if (splitC c l).2.2 = true then cutL c (splitC c l).2.1 else []) := by
  unfold cutL; rw [cutG_split]; simp
theorem cutL_pos (c : UInt8) (l : List UInt8) : 0 < (cutL c l).length := cutG_pos c l []
theorem numOK_iff (z most : Int) : numOK z most = true ↔ 0 ≤ z ∧ z ≤ most := by simp [numOK]
theorem parse_fold : ∀ (k : Nat) (a : Int) (l : List UInt8), parseL (k + 1) a l = if (cutL 46 l).length = k + 1 then foldAddr a (cutL 46 l) else -1
  | k, a, l => by
      rw [parseL]
      have e := cutL_split 46 l
      generalize splitC 46 l = t at e ⊢
      obtain ⟨p, r, d⟩ := t
      simp only at e ⊢
      generalize hz : wholeL p 3 = z
      by_cases hn : numOK z 255 = true
      · have hz' := (numOK_iff _ _).1 hn
        by_cases hd : d = decide (0 < k)
        · rw [if_pos ⟨hn, hd⟩]
          cases k with
          | zero =>
            have hd' : d = false := by simpa using hd
            subst hd'
            rw [if_neg (by simp)] at e
            rw [e, if_pos (by simp), foldAddr, hz, if_neg (by omega), foldAddr, parseL]
          | succ k =>
            have hd' : d = true := by simpa using hd
            subst hd'
            rw [if_pos rfl] at e
            rw [parse_fold k _ r, e]
            by_cases hl : (cutL 46 r).length = k + 1
            · rw [if_pos hl, if_pos (by simp [hl]), foldAddr, hz, if_neg (by omega)]
            · rw [if_neg hl, if_neg (by simpa using hl)]
        · rw [if_neg (fun h => hd h.2)]
          cases k with
          | zero =>
            have hd' : d = true := by simpa using hd
            subst hd'
            rw [if_pos rfl] at e
            have := cutL_pos 46 r
            rw [if_neg (by rw [e, List.length_cons]; omega)]
          | succ k =>
            have hd' : d = false := by simpa using hd
            subst hd'
            rw [if_neg (by rw [e]; simp)]
      · rw [if_neg (fun h => hn h.1)]
        have hz' : z < 0 ∨ 255 < z := by
          have := mt (numOK_iff z 255).2 hn
          omega
        by_cases hl : (cutL 46 l).length = k + 1
        · rw [if_pos hl, e, foldAddr, hz, if_pos hz']
        · rw [if_neg hl]
theorem parse_read (l : List UInt8) : parseL 4 0 l = readAddrL l := by
  rw [parse_fold 3 0 l]; rfl
theorem numL_bad : ∀ (l : List UInt8) (n : Int) (c : UInt8), c ∈ l → ¬ (48 ≤ (c.toNat : Int) ∧ (c.toNat : Int) ≤ 57) → numL n l = -1
  | [], n, c, h, _ => by simp at h
  | x :: r, n, c, h, hc => by
      unfold numL
      by_cases hx : 48 ≤ (x.toNat : Int) ∧ (x.toNat : Int) ≤ 57
      · rw [if_pos hx]
        rcases List.mem_cons.1 h with rfl | h
        · exact absurd hx hc
        · exact numL_bad r _ c h hc
      · rw [if_neg hx]
theorem whole_bad {l : List UInt8} {c : UInt8} {most : Int} (h : c ∈ l) (hc : ¬ (48 ≤ (c.toNat : Int) ∧ (c.toNat : Int) ≤ 57)) : wholeL l most = -1 := by
  unfold wholeL; split
  · rfl
  · exact numL_bad l 0 c h hc
theorem splitC_mem {c : UInt8} : ∀ {l : List UInt8}, (splitC c l).2.2 = true → c ∈ l
  | [], h => by simp [splitC] at h
  | x :: r, h => by
      unfold splitC at h
      by_cases hx : x = c
      · simp [hx]
      · rw [if_neg hx] at h
        have := splitC_mem (l := r) h
        simp [this]
theorem splitC_whole {c : UInt8} {l : List UInt8} (h : (splitC c l).2.2 = false) : (splitC c l).1 = l := by
  rcases splitC_index c l with ⟨_, e⟩ | ⟨k, _, _, e⟩
  · rw [e]
  · rw [e] at h; simp at h
/-- A number of at most two digits, and one of at most three, are the same up to 32. -/
theorem whole_two (l : List UInt8) : (wholeL l 2 = wholeL l 3 ∧ wholeL l 2 ≤ 99) ∨ (wholeL l 2 = -1 ∧ (wholeL l 3 < 0 ∨ 99 < wholeL l 3)) := by
  match l with
  | [] => left; decide
  | [c] =>
    left
    have : wholeL [c] 2 = numL 0 [c] ∧ wholeL [c] 3 = numL 0 [c] := by constructor <;> (unfold wholeL; rw [if_neg (by simp)])
    rw [this.1, this.2]
    refine ⟨rfl, ?_⟩
    unfold numL; split
    · unfold numL; omega
    · omega
  | [c, d] =>
    left
    have e : wholeL [c, d] 2 = wholeL [c, d] 3 := by unfold wholeL; simp
    refine ⟨e, ?_⟩
    unfold wholeL; split
    · omega
    · unfold numL; split
      · unfold numL; split
        · unfold numL; omega
        · omega
      · omega
  | [c, d, f] =>
    right
    refine ⟨by unfold wholeL; rw [if_pos (by simp)], ?_⟩
    unfold wholeL; split
    · omega
    · rename_i h
      have hc : ¬ (c.toNat : Int) = 48 := fun e => h (.inr (.inr ⟨by simpa using e, by simp⟩))
      unfold numL; split
      · unfold numL; split
        · unfold numL; split
          · unfold numL; omega
          · omega
        · omega
      · omega
  | c :: d :: f :: g :: r =>
    right
    refine ⟨by unfold wholeL; rw [if_pos (by simp; omega)], ?_⟩
    left
    have : wholeL (c :: d :: f :: g :: r) 3 = -1 := by unfold wholeL; rw [if_pos (by simp; omega)]
    omega
theorem foldAddr_le : ∀ (ps : List (List UInt8)) (a : Int), 0 ≤ a → -1 ≤ foldAddr a ps ∧ foldAddr a ps + 1 ≤ (a + 1) * p256 ps.length
  | [], a, h => by simp [foldAddr, p256]; omega
  | p :: r, a, h => by
      unfold foldAddr
      have hp : 1 ≤ p256 (p :: r).length := by
        unfold p256
        have := Nat.pow_pos (n := (p :: r).length) (by omega : 0 < 256)
        omega
      split
      · have : 1 * 1 ≤ (a + 1) * p256 (p :: r).length := Int.mul_le_mul (by omega) hp (by omega) (by omega)
        omega
      · rename_i hz
        obtain ⟨h1, h2⟩ := foldAddr_le r (a * 256 + wholeL p 3) (by omega)
        refine ⟨h1, ?_⟩
        rw [List.length_cons, p256_succ]
        have h3 : (a * 256 + wholeL p 3 + 1) * p256 r.length ≤ ((a + 1) * 256) * p256 r.length := by
          apply Int.mul_le_mul_of_nonneg_right (by omega)
          unfold p256; exact Int.natCast_nonneg _
        have h4 : (a + 1) * (p256 r.length * 256) = ((a + 1) * 256) * p256 r.length := by
          rw [Int.mul_assoc, Int.mul_comm (p256 r.length) 256]
        rw [h4]; omega
theorem readAddr_le (l : List UInt8) : -1 ≤ readAddrL l ∧ readAddrL l ≤ 4294967295 := by
  unfold readAddrL
  split
  · rename_i h
    obtain ⟨h1, h2⟩ := foldAddr_le (cutL 46 l) 0 (by omega)
    rw [h] at h2
    have : p256 4 = 4294967296 := by decide
    rw [this] at h2
    omega
  · omega
theorem prefE_neg {a l : Int} (h : a < 0) : prefE a l ≠ 0 := by
  intro e
  have := prefE_zero e
  omega
theorem prefE_32 {a : Int} (h0 : 0 ≤ a) (h1 : a ≤ 4294967295) : prefE a 32 = 0 := by
  unfold prefE
  rw [if_pos ⟨isAddr_yes h0 h1, by omega, by omega⟩, if_pos]
  have : pw (32 - 32) = 1 := by decide
  rw [this]; omega
theorem read_eq (l : List UInt8) : readP l = readPrefL l := by
  unfold readP readPrefL
  by_cases h0 : l = [97, 110, 121]
  · rw [if_pos h0, if_pos h0]
  rw [if_neg h0, if_neg h0]
  have e := cutL_split 47 l
  rw [parse_read]
  have hw := splitC_whole (c := 47) (l := l)
  generalize splitC 47 l = t at e hw ⊢
  obtain ⟨p, r, d⟩ := t
  simp only at e hw ⊢
  have hh : (cutL 47 l).headD [] = p := by rw [e]; rfl
  rw [hh]
  obtain ⟨hr1, hr2⟩ := readAddr_le p
  generalize readAddrL p = A at *
  cases d
  · rw [if_neg (by simp)] at e
    rw [e]
    have hlen : [p].length = 1 := rfl
    by_cases hA : A < 0
    · rw [if_pos hA, if_pos (.inr (.inr (prefE_neg hA)))]
    · have h3 := prefE_32 (by omega : 0 ≤ A) hr2
      rw [if_neg hA, if_pos rfl, hlen, if_neg (by decide : ¬ 1 = 2), if_neg]
      rintro (h | h | h)
      · omega
      · omega
      · exact h h3
  · rw [if_pos rfl] at e
    have e2 := cutL_split 47 r
    rw [e]
    rcases hd2 : (splitC 47 r).2.2 with _ | _
    · have hr := splitC_whole hd2
      rw [hd2, hr, if_neg (by simp)] at e2
      rw [e2]
      have hlen : [p, r].length = 2 := rfl
      have hget : [p, r].getD 1 [] = r := rfl
      rw [hlen, hget, if_pos rfl]
      by_cases hA : A < 0
      · rw [if_pos hA, if_pos (.inr (.inr (prefE_neg hA)))]
      rw [if_neg hA, if_neg (by simp)]
      rcases whole_two r with ⟨h1, h2⟩ | ⟨h1, h2⟩
      · rw [h1]
        by_cases hg : numOK (wholeL r 3) 32 = true ∧ wholeL r 3 ≠ 0 ∧ prefE A (wholeL r 3) = 0
        · have h5 := (numOK_iff _ _).1 hg.1
          rw [if_pos hg, if_neg]
          rintro (h | h | h)
          · omega
          · have := hg.2.1; omega
          · exact h hg.2.2
        · rw [if_neg hg, if_pos]
          by_cases h3 : wholeL r 3 < 1
          · exact .inr (.inl h3)
          · by_cases h4 : prefE A (wholeL r 3) = 0
            · exfalso
              have := prefE_zero h4
              exact hg ⟨(numOK_iff _ _).2 ⟨by omega, by omega⟩, by omega, h4⟩
            · exact .inr (.inr h4)
      · have hn : ¬ (numOK (wholeL r 3) 32 = true ∧ wholeL r 3 ≠ 0 ∧ prefE A (wholeL r 3) = 0) := by
          intro h
          have := (numOK_iff _ _).1 h.1
          omega
        rw [if_neg hn, h1, if_pos (.inr (.inl (by decide)))]
    · have hz := whole_bad (most := 3) (splitC_mem hd2) (by decide)
      rw [hd2] at e2
      have hpos := cutL_pos 47 (splitC 47 r).2.1
      have hl : 2 < (p :: cutL 47 r).length := by rw [e2]; simp; omega
      have hn : ¬ (numOK (wholeL r 3) 32 = true ∧ wholeL r 3 ≠ 0 ∧ prefE A (wholeL r 3) = 0) := by
        intro h
        have := (numOK_iff _ _).1 h.1
        omega
      by_cases hA : A < 0
      · rw [if_pos hA, if_pos]
        exact .inl hl
      · rw [if_neg hA, if_neg (by simp), if_neg hn, if_pos]
        exact .inl hl
end Go.Proofs.YthnkjfgiclolaaaGreatDoor
