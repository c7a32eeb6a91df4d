/- What Read of package seg returns where kind, source or destination are none, or the bytes are too few or too many; what stands behind a head. -/
import Derived.Test.YteijbohfakokfacDoorSegFld
namespace Go.Proofs.YteijbohfakokfacDoor
open Go.RowKit
set_option linter.unusedVariables false

theorem zero_results {w : World} {b : Nat} (h : SgAt w b zeroS (.slice none 0 0)) : w.cell? ⟨b, 0, none⟩ = some (.int .i64 0) ∧ w.cell? ⟨b, 1, none⟩ = some (.int .i64 0) ∧ w.cell? ⟨b, 2, none⟩ = some (.int .i64 0) ∧ w.cell? ⟨b, 3, none⟩ = some (.int .i64 0) ∧ w.cell? ⟨b, 4, none⟩ = some (.int .i64 0) ∧ w.cell? ⟨b, 5, none⟩ = some (.int .i64 0) ∧ w.cell? ⟨b, 6, none⟩ = some (.slice none 0 0) := h.cells
/-- A zero segment is stored. -/
theorem SgAt.wipe {w : World} {b : Nat} {p : Sg} {bv : Value} (h : SgAt w b p bv) :
    ∃ w', ((((((w.setCell ⟨b, 0, none⟩ (.int .i64 0)).setCell ⟨b, 1, none⟩ (.int .i64 0)).setCell ⟨b, 2, none⟩ (.int .i64 0)).setCell ⟨b, 3, none⟩ (.int .i64 0)).setCell ⟨b, 4, none⟩ (.int .i64 0)).setCell ⟨b, 5, none⟩ (.int .i64 0)).setCell ⟨b, 6, none⟩ (.slice none 0 0) = w' ∧ SgAt w' b zeroS (.slice none 0 0) ∧ Only b w w' :=
  h.store zeroS (.slice none 0 0)

set_option maxHeartbeats 4000000 in
theorem sgRead_range (k src dst : Int) (v : Value) (w : World) (h : (isK k && upB src 4294967295 && upB dst 4294967295) = false) :
    Calls Tryd.prog 18 #[.int .i64 k, v, .int .i64 src, .int .i64 dst] w fun e w' => e = .returned (.tuple #[segV zeroS (.slice none 0 0), .iface 52 (.int .i64 1)]) ∧ Below w.heap.size w w' := by
  have bw1 : Below w.heap.size w (w.alloc (.cells #[.int .i64 0, .int .i64 0, .int .i64 0, .int .i64 0, .int .i64 0, .int .i64 0, .slice none 0 0] 29)) := (Below.refl _ _).alloc (Nat.le_refl _) _
  have hcase : isK k = false ∨ (isK k = true ∧ upB src 4294967295 = false) ∨ (isK k = true ∧ upB src 4294967295 = true ∧ upB dst 4294967295 = false) := by
    revert h
    cases isK k <;> cases upB src 4294967295 <;> cases upB dst 4294967295 <;> simp
  clear h
  rcases hcase with h0 | ⟨h0, h1⟩ | ⟨h0, h1, h2⟩
  all_goals
    go_enter Tryd.func18, Tryd.ntmps18
    go_wp2_with (first
      | (go_at_call 35; refine (isKind_any _ _).mono ?_; rintro e w' ⟨rfl, rfl⟩)
      | (go_at_call 36; refine (sgAddr_any _ _).mono ?_; rintro e w' ⟨rfl, rfl⟩))
    exact bodyPost_ret (v := .tuple #[segV zeroS (.slice none 0 0), .iface 52 (.int .i64 1)]) (by simp [results, Tryd.results18, go_sem, segV, zeroS]) rfl ⟨rfl, bw1⟩

set_option maxHeartbeats 4000000 in
theorem sgRead_len (k src dst : Int) (a : Option Addr) (len cap : Nat) (w : World) (hk : isK k = true) (hs : upB src 4294967295 = true) (hd : upB dst 4294967295 = true) (hl : len ≤ 9223372036854775807) (h : len < hdN k ∨ (hdN k ≤ len ∧ 4000 < len)) :
    Calls Tryd.prog 18 #[.int .i64 k, .slice a len cap, .int .i64 src, .int .i64 dst] w fun e w' => e = .returned (.tuple #[segV zeroS (.slice none 0 0), .iface 52 (.int .i64 (if len < hdN k then 8 else 4))]) ∧ Below w.heap.size w w' := by
  have bw1 : Below w.heap.size w (w.alloc (.cells #[.int .i64 0, .int .i64 0, .int .i64 0, .int .i64 0, .int .i64 0, .int .i64 0, .slice none 0 0] 29)) := (Below.refl _ _).alloc (Nat.le_refl _) _
  have hh := fun W => head_any k W
  have hHb := hdN_ge hk
  generalize hdN k = H at hh h hHb ⊢
  rcases h with h | ⟨h, h'⟩
  · rw [if_pos h]
    go_enter Tryd.func18, Tryd.ntmps18
    go_wp2_with (first
      | (go_at_call 35; refine (isKind_any _ _).mono ?_; rintro e w' ⟨rfl, rfl⟩)
      | (go_at_call 36; refine (sgAddr_any _ _).mono ?_; rintro e w' ⟨rfl, rfl⟩)
      | (go_at_call 37; refine (hh _).mono ?_; rintro e w' ⟨rfl, rfl⟩))
    exact bodyPost_ret (v := .tuple #[segV zeroS (.slice none 0 0), .iface 52 (.int .i64 8)]) (by simp [results, Tryd.results18, go_sem, segV, zeroS]) rfl ⟨rfl, bw1⟩
  · rw [if_neg (by omega)]
    go_enter Tryd.func18, Tryd.ntmps18
    go_wp2_with (first
      | (go_at_call 35; refine (isKind_any _ _).mono ?_; rintro e w' ⟨rfl, rfl⟩)
      | (go_at_call 36; refine (sgAddr_any _ _).mono ?_; rintro e w' ⟨rfl, rfl⟩)
      | (go_at_call 37; refine (hh _).mono ?_; rintro e w' ⟨rfl, rfl⟩))
    exact bodyPost_ret (v := .tuple #[segV zeroS (.slice none 0 0), .iface 52 (.int .i64 4)]) (by simp [results, Tryd.results18, go_sem, segV, zeroS]) rfl ⟨rfl, bw1⟩

/-- What stands behind the head of a segment. -/
theorem tail_bytes {w : World} {b off len cap : Nat} {zs : List Int} (n : Nat) (h : Row w b off zs) (hl : len ≤ cap) (hm : cap ≤ maxLen) (hz : zs.length = len) (hn : n ≤ len) (h4 : len ≤ 4000) {ad : Option Addr}
    (ha : (if cap = n then some ⟨b, off, none⟩ else some ⟨b, off + n, none⟩) = ad) : Bytes w (.slice ad (len - n) (cap - n)) (zs.drop n) := by
  by_cases hc : len = n
  · refine .inl ⟨List.drop_eq_nil_of_le (by omega), ad, cap - n, by rw [hc, Nat.sub_self], fun h => ?_⟩
    subst h; split at ha <;> cases ha
  · rw [if_neg (by omega)] at ha
    subst ha
    have e : (zs.drop n).take (len - n) = zs.drop n := List.take_of_length_le (by simp; omega)
    refine .inr ⟨b, off + n, len - n, cap - n, rfl, by omega, by unfold maxLen at *; omega, by omega, by simp; omega, ?_⟩
    rw [← e]; exact h.part n (len - n) (by omega)
theorem init_bytes {w : World} {b off len cap : Nat} {zs : List Int} (n : Nat) (h : Row w b off zs) (hl : len ≤ cap) (hm : cap ≤ maxLen) (hz : zs.length = len) (hn : n ≤ len) (h4 : len ≤ 4000) : Bytes w (.slice (some ⟨b, off, none⟩) n cap) (zs.take n) := by
  have e : (zs.drop 0).take n = zs.take n := by simp
  refine .inr ⟨b, off, n, cap, rfl, by omega, hm, by omega, by simp; omega, ?_⟩
  rw [← e]; exact h.part 0 n (by omega)
def Sums (k src dst : Int) (b off : Nat) (zs : List Int) (v1 v2 : Value) (x : Int) : Prop :=
  ∀ W : World, Row W b off zs → Calls Tryd.prog 33 #[.int .i64 k, v1, v2, .int .i64 src, .int .i64 dst] W fun e w' => e = .returned (.int .i64 x) ∧ Below W.heap.size W w'
theorem OwnB.only {w w' : World} {base g : Nat} {v : Value} {zs : List Int} (h : OwnB w base v zs) (hg : g < base) (ho : Only g w w') : OwnB w' base v zs := by
  refine ⟨⟨h.1.1, ?_⟩, h.2⟩
  rcases h.1.2 with h | ⟨k, cp, cur, h1, h2, h3, h4⟩
  · exact .inl h
  · exact .inr ⟨k, cp, cur, h1, h2, by rw [ho.block k (by omega)]; exact h3, h4⟩
theorem OwnB.slice {w : World} {base : Nat} {v : Value} {zs : List Int} (h : OwnB w base v zs) : ∃ a l c, v = .slice a l c := by
  obtain ⟨⟨_, h2⟩, _⟩ := h
  rcases h2 with ⟨rfl, _⟩ | ⟨g, cap, cur, rfl, _⟩
  · exact ⟨_, _, _, rfl⟩
  · exact ⟨_, _, _, rfl⟩
end Go.Proofs.YteijbohfakokfacDoor
