/- A trie and the reference's list side by side ('Two'), through worlds: what a law holds. -/
import Derived.Test.YtdpnmhfhjcebbaaDoorRefT5
import Derived.Test.YtdpnmhfhjcebbaaDoorTrieThn
import Derived.Test.YtdpnmhfhjcebbaaDoorTrieUnd
import Derived.Test.YtdpnmhfhjcebbaaDoorTold
namespace Go.Proofs.YtdpnmhfhjcebbaaDoor
open Go.RowKit
set_option linter.unusedVariables false
set_option maxRecDepth 4000

structure Two (w1 W : World) (tb mb : Nat) (s1 s2 : Tv) (F1 F2 : Nat → Prop) : Prop where
  tr : TrieAt W F1 tb s1
  rf : RT W F2 mb (allV s2)
  ap : ∀ k, F1 k → F2 k → False
  l1 : ∀ k, F1 k → w1.heap.size ≤ k ∧ k < W.heap.size
  l2 : ∀ k, F2 k → w1.heap.size ≤ k ∧ k < W.heap.size
  bel : Below w1.heap.size w1 W
def TwoE (w1 W : World) (tb mb : Nat) (s1 s2 : Tv) : Prop := ∃ F1 F2, Two w1 W tb mb s1 s2 F1 F2
section
variable {w1 W W' : World} {tb mb : Nat} {s1 s2 s' : Tv} {F1 F2 : Nat → Prop}
theorem Two.below (h : Two w1 W tb mb s1 s2 F1 F2) (hb : Below W.heap.size W W') : Two w1 W' tb mb s1 s2 F1 F2 :=
  ⟨h.tr.keep (fun k hk => hb.block k (h.l1 k hk).2), h.rf.keep (fun k hk => hb.block k (h.l2 k hk).2), h.ap,
   fun k hk => ⟨(h.l1 k hk).1, Nat.lt_of_lt_of_le (h.l1 k hk).2 hb.size⟩, fun k hk => ⟨(h.l2 k hk).1, Nat.lt_of_lt_of_le (h.l2 k hk).2 hb.size⟩, h.bel.trans (hb.mono h.bel.size)⟩
theorem TwoE.below (h : TwoE w1 W tb mb s1 s2) (hb : Below W.heap.size W W') : TwoE w1 W' tb mb s1 s2 := by
  obtain ⟨F1, F2, h⟩ := h; exact ⟨F1, F2, h.below hb⟩
theorem TwoE.drewN (h : TwoE w1 W tb mb s1 s2) (n : Nat) : TwoE w1 (W.drewN n) tb mb s1 s2 := h.below ⟨rfl, rfl, rfl, Nat.le_refl _, fun _ _ => rfl⟩
theorem TwoE.drew (h : TwoE w1 W tb mb s1 s2) : TwoE w1 W.drew tb mb s1 s2 := h.below ⟨rfl, rfl, rfl, Nat.le_refl _, fun _ _ => rfl⟩
theorem TwoE.bel (h : TwoE w1 W tb mb s1 s2) : Below w1.heap.size w1 W := by obtain ⟨F1, F2, h⟩ := h; exact h.bel
theorem TwoE.ok (h : TwoE w1 W tb mb s1 s2) : OkV s1 ∧ (allV s1).length ≤ 200 := by obtain ⟨F1, F2, h⟩ := h; exact ⟨h.tr.1, h.tr.all_len⟩
/-- The reference's list has turned. -/
theorem Two.ref (h : Two w1 W tb mb s1 s2 F1 F2) (hp : RT W' (Plus F2 W W') mb (allV s')) (ht : Turn F2 W W') : Two w1 W' tb mb s1 s' F1 (Plus F2 W W') := by
  refine ⟨h.tr.keep (fun k hk => ht.block k (h.l1 k hk).2 (fun h2 => h.ap k hk h2)), hp, fun k h1 h2 => ?_, fun k hk => ⟨(h.l1 k hk).1, Nat.lt_of_lt_of_le (h.l1 k hk).2 ht.size⟩, fun k hk => ?_, Turn.below h.bel h.bel.size ht (fun k hk => (h.l2 k hk).1)⟩
  · rcases h2 with h2 | h2
    · exact h.ap k h1 h2
    · have := (h.l1 k h1).2; omega
  · have := h.bel.size
    have := ht.size
    rcases hk with h2 | h2
    · have := h.l2 k h2; omega
    · omega
/-- The trie has turned. -/
theorem Two.tri (h : Two w1 W tb mb s1 s2 F1 F2) (hp : TrieAt W' (Plus F1 W W') tb s') (ht : Turn F1 W W') : Two w1 W' tb mb s' s2 (Plus F1 W W') F2 := by
  refine ⟨hp, h.rf.keep (fun k hk => ht.block k (h.l2 k hk).2 (fun h1 => h.ap k h1 hk)), fun k h1 h2 => ?_, fun k hk => ?_, fun k hk => ⟨(h.l2 k hk).1, Nat.lt_of_lt_of_le (h.l2 k hk).2 ht.size⟩, Turn.below h.bel h.bel.size ht (fun k hk => (h.l1 k hk).1)⟩
  · rcases h1 with h1 | h1
    · exact h.ap k h1 h2
    · have := (h.l2 k h2).2; omega
  · have := h.bel.size
    have := ht.size
    rcases hk with h2 | h2
    · have := h.l1 k h2; omega
    · omega
theorem TwoE.rput (h : TwoE w1 W tb mb s1 s2) (hs : OkV s2) (hn : (allV s2).length ≤ 200) (a l v : Int) :
    Calls Tryd.prog 5 #[.pointer (some ⟨mb, 0, none⟩), .agg #[.int .i64 a, .int .i64 l], .int .i64 v] W fun e w' => e = .returned (.tuple #[.bool (putV s2 a l v).2.1, .int .i64 (putV s2 a l v).2.2]) ∧ TwoE w1 w' tb mb s1 (putV s2 a l v).1 := by
  obtain ⟨F1, F2, h⟩ := h
  refine (refPut_any F2 mb s2 hs a l v W h.rf (fun k hk => (h.l2 k hk).2) hn).mono ?_
  rintro e w' ⟨rfl, h1, h2⟩
  exact ⟨rfl, _, _, h.ref h1 h2⟩
theorem TwoE.rdrop (h : TwoE w1 W tb mb s1 s2) (hs : OkV s2) (hn : (allV s2).length ≤ 200) (a l : Int) (hp : prefE a l = 0) :
    Calls Tryd.prog 9 #[.pointer (some ⟨mb, 0, none⟩), .agg #[.int .i64 a, .int .i64 l]] W fun e w' => e = .returned (.bool (dropV s2 a l).2.1) ∧ TwoE w1 w' tb mb s1 (dropV s2 a l).1 := by
  obtain ⟨F1, F2, h⟩ := h
  refine (refDrop_any F2 mb s2 hs a l W h.rf (fun k hk => (h.l2 k hk).2) hn hp).mono ?_
  rintro e w' ⟨rfl, h1, h2⟩
  exact ⟨rfl, _, _, h.ref h1 h2⟩
theorem TwoE.tput (h : TwoE w1 W tb mb s1 s2) (a l v : Int) :
    Calls Tryd.prog 6 #[.pointer (some ⟨tb, 0, none⟩), .agg #[.int .i64 a, .int .i64 l], .int .i64 v] W fun e w' => e = .returned (.tuple #[.bool (putV s1 a l v).2.1, errT (putV s1 a l v).2.2]) ∧ TwoE w1 w' tb mb (putV s1 a l v).1 s2 := by
  obtain ⟨F1, F2, h⟩ := h
  refine (put_any F1 tb s1 a l v W h.tr (fun k hk => (h.l1 k hk).2)).mono ?_
  rintro e w' ⟨rfl, h1, h2⟩
  exact ⟨rfl, _, _, h.tri h1 h2⟩
theorem TwoE.tdrop (h : TwoE w1 W tb mb s1 s2) (a l : Int) :
    Calls Tryd.prog 10 #[.pointer (some ⟨tb, 0, none⟩), .agg #[.int .i64 a, .int .i64 l]] W fun e w' => e = .returned (.tuple #[.bool (dropV s1 a l).2.1, errT (dropV s1 a l).2.2]) ∧ TwoE w1 w' tb mb (dropV s1 a l).1 s2 := by
  obtain ⟨F1, F2, h⟩ := h
  refine (drop_any F1 tb s1 a l W h.tr (fun k hk => (h.l1 k hk).2)).mono ?_
  rintro e w' ⟨rfl, h1, h2⟩
  exact ⟨rfl, _, _, h.tri h1 h2⟩
theorem TwoE.tall (h : TwoE w1 W tb mb s1 s2) : Calls Tryd.prog 12 #[.pointer (some ⟨tb, 0, none⟩)] W (Lists (allV s1) W) := by
  obtain ⟨F1, F2, h⟩ := h
  exact all_any F1 tb s1 W h.tr (fun k hk => (h.l1 k hk).2)
theorem TwoE.tfind (h : TwoE w1 W tb mb s1 s2) (x : Int) : Calls Tryd.prog 15 #[.pointer (some ⟨tb, 0, none⟩), .int .i64 x] W (Finds s1 x W) := by
  obtain ⟨F1, F2, h⟩ := h
  exact find_any F1 tb s1 x W h.tr (fun k hk => (h.l1 k hk).2)
theorem TwoE.tover (h : TwoE w1 W tb mb s1 s2) (a l : Int) : Calls Tryd.prog 17 #[.pointer (some ⟨tb, 0, none⟩), .agg #[.int .i64 a, .int .i64 l]] W (Overs s1 a l W) := by
  obtain ⟨F1, F2, h⟩ := h
  exact over_any F1 tb s1 a l W h.tr (fun k hk => (h.l1 k hk).2)
theorem TwoE.tunder (h : TwoE w1 W tb mb s1 s2) (a l : Int) : Calls Tryd.prog 18 #[.pointer (some ⟨tb, 0, none⟩), .agg #[.int .i64 a, .int .i64 l]] W (Unders s1 a l W) := by
  obtain ⟨F1, F2, h⟩ := h
  exact under_any F1 tb s1 a l W h.tr (fun k hk => (h.l1 k hk).2)
theorem TwoE.rover (h : TwoE w1 W tb mb s1 s2) (hs : OkV s2) (hn : (allV s2).length ≤ 200) (a l : Int) (hp : prefE a l = 0) : Calls Tryd.prog 14 #[.pointer (some ⟨mb, 0, none⟩), .agg #[.int .i64 a, .int .i64 l]] W (RList (ovL s2.f a l.toNat) W) := by
  obtain ⟨F1, F2, h⟩ := h
  obtain ⟨V, hV⟩ := h.rf
  have := refOver_any _ mb V (allV s2) a l W hV hn
  obtain ⟨n, rfl, hn32, hp', _⟩ := prefE_nat hp
  rw [ovR_is hs hp' hn32] at this
  rw [Int.toNat_natCast]; exact this
theorem TwoE.runder (h : TwoE w1 W tb mb s1 s2) (hs : OkV s2) (hn : (allV s2).length ≤ 200) (a l : Int) (hp : prefE a l = 0) : Calls Tryd.prog 16 #[.pointer (some ⟨mb, 0, none⟩), .agg #[.int .i64 a, .int .i64 l]] W (RList (undV s2 a l) W) := by
  obtain ⟨F1, F2, h⟩ := h
  obtain ⟨V, hV⟩ := h.rf
  have := refUnder_any _ mb V (allV s2) a l W hV hn
  obtain ⟨n, rfl, hn32, hp', _⟩ := prefE_nat hp
  rw [undR_is hs hp' hn32] at this
  exact this
/-- The reference's row, as the law reads it. -/
theorem TwoE.row (h : TwoE w1 W tb mb s1 s2) : ∃ V, W.cell? ⟨mb, 0, none⟩ = some V ∧ mb < W.heap.size ∧ Prs W V (allV s2) := by
  obtain ⟨F1, F2, h⟩ := h
  obtain ⟨V, hV⟩ := h.rf
  exact ⟨V, hV.cell, hV.lt, hV.row.prs⟩
end
/-- Both, and a block that is neither's. -/
def TwoG (w1 W : World) (g tb mb : Nat) (s1 s2 : Tv) : Prop := ∃ F1 F2, Two w1 W tb mb s1 s2 F1 F2 ∧ ¬ F1 g ∧ ¬ F2 g ∧ g < W.heap.size
section
variable {w1 W W' : World} {g tb mb : Nat} {s1 s2 : Tv}
theorem TwoE.fresh (h : TwoE w1 W tb mb s1 s2) (hb : Below W.heap.size W W') (hg : W.heap.size < W'.heap.size) : TwoG w1 W' W.heap.size tb mb s1 s2 := by
  obtain ⟨F1, F2, h⟩ := h
  exact ⟨F1, F2, h.below hb, fun k => by have := h.l1 _ k; omega, fun k => by have := h.l2 _ k; omega, hg⟩
theorem TwoG.two (h : TwoG w1 W g tb mb s1 s2) : TwoE w1 W tb mb s1 s2 := by obtain ⟨F1, F2, h, _⟩ := h; exact ⟨F1, F2, h⟩
theorem TwoG.below (h : TwoG w1 W g tb mb s1 s2) (hb : Below W.heap.size W W') : TwoG w1 W' g tb mb s1 s2 := by
  obtain ⟨F1, F2, h, h1, h2, h3⟩ := h
  exact ⟨F1, F2, h.below hb, h1, h2, Nat.lt_of_lt_of_le h3 hb.size⟩
theorem TwoG.rdrop (h : TwoG w1 W g tb mb s1 s2) (hs : OkV s2) (hn : (allV s2).length ≤ 200) (a l : Int) (hp : prefE a l = 0) :
    Calls Tryd.prog 9 #[.pointer (some ⟨mb, 0, none⟩), .agg #[.int .i64 a, .int .i64 l]] W fun e w' => e = .returned (.bool (dropV s2 a l).2.1) ∧ TwoG w1 w' g tb mb s1 (dropV s2 a l).1 ∧ w'.heap[g]? = W.heap[g]? := by
  obtain ⟨F1, F2, h, g1, g2, g3⟩ := h
  refine (refDrop_any F2 mb s2 hs a l W h.rf (fun k hk => (h.l2 k hk).2) hn hp).mono ?_
  rintro e w' ⟨rfl, h1, h2⟩
  exact ⟨rfl, ⟨_, _, h.ref h1 h2, g1, fun k => Or.elim k g2 (fun k => by omega), Nat.lt_of_lt_of_le g3 h2.size⟩, h2.block g g3 g2⟩
theorem TwoG.tdrop (h : TwoG w1 W g tb mb s1 s2) (a l : Int) :
    Calls Tryd.prog 10 #[.pointer (some ⟨tb, 0, none⟩), .agg #[.int .i64 a, .int .i64 l]] W fun e w' => e = .returned (.tuple #[.bool (dropV s1 a l).2.1, errT (dropV s1 a l).2.2]) ∧ TwoE w1 w' tb mb (dropV s1 a l).1 s2 := by
  exact h.two.tdrop a l
end
theorem errT_val (n : Int) : ErrVal (errT n) n := by
  unfold errT
  by_cases h : n = 0
  · subst h; exact .inl ⟨rfl, rfl⟩
  · rw [if_neg h]; exact .inr rfl
theorem errT_same (n : Int) (w : World) (hg : ErrLaid w) : Calls Tryd.prog 7 #[errT n, .int .i64 n] w fun e w' => e = .returned (.bool true) ∧ Below w.heap.size w w' := by
  refine (error_val (errT_val n) n w hg).mono ?_
  rintro e w' ⟨rfl, hb⟩
  exact ⟨by rw [beq_self_eq_true], hb⟩
theorem dropV_err {s : Tv} {a l : Int} : (dropV s a l).2.2 = prefE a l ∧ (¬ prefE a l = 0 → (dropV s a l).1 = s ∧ (dropV s a l).2.1 = false) := by
  unfold dropV
  by_cases h : prefE a l = 0
  · rw [if_neg (by rw [h]; simp)]
    refine ⟨?_, fun k => absurd h k⟩
    rw [h]; split <;> rfl
  · rw [if_pos h]; exact ⟨rfl, fun _ => ⟨rfl, rfl⟩⟩
/-- Both at their beginning. -/
theorem TwoE.new {w0 w2 : World} (hT : TrieAt w2 (fun k => k = w0.heap.size) w0.heap.size newV) (hb : Below w0.heap.size w0 w2) (hs : w2.heap.size = w0.heap.size + 1) :
    TwoE w0 (w2.alloc (.cells #[.slice none 0 0] 30)) w0.heap.size w2.heap.size newV newV := by
  have b2 : Below w2.heap.size w2 (w2.alloc (.cells #[.slice none 0 0] 30)) := (Below.refl _ _).alloc (Nat.le_refl _) _
  have hs2 : (w2.alloc (.cells #[.slice none 0 0] 30)).heap.size = w2.heap.size + 1 := by simp
  refine ⟨fun k => k = w0.heap.size, fun k => k = w2.heap.size, ⟨hT.keep (fun k hk => b2.block k (by omega)), ⟨.slice none 0 0, ?_⟩, fun k h1 h2 => by omega, fun k hk => by omega, fun k hk => by omega, hb.trans (b2.mono hb.size)⟩⟩
  have e : allV newV = [] := lstL_nil (fun _ _ _ _ => rfl)
  rw [e]; exact RT.new w2
end Go.Proofs.YtdpnmhfhjcebbaaDoor
