/- A trie that a law holds ('TS'), through worlds; what is put and dropped: plain facts. -/
import Derived.Test.YtdpnmhfhjcebbaaDoorPrRow
import Derived.Test.YtdpnmhfhjcebbaaDoorTrieDrop
import Derived.Test.YtdpnmhfhjcebbaaDoorAddrHas
import Derived.Test.YtdpnmhfhjcebbaaDoorThinMath
namespace Go.Proofs.YtdpnmhfhjcebbaaDoor
open Go.RowKit
set_option linter.unusedVariables false

/-- A trie over blocks of F0 and such as have come since w0; of what was there nothing but blocks of F0 has turned. -/
structure TS (F0 : Nat → Prop) (w0 W : World) (tb : Nat) (s : Tv) : Prop where
  trie : TrieAt W (Plus F0 w0 W) tb s
  turn : Turn F0 w0 W
section
variable {F0 : Nat → Prop} {w0 W W' : World} {tb : Nat} {s s' : Tv}
theorem TS.lt (h : TS F0 w0 W tb s) (hF : ∀ k, F0 k → k < w0.heap.size) : ∀ k, Plus F0 w0 W k → k < W.heap.size := fun k hk => by
  have := h.turn.size
  rcases hk with h1 | h1
  · have := hF k h1; omega
  · exact h1.2
theorem TS.below (h : TS F0 w0 W tb s) (hF : ∀ k, F0 k → k < w0.heap.size) (hb : Below W.heap.size W W') : TS F0 w0 W' tb s := by
  refine ⟨(h.trie.keep (fun k hk => hb.block k (h.lt hF k hk))).mono (fun k hk => ?_), h.turn.trans (Turn.of_below hb F0)⟩
  have := hb.size
  rcases hk with h1 | h1
  · exact .inl h1
  · exact .inr ⟨h1.1, by omega⟩
theorem TS.drew (h : TS F0 w0 W tb s) : TS F0 w0 W.drew tb s := ⟨(h.trie.keep (w' := W.drew) (fun _ _ => rfl)).mono (fun k hk => hk), h.turn.drewN 1⟩
/-- What the trie lies over, told anew: no block that has come since is its own. -/
theorem TS.rebase (h : TS F0 w0 W tb s) (hF : ∀ k, F0 k → k < w0.heap.size) (hb : Below W.heap.size W W') : TS (Plus F0 w0 W) W' W' tb s ∧ ∀ k, Plus F0 w0 W k → k < W'.heap.size :=
  ⟨⟨(h.trie.keep (fun k hk => hb.block k (h.lt hF k hk))).mono (fun k hk => .inl hk), Turn.refl _ _⟩, fun k hk => Nat.lt_of_lt_of_le (h.lt hF k hk) hb.size⟩
theorem TS.rebase0 (h : TS F0 w0 w0 tb s) (hF : ∀ k, F0 k → k < w0.heap.size) (hb : Below w0.heap.size w0 W') : TS F0 W' W' tb s ∧ ∀ k, F0 k → k < W'.heap.size :=
  ⟨⟨(h.trie.mono (G := F0) (fun k hk => by
      rcases hk with h1 | h1
      · exact h1
      · omega)).keep (fun k hk => hb.block k (hF k hk)) |>.mono (fun k hk => .inl hk), Turn.refl _ _⟩, fun k hk => Nat.lt_of_lt_of_le (hF k hk) hb.size⟩
theorem TS.next (h : TS F0 w0 W tb s) (hp : TrieAt W' (Plus (Plus F0 w0 W) W W') tb s') (ht : Turn (Plus F0 w0 W) W W') : TS F0 w0 W' tb s' := by
  refine ⟨hp.mono (fun k hk => ?_), h.turn.andThen ht (fun i hi => ?_)⟩
  · have := ht.size
    have := h.turn.size
    rcases hk with (h1 | h1) | h1
    · exact .inl h1
    · exact .inr ⟨h1.1, by omega⟩
    · exact .inr ⟨by omega, h1.2⟩
  · rcases hi with h1 | h1
    · exact .inl h1
    · exact .inr h1.1
theorem TS.put (h : TS F0 w0 W tb s) (hF : ∀ k, F0 k → k < w0.heap.size) (a l v : Int) :
    Calls Tryd.prog 6 #[.pointer (some ⟨tb, 0, none⟩), .agg #[.int .i64 a, .int .i64 l], .int .i64 v] W fun e w' => e = .returned (.tuple #[.bool (putV s a l v).2.1, errT (putV s a l v).2.2]) ∧ TS F0 w0 w' tb (putV s a l v).1 := by
  refine (put_any (Plus F0 w0 W) tb s a l v W h.trie (h.lt hF)).mono ?_
  rintro e w' ⟨rfl, h1, h2⟩
  exact ⟨rfl, h.next h1 h2⟩
theorem TS.drop (h : TS F0 w0 W tb s) (hF : ∀ k, F0 k → k < w0.heap.size) (a l : Int) :
    Calls Tryd.prog 10 #[.pointer (some ⟨tb, 0, none⟩), .agg #[.int .i64 a, .int .i64 l]] W fun e w' => e = .returned (.tuple #[.bool (dropV s a l).2.1, errT (dropV s a l).2.2]) ∧ TS F0 w0 w' tb (dropV s a l).1 := by
  refine (drop_any (Plus F0 w0 W) tb s a l W h.trie (h.lt hF)).mono ?_
  rintro e w' ⟨rfl, h1, h2⟩
  exact ⟨rfl, h.next h1 h2⟩
theorem TS.find (h : TS F0 w0 W tb s) (hF : ∀ k, F0 k → k < w0.heap.size) (x : Int) :
    Calls Tryd.prog 15 #[.pointer (some ⟨tb, 0, none⟩), .int .i64 x] W fun e w' => e = .returned (.tuple #[.agg #[.int .i64 (findV s x).a, .int .i64 (findV s x).l, .int .i64 (findV s x).v], errT (findE s x)]) ∧ Below W.heap.size W w' ∧ TS F0 w0 w' tb s := by
  refine (find_any (Plus F0 w0 W) tb s x W h.trie (h.lt hF)).mono ?_
  rintro e w' ⟨rfl, h1⟩
  exact ⟨rfl, h1, h.below hF h1⟩
theorem TS.all (h : TS F0 w0 W tb s) (hF : ∀ k, F0 k → k < w0.heap.size) :
    Calls Tryd.prog 12 #[.pointer (some ⟨tb, 0, none⟩)] W fun e w' => ∃ v, e = .returned v ∧ OwnR w' W.heap.size v (allV s) ∧ Below W.heap.size W w' ∧ TS F0 w0 w' tb s := by
  refine (all_any (Plus F0 w0 W) tb s W h.trie (h.lt hF)).mono ?_
  rintro e w' ⟨v, rfl, h1, h2⟩
  exact ⟨v, rfl, h1, h2, h.below hF h2⟩
end
/-! ### what is put and dropped -/
theorem put_then {s : Tv} {a l v x : Int} (hs : OkV s) (hp : prefE a l = 0) (hm : s.many ≤ 199) :
    (putV s a l v).2.2 = 0 ∧ (putV s a l v).2.1 = decide (atV s a l = none) ∧ (putV s a l v).1.f = setV s.f l.toNat (kq a l.toNat) (some v) ∧ atV (putV s a l v).1 a l = some v := by
  obtain ⟨h1, h2⟩ := putV_good (s := s) (v := v) hp (by omega)
  refine ⟨h1, ?_, h2, ?_⟩
  · unfold putV
    rw [if_neg (by rw [hp]; simp)]
    split
    · rename_i h; rw [if_neg (by omega), decide_eq_true h]
    · rename_i h; rw [decide_eq_false h]
  · unfold atV; rw [h2, setV_same]
theorem drop_then {s : Tv} {a l u : Int} (hp : prefE a l = 0) (hu : atV s a l = some u) :
    dropV s a l = (⟨setV s.f l.toNat (kq a l.toNat) none, s.many - 1⟩, true, 0) := by
  unfold dropV; rw [if_neg (by rw [hp]; simp), if_neg (by rw [hu]; simp)]
theorem drop_twice {s : Tv} {a l : Int} (m : Int) (hp : prefE a l = 0) : dropV ⟨setV s.f l.toNat (kq a l.toNat) none, m⟩ a l = (⟨setV s.f l.toNat (kq a l.toNat) none, m⟩, false, 0) := by
  unfold dropV atV; rw [if_neg (by rw [hp]; simp), if_pos (setV_same _ _ _ _)]
theorem put_found {s : Tv} {a l v x : Int} (hs : OkV s) (hp : prefE a l = 0) (hu : atV s a l = some v) (hh : hasB a l x = true) :
    findE s x = 0 ∧ ¬ (findV s x).l < l ∧ ((findV s x).a = a → (findV s x).l = l → (findV s x).v = v) := by
  obtain ⟨n, rfl, hn, hp', hk⟩ := prefE_nat hp
  have hX : isAddr x = true := by unfold hasB at hh; exact (of_decide_eq_true hh).2.1
  have hA := of_isAddr hX
  unfold atV at hu
  rw [Int.toNat_natCast] at hu
  have hb := ka_kq hp'
  have hh2 := hh
  rw [← hb, has_kq hn hk hA.1 hA.2] at hh2
  have hq := of_decide_eq_true hh2
  have hm : (⟨ka n (kq x n), n, v⟩ : Pr) ∈ ovL s.f x 32 := mem_ovL.2 ⟨n, v, hn, by rw [hq]; exact hu, rfl⟩
  have hE : findE s x = 0 := by
    unfold findE
    rw [if_pos hX, if_neg (fun h => by rw [h] at hm; cases hm)]
  refine ⟨hE, find_most hE hh (by rw [Int.toNat_natCast, hu]; simp), fun h1 h2 => ?_⟩
  obtain ⟨d, u, hd, hf, he, _⟩ := find_has hs hE
  rw [he] at h2 ⊢
  simp only at h2 ⊢
  have hdn : d = n := by omega
  subst hdn
  rw [hq, hu] at hf
  simpa using hf.symm
end Go.Proofs.YtdpnmhfhjcebbaaDoor
