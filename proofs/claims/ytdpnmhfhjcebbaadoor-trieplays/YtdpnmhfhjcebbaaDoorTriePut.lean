/- What New, All and Put of package trie do to a trie. -/
import Derived.Test.YtdpnmhfhjcebbaaDoorTrieList
import Derived.Test.YtdpnmhfhjcebbaaDoorTrieGrow
namespace Go.Proofs.YtdpnmhfhjcebbaaDoor
open Go.RowKit
set_option linter.unusedVariables false
set_option maxRecDepth 4000

theorem list_raw (tb : Nat) (F : Nat → Prop) (blk : Bk) (s : Tv) (base : Nat) (hF : ∀ k, F k → k < base) : ∀ (m d : Nat), d + m = 32 → ∀ (q b : Nat) (w : World) (v : Value) (ps : List Pr), TrIn w F tb blk s → base ≤ w.heap.size → blk d q = some b → OwnR w base v ps → ps.length + (lstL s.f m d q).length ≤ 1000000 →
    Calls Tryd.prog 29 #[.pointer (some ⟨b, 0, none⟩), .agg #[.int .i64 (ka d q), .int .i64 (d : Int)], v] w (LstR base (ps ++ lstL s.f m d q) v w)
  | 0, d, hd, q, b, w, v, ps, hT, hbase, hb, hown, hlen => by
    have h := list_body tb F blk s base d q b w v ps (fun _ => []) hT hF hbase hb hown (by simpa [lstL] using hlen) (fun _ _ _ => rfl) (fun i hi c w v ps hc => by
      have := (hT.rng _ _ c hc).1; omega)
    simpa [lstL] using h
  | m + 1, d, hd, q, b, w, v, ps, hT, hbase, hb, hown, hlen => by
    have h := list_body tb F blk s base d q b w v ps (fun i => lstL s.f m (d + 1) (2 * q + i)) hT hF hbase hb hown (by simpa [lstL, Nat.add_assoc] using hlen) (fun i _ hn => hT.lst_none hn m)
      (fun i hi c w v ps hc hT' hb' ho' hl' => list_raw tb F blk s base hF m (d + 1) (by omega) (2 * q + i) c w v ps hT' hb' hc ho' hl')
    simpa [lstL, List.append_assoc] using h
set_option maxHeartbeats 2000000 in
theorem new_trie (w : World) : Calls Tryd.prog 4 #[] w fun e w' => e = .returned (.pointer (some ⟨w.heap.size, 0, none⟩)) ∧ w' = w.alloc (.cells #[.pointer none, .pointer none, .bool false, .int .i64 0, .int .i64 0] 60) := by
  go_enter Tryd.func4, Tryd.ntmps4
  go_wp2_with fail
  go_ret
  exact ⟨rfl, rfl⟩
theorem newTrie_any (w : World) : Calls Tryd.prog 4 #[] w fun e w' => e = .returned (.pointer (some ⟨w.heap.size, 0, none⟩)) ∧ TrieAt w' (fun k => k = w.heap.size) w.heap.size newV ∧ Below w.heap.size w w' ∧ w'.heap.size = w.heap.size + 1 := by
  refine (new_trie w).mono ?_
  rintro e w' ⟨rfl, rfl⟩
  exact ⟨rfl, ⟨OkV.new, by decide, _, TrIn.new w 60 rfl⟩, (Below.refl _ _).alloc (Nat.le_refl _) _, by simp⟩
theorem TrieAt.all_len {w : World} {F : Nat → Prop} {tb : Nat} {s : Tv} (h : TrieAt w F tb s) : (allV s).length ≤ 200 := by
  have := h.1.many
  have := h.2.1
  omega
set_option maxHeartbeats 2000000 in
theorem all_any (F : Nat → Prop) (tb : Nat) (s : Tv) (w : World) (h : TrieAt w F tb s) (hF : ∀ k, F k → k < w.heap.size) : Calls Tryd.prog 12 #[.pointer (some ⟨tb, 0, none⟩)] w (Lists (allV s) w) := by
  have hlen := h.all_len
  obtain ⟨_, _, blk, hT⟩ := h
  have hls := list_raw tb F blk s w.heap.size hF 32 0 rfl 0 tb w (.slice none 0 0) [] hT (Nat.le_refl _) hT.root (OwnR.nil _ _) (by unfold allV at hlen; simp; omega)
  rw [show ka 0 0 = 0 from rfl, show ((0 : Nat) : Int) = 0 from rfl] at hls
  have HZ : Hid (∀ e w', LstR w.heap.size ([] ++ lstL s.f 32 0 0) (.slice none 0 0) w e w' → Lists (allV s) w e w') := by
    rintro e w' ⟨v', rfl, h1, h2, h3⟩
    exact ⟨v', rfl, h1, ⟨h2.os, h2.tape, h2.output, h2.size, fun k hk => h2.block k hk (fun e => by cases e)⟩⟩
  clear hT hlen
  go_enter Tryd.func12, Tryd.ntmps12
  go_wp2_with (go_at_call 29; refine hls.mono ?_; intro e w1 h1; obtain ⟨v1, rfl, hr⟩ := HZ.out e w1 h1)
  go_ret
  exact ⟨v1, rfl, hr⟩
def errT (n : Int) : Value := if n = 0 then .nilIface else .iface 64 (.int .i64 n)
/-- What Put leaves. -/
def Puts (F : Nat → Prop) (tb : Nat) (s : Tv) (a l v : Int) (w : World) (e : Ending) (w' : World) : Prop :=
  e = .returned (.tuple #[.bool (putV s a l v).2.1, errT (putV s a l v).2.2]) ∧ TrieAt w' (Plus F w w') tb (putV s a l v).1 ∧ Turn F w w'
theorem TrieAt.plus {w w' : World} {F : Nat → Prop} {tb : Nat} {s : Tv} (h : TrieAt w F tb s) (hF : ∀ k, F k → k < w.heap.size) (hb : Below w.heap.size w w') : TrieAt w' (Plus F w w') tb s := (h.below hF hb).mono (fun k hk => .inl hk)
set_option maxHeartbeats 4000000 in
theorem put_err (F : Nat → Prop) (tb : Nat) (s : Tv) (a l v : Int) (w : World) (h : TrieAt w F tb s) (hF : ∀ k, F k → k < w.heap.size) (hp : ¬ prefE a l = 0) :
    Calls Tryd.prog 6 #[.pointer (some ⟨tb, 0, none⟩), .agg #[.int .i64 a, .int .i64 l], .int .i64 v] w (Puts F tb s a l v w) := by
  have hB : Below w.heap.size w (w.alloc (.cells #[.int .i64 a, .int .i64 l] 25)) := (Below.refl _ _).alloc (Nat.le_refl _) _
  have hck := check_bad a l (w.alloc (.cells #[.int .i64 a, .int .i64 l] 25)) hp
  have HZ : Hid (∀ w', Below w.heap.size w w' → Puts F tb s a l v w (.returned (.tuple #[.bool false, .iface 64 (.int .i64 (prefE a l))])) w') := fun w' hb => by
    have e : putV s a l v = (s, false, prefE a l) := by unfold putV; rw [if_pos hp]
    refine ⟨?_, ?_, Turn.of_below hb F⟩
    · rw [e]; unfold errT; rw [if_neg hp]
    · rw [e]; exact h.plus hF hb
  generalize prefE a l = n at hck HZ
  clear h hp
  go_enter Tryd.func6, Tryd.ntmps6
  go_wp2_with (go_at_call 23; refine hck.mono ?_; rintro e w1 ⟨rfl, b1⟩)
  go_ret2
  exact HZ.out w1 (hB.trans (b1.mono hB.size))
end Go.Proofs.YtdpnmhfhjcebbaaDoor
