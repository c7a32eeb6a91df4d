/- What maps.DeleteFunc does to a map from names to pointers: those entries go of which the predicate says so; on every order in which they may come. The predicate writes nothing that lay. -/
import Derived.Test.YtgodjaffmojhlaaDoorMgD
import Derived.Deep.LoopGhost
import Derived.Shelf.Abstract
namespace Go.Proofs.YtgodjaffmojhlaaDoor
open Go.RowKit Go.Maps
set_option linter.unusedVariables false

/-- What the predicate says, on what is held. -/
def heldB (pd : Lit → Value → Bool) (kl : Lit) (d : DataW Value) : Bool := match d with | .held v => pd kl v | _ => false
set_option maxHeartbeats 8000000 in
set_option maxRecDepth 100000 in
theorem del_any (pd : Lit → Value → Bool) (g : Nat) (cb : Array Value) (b : Nat) (l : List (Lit × Value)) (w : World) (hm : MapIs Tryd.prog 61 w b l)
    (eg : ∀ args w, (callFunc g args).run Tryd.prog w = .ok (.enter g args) w)
    (hkey : ∀ x ∈ l, ∃ n, NmOk n ∧ x.1 = litN n)
    (hdel : ∀ (W : World) (n : Nm) (v : Value), w.grownBy W (some b) → NmOk n → (litN n, v) ∈ l →
      Calls Tryd.prog g (#[nmV n, v] ++ cb) W fun e w' => e = .returned (.bool (pd (litN n) v)) ∧ W.grownBy w' none) :
    Calls Tryd.prog 15 #[.map (some b), .func (.func g) #[] cb] w fun e w' => e = .returned (.tuple #[]) ∧ MapIs Tryd.prog 61 w' b (l.filter fun x => !pd x.1 x.2) ∧ w.grownBy w' (some b) := by
  obtain ⟨es0, hown, hperm⟩ := hm
  obtain ⟨es1, he, hap, hkeys⟩ := hown.entries lawN
  injection he with he
  subst he
  have HD : Aside _ := hdel
  have HK : Hid (∀ x ∈ l, ∃ n, NmOk n ∧ x.1 = litN n) := hkey
  have HP : Hid (es0.Perm (heldL l)) := hperm
  clear hdel hkey hperm
  go_enter Tryd.func15, Tryd.ntmps15
  go_wp2_with (first
    | (at_range; refine wpList_range_own _ rfl _ 49 rfl 61 62 lawN Tryd.underlying49 rawR b l.length _ rfl hown ?_; intro w0 hrg0 hg0 hs0)
    | go_in)
  go_frame
  go_loopw [8] (fun _ wr => ∃ (left : Lit → Bool) (cnt : Nat), wr.ranges Tryd.prog 61 rawR b w.heap.size l.length (Fk (heldB pd) es0 left) left cnt ∧ w.grownBy wr (some b))
    (fun _ wr => wr.rangeLeft b w.heap.size)
  case atStart => exact ⟨_, _, by rw [Fk_start hkeys]; exact hrg0, hg0.but _⟩
  case round =>
    obtain ⟨left, cnt, hrg, hgw⟩ := hrel
    go_wp2_with (first
      | (at_next; refine wpList_next_ranges _ rfl _ rfl 61 lawN rawR id id (fun key _ _ => ⟨key, rfl⟩) (fun v _ _ => ⟨v, rfl⟩) b w.heap.size l.length _ _ _ rfl hrg ?_ ?_)
      | go_in)
    · intro _ hl0
      go_wp2
      go_end0
      refine ⟨rfl, ?_, hgw⟩
      have h1 := hrg.owns
      rw [Fk_end hl0] at h1
      have := MapIs.struck HP.out h1
      exact this
    · intro x c kl yd yp w1 cnt1 hkx hlx hv hat hrg1 hlt hg1 hs1 hen
      obtain ⟨rfl, rfl⟩ : yd = DataW.held c ∧ yp = [] := by
        have h1 : rawR c = some (DataW.held c, []) := rfl
        rw [h1] at hv
        simp only [Option.some.injEq, Prod.mk.injEq] at hv
        exact ⟨hv.1.symm, hv.2.symm⟩
      have hmem : (kl, DataW.held c) ∈ es0 := by
        have h1 := hat (.held (.bool false))
        have h2 := hat .nil
        unfold Fk DataW.atKey at h1 h2
        simp only at h1 h2
        rcases hf : List.find? (fun p => p.1.sameKey kl) (es0.filter fun p => !heldB pd p.1 p.2 || left p.1) with _ | z
        · rw [hf] at h2; cases h2
        · rw [hf] at h2
          simp only at h2
          have hz := List.mem_of_find?_eq_some hf
          have hs := List.find?_some hf
          have hz1 := WideAt.sameKey_eq hs
          have := (List.mem_filter.1 hz).1
          rw [← hz1, ← h2]; exact this
      have hml : (kl, c) ∈ l := heldL_mem.1 (HP.out.mem_iff.1 hmem)
      obtain ⟨n, hn, hkn⟩ := HK.out _ hml
      simp only at hkn
      subst hkn
      obtain rfl : x = nmV n := lawN.inj hkx (keyN hn)
      try simp only [id] at hen ⊢
      have hgw1 := hgw.andThen hg1 (fun j hj => by cases hj; exact Or.inl (Nat.le_refl _))
      have hga := World.grownBy_alloc w1 (.cells #[.int .i64 n.kind, .int .i64 n.src, .int .i64 n.dst, .int .i64 n.ident] 61) none
      have hrg2 := hrg1.kept hga (by simp) (by simp)
      have hgw2 := hgw1.andThen hga (fun j hj => by cases hj)
      have hc := HD.out _ n c hgw2 hn hml
      have hkb1 := heap_alloc_new w1 (.cells #[.int .i64 n.kind, .int .i64 n.src, .int .i64 n.dst, .int .i64 n.ident] 61)
      have hkl : w1.heap.size < (w1.alloc (.cells #[.int .i64 n.kind, .int .i64 n.src, .int .i64 n.dst, .int .i64 n.ident] 61)).heap.size := by simp
      have HKB : Hid ((w1.alloc (.cells #[.int .i64 n.kind, .int .i64 n.src, .int .i64 n.dst, .int .i64 n.ident] 61)).heap[w1.heap.size]? = some (.cells #[.int .i64 n.kind, .int .i64 n.src, .int .i64 n.dst, .int .i64 n.ident] 61 (0, 0))) := hkb1
      have HKX : Hid (keyOf Tryd.prog 61 (nmV n) = some (litN n)) := hkx
      unfold nmV at hen hc ⊢
      have hat' : ∀ zd, (Fk (heldB pd) es0 left).atKey (litN n) zd = .held c := hat
      have HAT : Hid (∀ zd, (Fk (heldB pd) es0 left).atKey (litN n) zd = .held c) := hat'
      have HLX : Hid (left (litN n) = true) := hlx
      clear hkb1 hkx hat hat' hlx hv hmem hs1
      cases hp : pd (litN n) c <;> rw [hp] at hc
      · have HPD : Hid (heldB pd (litN n) (.held c) = false) := hp
        clear hp
        go_wp2_with (first
          | (go_at_fn g; refine hc.mono ?_; rintro e w2 ⟨rfl, hg2⟩)
          | go_in)
        have hrg3 := hrg2.kept hg2 (by simp) (by simp)
        go_roundw
        case rel => exact ⟨_, cnt1, by rw [← Fk_stays hap (lawN.key HKX.out) HLX.out HPD.out HAT.out]; exact hrg3, hgw2.andThen hg2 (fun j hj => by cases hj)⟩
        case measure => rw [hrg3.left_eq, hrg.left_eq]; exact hlt
      · have HPD : Hid (heldB pd (litN n) (.held c) = true) := hp
        clear hp
        go_wp2_with (first
          | (go_at_fn g; refine hc.mono ?_; rintro e w2 ⟨rfl, hg2⟩; have hrg3 := hrg2.kept hg2 (by simp) (by simp); have hkb2 := (hg2.block _ hkl (by simp)).trans HKB.out; have k0 := cell_of_row w2 w1.heap.size 0 _ _ _ hkb2; have k1 := cell_of_row w2 w1.heap.size 1 _ _ _ hkb2; have k2 := cell_of_row w2 w1.heap.size 2 _ _ _ hkb2; have k3 := cell_of_row w2 w1.heap.size 3 _ _ _ hkb2; simp at k0 k1 k2 k3)
          | (at_delete; refine wpList_delete_ranges _ rfl _ _ 49 61 rfl 62 lawN Tryd.underlying49 rawR b w.heap.size l.length _ _ _ rfl hrg3 _ _ rfl HKX.out ?_; intro w3 cnt3 hrg4 hle hturn; go_frame)
          | go_in)
        rw [strike_twice] at hrg4
        go_roundw
        case rel => exact ⟨_, cnt3, by rw [← Fk_struck hap (lawN.key HKX.out) HLX.out HPD.out HAT.out]; exact hrg4, (hgw2.andThen hg2 (fun j hj => by cases hj)).andThen hturn.grown (fun j hj => by cases hj; exact Or.inr rfl)⟩
        case measure => rw [hrg4.left_eq, hrg.left_eq]; omega
end Go.Proofs.YtgodjaffmojhlaaDoor
