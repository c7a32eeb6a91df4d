/- What the reference's Bytes returns (package portref1): a row of the call's own with a number's bytes behind it, the high one first. -/
import Derived.Test.YtpenenaifajejabDoorRefWire
namespace Go.Proofs.YtpenenaifajejabDoor
open Go.RowKit
set_option linter.unusedVariables false

def beL : Nat → Int → List Int
  | 0, n => []
  | m + 1, n => (n / pw (8 * (m : Int)) % 256) :: beL m n
/-- A row v of the call's own has become v': of what was there nothing else has turned. -/
def Grew (v v' : Value) (w w' : World) : Prop := w.grownBy w' v.ownBlock ∧ (v'.ownBlock = v.ownBlock ∨ ∃ k, v'.ownBlock = some k ∧ w.heap.size ≤ k)
theorem Grew.refl (v : Value) (w : World) : Grew v v w w := ⟨⟨rfl, rfl, rfl, Nat.le_refl _, fun _ _ _ => rfl⟩, .inl rfl⟩
theorem Grew.trans {v v' v'' : Value} {w w' w'' : World} (h : Grew v v' w w') (k : Grew v' v'' w' w'') : Grew v v'' w w'' := by
  obtain ⟨g1, e1⟩ := h
  obtain ⟨g2, e2⟩ := k
  refine ⟨⟨g2.os.trans g1.os, g2.tape.trans g1.tape, g2.output.trans g1.output, Nat.le_trans g1.size g2.size, fun i hi hne => ?_⟩, ?_⟩
  · rw [g2.block i (Nat.lt_of_lt_of_le hi g1.size) (fun he => ?_), g1.block i hi hne]
    rcases e1 with e1 | ⟨k, e1, hk⟩
    · rw [e1] at he; exact hne he
    · rw [e1] at he; simp only [Option.some.injEq] at he; omega
  · rcases e2 with e2 | ⟨k, e2, hk⟩
    · rw [e2]; exact e1
    · exact .inr ⟨k, e2, Nat.le_trans g1.size hk⟩
theorem Grew.below {v v' : Value} {w w' w0 : World} {B : Nat} (h : Grew v v' w w') (hb : Below B w0 w) (hB : B ≤ w.heap.size) (hv : ∀ k, v.ownBlock = some k → B ≤ k) : Below B w0 w' := hb.grown h.1 hB hv
/-- 'append' of one byte onto a row of the call's own. -/
theorem wpList_append_byte {w : World} {ops : Array Oper} {rest : List Oper} {o : Oper} {a : Act} {Q : Exit → Act → World → Prop} (hgd : o.guard = none) (s x : Operand)
    (ho : o.op = .call { callee := .builtin .append, args := #[s, x], argTypes := #[45, 45] })
    (base : Nat) (v : Value) (cur : List Int) (hs : a.eval s = v) (hown : OwnB w base v cur) (y : Int) (hy : 0 ≤ y ∧ y ≤ 255) (hx : a.eval x = .slice (some ⟨w.heap.size, 0, none⟩) 1 1)
    (hlen : cur.length ≤ 1000000) (hbase : base ≤ w.heap.size)
    (h : ∀ v' w', OwnB w' base v' (cur ++ [y]) → Grew v v' w w' → wpList Tryd.prog ops Q rest (a.put o.dst v') w') :
    wpList Tryd.prog ops Q (o :: rest) a (w.alloc (.cells #[.int .u8 y] 5)) := by
  obtain ⟨i0, hi, hz0, hz1, hz2⟩ := info_parts Tryd.infoU8
  refine wpList_append_at hgd s x 45 ho base 5 i0 (.int .u8 0) 1 1 Tryd.underlying45 hi hz0 hz1 hz2 rfl (by decide) v cur.length (cur.map (Value.int .u8)) hs (hown.alloc _).1 ⟨w.heap.size, 0, none⟩ 1 1 [.int .u8 y] hx rfl ?_ ?_ (by unfold maxLen; omega) (by omega) (by simp; omega) ?_
  · intro j u hj
    match j, hj with
    | 0, hj => simp at hj; subst hj; simp [Addr.add]
  · intro u hu; simp at hu; subst hu; rfl
  · intro v' w' h1 h2 h3
    refine h v' w' ⟨?_, ?_⟩ ⟨⟨h2.os, h2.tape, h2.output, Nat.le_trans (by simp) h2.size, fun i hi hne => ?_⟩, ?_⟩
    · rw [List.length_append, List.map_append]; exact h1
    · intro z hz
      rcases List.mem_append.1 hz with h' | h'
      · exact hown.2 z h'
      · rw [List.mem_singleton.1 h']; exact hy
    · rw [h2.block i (by simp; omega) hne]
      exact Below.heap_alloc w _ i hi
    · rcases h3 with h3 | h3
      · exact .inl h3
      · exact .inr ⟨_, h3, by simp⟩

set_option maxRecDepth 100000 in
set_option maxHeartbeats 4000000 in
theorem refBytes_any (v : Value) (ys : List Int) (n : Int) (size base : Nat) (w : World) (hown : OwnB w base v ys) (hn0 : 0 ≤ n) (hn1 : n ≤ 4294967295) (hs : size ≤ 4) (hy : ys.length ≤ 100000) (hbase : base ≤ w.heap.size) :
    Calls Tryd.prog 38 #[v, .int .i64 n, .int .i64 (size : Int)] w fun e w' => ∃ v', e = .returned v' ∧ OwnB w' base v' (ys ++ beL size n) ∧ Grew v v' w w' := by
  go_enter Tryd.func38, Tryd.ntmps38
  go_wp2
  go_loopw [0, 7] (fun vr i wr => ∃ (k : Nat) (cur : List Int), k ≤ size ∧ i = .int .i64 ((k : Int) - 1) ∧ OwnB wr base vr cur ∧ Grew v vr w wr ∧ cur.length ≤ 100004 - k ∧ Hid (cur ++ beL k n = ys ++ beL size n)) (fun _ i _ => (intOf i + 1).toNat)
  case atStart => exact ⟨size, ys, by omega, rfl, hown, Grew.refl _ _, by omega, rfl⟩
  case round =>
    rename_i vr _ wr
    obtain ⟨k, cur, hk, rfl, ho, hg, hl, hT⟩ := hrel
    rcases k with _ | k
    · have HT : Hid (cur = ys ++ beL size n) := by
        show cur = ys ++ beL size n
        rw [← hT.out]; simp [beL]
      clear hT
      go_wp2
      go_ret
      exact ⟨_, rfl, HT.out ▸ ho, hg⟩
    · have ek : ((k + 1 : Nat) : Int) - 1 = (k : Int) := by omega
      rw [ek]
      have hp := fun ww => pow_any (8 * (k : Int)) ww (by omega) (by omega)
      have p1 := pw_pos (8 * (k : Int))
      have p2 := pw_le (n := 8 * (k : Int)) (by omega) (by omega)
      have HT : Hid (cur ++ (n / pw (8 * (k : Int)) % 256) :: beL k n = ys ++ beL size n) := hT.out
      generalize pw (8 * (k : Int)) = P at hp p1 p2 HT
      have d0 : 0 ≤ n / P := Int.ediv_nonneg hn0 (by omega)
      have d1 : n / P ≤ 4294967295 := Int.le_trans (Int.ediv_le_self _ hn0) hn1
      have hP : (P == 0) = false := by rw [beq_eq_false_iff_ne]; omega
      have hb0 : base ≤ wr.heap.size := Nat.le_trans hbase hg.1.size
      clear hT ek hown
      go_wp2_with (first
        | (go_at_call 57; refine (hp _).mono ?_; rintro e w' ⟨rfl, rfl⟩)
        | (at_builtin; refine wpList_append_byte rfl (.tmp 14) (.tmp 22) rfl base _ cur rfl ho (n / P % 256) (by omega) rfl (by omega) hb0 ?_; intro v2 w2 own2 grew2))
      go_roundw
      case rel =>
        refine ⟨k, cur ++ [n / P % 256], by omega, by go_num, own2, hg.trans grew2, by simp; omega, ?_⟩
        show cur ++ [n / P % 256] ++ beL k n = ys ++ beL size n
        rw [List.append_assoc]; exact HT.out
      case measure => simp [intOf]
end Go.Proofs.YtpenenaifajejabDoor
