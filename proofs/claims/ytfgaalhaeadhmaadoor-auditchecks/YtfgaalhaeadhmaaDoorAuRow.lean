/- Rows of the call's own of who was Master from when to when: 'OwnMs'; append of one. -/
import Derived.Test.YtfgaalhaeadhmaaDoorAuM2
import Derived.Test.YtfgaalhaeadhmaaDoorOwnN
import Derived.Deep.RegionLaw
import Derived.Deep.AppendLies
namespace Go.Proofs.YtfgaalhaeadhmaaDoor
open Go.RowKit
set_option linter.unusedVariables false

def msRow (k : Ms) : List Value := [.int .i64 k.b, .int .i64 k.e, .int .i64 k.n]
theorem msR_one (k : Ms) : ∀ u ∈ msRow k, u.oneCell' = true := by
  intro u hu
  simp only [msRow, List.mem_cons, List.not_mem_nil, or_false] at hu
  rcases hu with rfl | rfl | rfl <;> rfl
/-- The value v is a slice of the call's own that holds these. -/
def OwnMs (w : World) (base : Nat) (v : Value) (ks : List Ms) : Prop := OwnN 59 3 msRow w base v ks
theorem Tryd.infoA3 : (Tryd.prog.info? 59).map (fun i => (i.zero, i.size, i.bytes)) = some (some (.agg #[.int .i64 0, .int .i64 0, .int .i64 0]), 3, 24) := by kernel_rfl
theorem wpList_append_ms {w : World} {ops : Array Oper} {rest : List Oper} {o : Oper} {a : Act} {Q : Exit → Act → World → Prop} (hgd : o.guard = none) (s x : Operand)
    (ho : o.op = .call { callee := .builtin .append, args := #[s, x], argTypes := #[57, 57] })
    (base : Nat) (v : Value) (ks : List Ms) (hs : a.eval s = v) (hown : OwnMs w base v ks) (k : Ms) (hx : a.eval x = .slice (some ⟨w.heap.size, 0, none⟩) 1 1)
    (hlen : ks.length ≤ 4398046511 ) (hbase : base ≤ w.heap.size)
    (h : ∀ v' w', OwnMs w' base v' (ks ++ [k]) → (w.alloc (.cells #[.int .i64 k.b, .int .i64 k.e, .int .i64 k.n] 59)).grownBy w' v.ownBlock → wpList Tryd.prog ops Q rest (a.put o.dst v') w') :
    wpList Tryd.prog ops Q (o :: rest) a (w.alloc (.cells #[.int .i64 k.b, .int .i64 k.e, .int .i64 k.n] 59)) := by
  obtain ⟨i0, hi, hz0, hz1, hz2⟩ := info_parts Tryd.infoA3
  refine wpList_append_own1 (enc := msRow) (xs := ks) (base := base) (v := v) hgd s x 57 ho i0 _ 24 Tryd.underlying57 hi hz0 hz1 hz2 rfl (by decide) (fun _ => rfl) hs (OwnN.alloc hown _) k ⟨w.heap.size, 0, none⟩ hx ?_ ?_ (by unfold maxLen; omega) (by omega) (by simp; omega) ?_
  · intro j u hj
    match j, hj with
    | 0, hj => simp [msRow] at hj; subst hj; simp [Addr.add]
    | 1, hj => simp [msRow] at hj; subst hj; simp [Addr.add]
    | 2, hj => simp [msRow] at hj; subst hj; simp [Addr.add]
    | j + 3, hj => simp [msRow] at hj
  · intro u hu
    simp only [msRow, List.mem_cons, List.not_mem_nil, or_false] at hu
    rcases hu with rfl | rfl | rfl <;> rfl
  · intro v' w' h1 h2 _
    exact h v' w' h1 h2
theorem step_append_ms {w : World} {ops : Array Oper} {o : Oper} {a : Act} {K : Act → World → Prop} {Q : Exit → Act → World → Prop} {E : Prop} (hgd : o.guard = none) (s x : Operand)
    (ho : o.op = .call { callee := .builtin .append, args := #[s, x], argTypes := #[57, 57] })
    (base : Nat) (v : Value) (ks : List Ms) (hs : a.eval s = v) (hown : OwnMs w base v ks) (k : Ms) (hx : a.eval x = .slice (some ⟨w.heap.size, 0, none⟩) 1 1)
    (hlen : ks.length ≤ 1000000) (hbase : base ≤ w.heap.size)
    (h : ∀ g cap w', OwnMs w' base (.slice (some ⟨g, 0, none⟩) (ks.length + 1) cap) (ks ++ [k]) → (w.alloc (.cells #[.int .i64 k.b, .int .i64 k.e, .int .i64 k.n] 59)).grownBy w' v.ownBlock → (v.ownBlock = some g ∨ g = w.heap.size + 1) → K (a.put o.dst (.slice (some ⟨g, 0, none⟩) (ks.length + 1) cap)) w') :
    if Region.wanted o (yielded ops a.tmps) = true then Oper.wp Tryd.prog o a (w.alloc (.cells #[.int .i64 k.b, .int .i64 k.e, .int .i64 k.n] 59)) K Q else E := by
  obtain ⟨i0, hi, hz0, hz1, hz2⟩ := info_parts Tryd.infoA3
  refine step_append_lies _ hgd s x 57 ho base 59 i0 _ 3 24 Tryd.underlying57 hi hz0 hz1 hz2 rfl (by decide) v ks.length (ks.flatMap msRow) hs (World.ownsRow.alloc hown _) ⟨w.heap.size, 0, none⟩ 1 1 (msRow k) hx rfl ?_ (msR_one k) (by decide) (by unfold maxLen; omega) (by omega) (by simp; omega) (w.heap.size + 1) (by simp) ?_
  · intro j u hj
    match j, hj with
    | 0, hj => simp [msRow] at hj; subst hj; simp [Addr.add]
    | 1, hj => simp [msRow] at hj; subst hj; simp [Addr.add]
    | 2, hj => simp [msRow] at hj; subst hj; simp [Addr.add]
    | j + 3, hj => simp [msRow] at hj
  · intro g cap w' h1 h2 h3 _
    refine h g cap w' ?_ h2 h3
    unfold OwnMs OwnN
    rw [List.length_append, List.flatMap_append]
    simpa using h1
end Go.Proofs.YtfgaalhaeadhmaaDoor
