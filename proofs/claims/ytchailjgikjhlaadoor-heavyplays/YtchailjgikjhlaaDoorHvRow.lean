/- Rows of counts of the call's own: 'OwnCt'; append of one. -/
import Derived.Test.YtchailjgikjhlaaDoorHvCmp
import Derived.Test.YtchailjgikjhlaaDoorOwnN
namespace Go.Proofs.YtchailjgikjhlaaDoor
open Go.RowKit
set_option linter.unusedVariables false

def zeroCt : Ct := { key := 0, many := 0, less := 0 }
def ctRow (k : Ct) : List Value := [.int .i64 k.key, .int .i64 k.many, .int .i64 k.less]
/-- The value v is a slice of the call's own that holds the counts ks. -/
def OwnCt (w : World) (base : Nat) (v : Value) (ks : List Ct) : Prop := OwnN 37 3 ctRow w base v ks
theorem Tryd.infoCount : (Tryd.prog.info? 37).map (fun i => (i.zero, i.size, i.bytes)) = some (some (.agg #[.int .i64 0, .int .i64 0, .int .i64 0]), 3, 24) := by kernel_rfl
theorem wpList_append_ct {w : World} {ops : Array Oper} {rest : List Oper} {o : Oper} {a : Act} {Q : Exit → Act → World → Prop} (hgd : o.guard = none) (s x : Operand)
    (ho : o.op = .call { callee := .builtin .append, args := #[s, x], argTypes := #[30, 30] })
    (base : Nat) (v : Value) (ks : List Ct) (hs : a.eval s = v) (hown : OwnCt w base v ks) (k : Ct) (hx : a.eval x = .slice (some ⟨w.heap.size, 0, none⟩) 1 1)
    (hlen : ks.length ≤ 4398046511 ) (hbase : base ≤ w.heap.size)
    (h : ∀ v' w', OwnCt w' base v' (ks ++ [k]) → (w.alloc (.cells #[.int .i64 k.key, .int .i64 k.many, .int .i64 k.less] 37)).grownBy w' v.ownBlock → wpList Tryd.prog ops Q rest (a.put o.dst v') w') :
    wpList Tryd.prog ops Q (o :: rest) a (w.alloc (.cells #[.int .i64 k.key, .int .i64 k.many, .int .i64 k.less] 37)) := by
  obtain ⟨i0, hi, hz0, hz1, hz2⟩ := info_parts Tryd.infoCount
  refine wpList_append_own1 (enc := ctRow) (xs := ks) (base := base) (v := v) hgd s x 30 ho i0 _ 24 Tryd.underlying30 hi hz0 hz1 hz2 rfl (by decide) (fun _ => rfl) hs (OwnN.alloc hown _) k ⟨w.heap.size, 0, none⟩ hx ?_ ?_ (by unfold maxLen; omega) (by omega) (by simp; omega) ?_
  · intro j u hj
    match j, hj with
    | 0, hj => simp [ctRow] at hj; subst hj; simp [Addr.add]
    | 1, hj => simp [ctRow] at hj; subst hj; simp [Addr.add]
    | 2, hj => simp [ctRow] at hj; subst hj; simp [Addr.add]
    | j + 3, hj => simp [ctRow] at hj
  · intro u hu
    simp only [ctRow, List.mem_cons, List.not_mem_nil, or_false] at hu
    rcases hu with rfl | rfl | rfl <;> rfl
  · intro v' w' h1 h2 _
    exact h v' w' h1 h2
end Go.Proofs.YtchailjgikjhlaaDoor
