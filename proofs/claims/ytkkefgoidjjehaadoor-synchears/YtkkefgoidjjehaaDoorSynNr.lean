/- Rows of the call's own of notes ('OwnNt'): what append leaves of them. -/
import Derived.Test.YtkkefgoidjjehaaDoorSynAt
import Derived.Test.YtkkefgoidjjehaaDoorOwnN
namespace Go.Proofs.YtkkefgoidjjehaaDoor
open Go.RowKit
set_option linter.unusedVariables false

def ntRow (f : Nt) : List Value := [.int .i64 f.what, .int .i64 f.seq, .int .i64 f.fl.key.kind, .int .i64 f.fl.key.src, .int .i64 f.fl.key.frm, .int .i64 f.fl.key.dst, .int .i64 f.fl.key.too, .int .i64 f.fl.st, .int .i64 f.fl.unt, .int .i64 f.fl.stp, .int .i64 f.fl.h0, .int .i64 f.fl.h1, .int .i64 f.fl.w0, .int .i64 f.fl.w1, .bool f.fl.d0, .bool f.fl.d1, .int .i64 f.fl.num]
/-- The value v is a slice of the call's own, from block 'base' on, that holds the notes ns. -/
def OwnNt (w : World) (base : Nat) (v : Value) (ns : List Nt) : Prop := OwnN 29 17 ntRow w base v ns
theorem Tryd.infoNt : (Tryd.prog.info? 29).map (fun i => (i.zero, i.size, i.bytes)) = some (some (.agg #[.int .i64 0, .int .i64 0, .int .i64 0, .int .i64 0, .int .i64 0, .int .i64 0, .int .i64 0, .int .i64 0, .int .i64 0, .int .i64 0, .int .i64 0, .int .i64 0, .int .i64 0, .int .i64 0, .bool false, .bool false, .int .i64 0]), 17, 128) := by kernel_rfl
theorem ntRow_at {f : Nt} {W : World} {b o : Nat} (h : W.cell? ⟨b, o, none⟩ = some (.int .i64 f.what) ∧ W.cell? ⟨b, o + 1, none⟩ = some (.int .i64 f.seq) ∧ W.cell? ⟨b, o + 2, none⟩ = some (.int .i64 f.fl.key.kind) ∧ W.cell? ⟨b, o + 3, none⟩ = some (.int .i64 f.fl.key.src) ∧ W.cell? ⟨b, o + 4, none⟩ = some (.int .i64 f.fl.key.frm) ∧ W.cell? ⟨b, o + 5, none⟩ = some (.int .i64 f.fl.key.dst) ∧ W.cell? ⟨b, o + 6, none⟩ = some (.int .i64 f.fl.key.too) ∧ W.cell? ⟨b, o + 7, none⟩ = some (.int .i64 f.fl.st) ∧ W.cell? ⟨b, o + 8, none⟩ = some (.int .i64 f.fl.unt) ∧ W.cell? ⟨b, o + 9, none⟩ = some (.int .i64 f.fl.stp) ∧ W.cell? ⟨b, o + 10, none⟩ = some (.int .i64 f.fl.h0) ∧ W.cell? ⟨b, o + 11, none⟩ = some (.int .i64 f.fl.h1) ∧ W.cell? ⟨b, o + 12, none⟩ = some (.int .i64 f.fl.w0) ∧ W.cell? ⟨b, o + 13, none⟩ = some (.int .i64 f.fl.w1) ∧ W.cell? ⟨b, o + 14, none⟩ = some (.bool f.fl.d0) ∧ W.cell? ⟨b, o + 15, none⟩ = some (.bool f.fl.d1) ∧ W.cell? ⟨b, o + 16, none⟩ = some (.int .i64 f.fl.num)) : ∀ j u, (ntRow f)[j]? = some u → W.cell? ⟨b, o + j, none⟩ = some u := by
  intro j u hj
  match j, hj with
  | 0, hj => simp [ntRow] at hj; subst hj; exact h.1
  | 1, hj => simp [ntRow] at hj; subst hj; exact h.2.1
  | 2, hj => simp [ntRow] at hj; subst hj; exact h.2.2.1
  | 3, hj => simp [ntRow] at hj; subst hj; exact h.2.2.2.1
  | 4, hj => simp [ntRow] at hj; subst hj; exact h.2.2.2.2.1
  | 5, hj => simp [ntRow] at hj; subst hj; exact h.2.2.2.2.2.1
  | 6, hj => simp [ntRow] at hj; subst hj; exact h.2.2.2.2.2.2.1
  | 7, hj => simp [ntRow] at hj; subst hj; exact h.2.2.2.2.2.2.2.1
  | 8, hj => simp [ntRow] at hj; subst hj; exact h.2.2.2.2.2.2.2.2.1
  | 9, hj => simp [ntRow] at hj; subst hj; exact h.2.2.2.2.2.2.2.2.2.1
  | 10, hj => simp [ntRow] at hj; subst hj; exact h.2.2.2.2.2.2.2.2.2.2.1
  | 11, hj => simp [ntRow] at hj; subst hj; exact h.2.2.2.2.2.2.2.2.2.2.2.1
  | 12, hj => simp [ntRow] at hj; subst hj; exact h.2.2.2.2.2.2.2.2.2.2.2.2.1
  | 13, hj => simp [ntRow] at hj; subst hj; exact h.2.2.2.2.2.2.2.2.2.2.2.2.2.1
  | 14, hj => simp [ntRow] at hj; subst hj; exact h.2.2.2.2.2.2.2.2.2.2.2.2.2.2.1
  | 15, hj => simp [ntRow] at hj; subst hj; exact h.2.2.2.2.2.2.2.2.2.2.2.2.2.2.2.1
  | 16, hj => simp [ntRow] at hj; subst hj; exact h.2.2.2.2.2.2.2.2.2.2.2.2.2.2.2.2
  | j + 17, hj => simp [ntRow] at hj
/-- 'append' of one note. -/
theorem wpList_append_nt {w : World} {ops : Array Oper} {rest : List Oper} {o : Oper} {a : Act} {Q : Exit → Act → World → Prop} (hgd : o.guard = none) (s x : Operand)
    (ho : o.op = .call { callee := .builtin .append, args := #[s, x], argTypes := #[42, 42] })
    (base : Nat) (v : Value) (fs : List Nt) (hs : a.eval s = v) (hown : OwnNt w base v fs) (f : Nt) (hx : a.eval x = .slice (some ⟨w.heap.size, 0, none⟩) 1 1)
    (hlen : fs.length ≤ 1000000000) (hbase : base ≤ w.heap.size)
    (h : ∀ v' w', OwnNt w' base v' (fs ++ [f]) → (w.alloc (.cells #[.int .i64 f.what, .int .i64 f.seq, .int .i64 f.fl.key.kind, .int .i64 f.fl.key.src, .int .i64 f.fl.key.frm, .int .i64 f.fl.key.dst, .int .i64 f.fl.key.too, .int .i64 f.fl.st, .int .i64 f.fl.unt, .int .i64 f.fl.stp, .int .i64 f.fl.h0, .int .i64 f.fl.h1, .int .i64 f.fl.w0, .int .i64 f.fl.w1, .bool f.fl.d0, .bool f.fl.d1, .int .i64 f.fl.num] 29)).grownBy w' v.ownBlock → wpList Tryd.prog ops Q rest (a.put o.dst v') w') :
    wpList Tryd.prog ops Q (o :: rest) a (w.alloc (.cells #[.int .i64 f.what, .int .i64 f.seq, .int .i64 f.fl.key.kind, .int .i64 f.fl.key.src, .int .i64 f.fl.key.frm, .int .i64 f.fl.key.dst, .int .i64 f.fl.key.too, .int .i64 f.fl.st, .int .i64 f.fl.unt, .int .i64 f.fl.stp, .int .i64 f.fl.h0, .int .i64 f.fl.h1, .int .i64 f.fl.w0, .int .i64 f.fl.w1, .bool f.fl.d0, .bool f.fl.d1, .int .i64 f.fl.num] 29)) := by
  obtain ⟨i0, hi, hz0, hz1, hz2⟩ := info_parts Tryd.infoNt
  have hp := NtAt.new w f
  refine wpList_append_own1 (enc := ntRow) (xs := fs) (base := base) (v := v) hgd s x 42 ho i0 _ 128 Tryd.underlying42 hi hz0 hz1 hz2 rfl (by decide) (fun _ => rfl) hs (OwnN.alloc hown _) f ⟨w.heap.size, 0, none⟩ hx ?_ ?_ (by unfold maxLen; omega) (by omega) (by simp; omega) ?_
  · intro j u hj
    have := ntRow_at (W := w.alloc (.cells #[.int .i64 f.what, .int .i64 f.seq, .int .i64 f.fl.key.kind, .int .i64 f.fl.key.src, .int .i64 f.fl.key.frm, .int .i64 f.fl.key.dst, .int .i64 f.fl.key.too, .int .i64 f.fl.st, .int .i64 f.fl.unt, .int .i64 f.fl.stp, .int .i64 f.fl.h0, .int .i64 f.fl.h1, .int .i64 f.fl.w0, .int .i64 f.fl.w1, .bool f.fl.d0, .bool f.fl.d1, .int .i64 f.fl.num] 29)) (b := w.heap.size) (o := 0) (f := f) hp.cells j u hj
    by_cases hj0 : j = 0 <;> simpa [Addr.add, hj0] using this
  · intro u hu
    simp only [ntRow, List.mem_cons, List.not_mem_nil, or_false] at hu
    rcases hu with rfl | rfl | rfl | rfl | rfl | rfl | rfl | rfl | rfl | rfl | rfl | rfl | rfl | rfl | rfl | rfl | rfl <;> rfl
  · intro v' w' h1 h2 _
    exact h v' w' h1 h2
end Go.Proofs.YtkkefgoidjjehaaDoor
