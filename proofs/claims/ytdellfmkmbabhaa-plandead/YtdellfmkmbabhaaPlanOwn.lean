/- Rows of the call's own of stretches (package plan): 'OwnSt'; what append and a store leave of them. -/
import Derived.Test.YtdellfmkmbabhaaPlanMath
import Derived.Test.YtdellfmkmbabhaaOwnN
import Derived.Test.YtdellfmkmbabhaaOwnI
namespace Go.Proofs.Ytdellfmkmbabhaa
open Go.RowKit
set_option linter.unusedVariables false

/-- 'append' of one, out of a block of its own: the operation by itself. -/
theorem step_append_own1 {α : Type} {e : TypeId} {n : Nat} {enc : α → List Value} {w : World} {base : Nat} {v : Value} {xs : List α} {P : Program} {o : Oper} {a : Act} {K : Act → World → Prop} {Q : Exit → Act → World → Prop} (s x : Operand) (t : TypeId)
    (ho : o.op = .call { callee := .builtin .append, args := #[s, x], argTypes := #[t, t] })
    (i : TypeInfo) (z : Value) (bytes : Nat) (ht : P.underlying t = some (.slice e)) (hi : P.info? e = some i) (hz : i.zero = some z)
    (hsize : i.size = n) (hby : i.bytes = bytes) (hzs : z.cells.size = n) (hsz : 0 < n) (hn : ∀ x, (enc x).length = n)
    (hs : a.eval s = v) (hown : OwnN e n enc w base v xs) (y : α) (ad : Addr) (hx : a.eval x = .slice (some ad) 1 1) (hnews : ∀ j u, (enc y)[j]? = some u → w.cell? (ad.add j) = some u) (h1 : ∀ u ∈ enc y, u.oneCell' = true)
    (h63 : xs.length + 1 ≤ maxLen) (hbytes : (xs.length + 1) * bytes ≤ 140737488355328) (hbase : base ≤ w.heap.size)
    (h : ∀ v' w', OwnN e n enc w' base v' (xs ++ [y]) → w.grownBy w' v.ownBlock → (v'.ownBlock = v.ownBlock ∨ v'.ownBlock = some w.heap.size) → K (a.put o.dst v') w') : o.wp P a w K Q := by
  obtain ⟨v', w', hr, h2, h3, _⟩ := run_append_own (P := P) w base t o.type e i z n bytes ht hi hz hsize hby hzs hsz v xs.length (xs.flatMap enc) hown ad 1 1 (enc y) (by rw [hn]; omega) hnews h1 h63 hbytes hbase
  have h4 := run_append_where w base t o.type e i z ht hi hz v xs.length (xs.flatMap enc) (by rw [hsize]; exact hown) ad 1 1 (enc y) (by rw [hsize, hn]; omega) hnews h1 h63 (by rw [hby]; exact hbytes) hr
  have h2' : OwnN e n enc w' base v' (xs ++ [y]) := by
    unfold OwnN
    rw [List.length_append, List.flatMap_append]
    simpa using h2
  unfold Oper.wp execOp
  simp only [ho, resolve, invoke, builtin, Sem.run_bind, Sem.run_pure, Result.andThen_ok, List.map_toArray, List.map_cons, List.map_nil, hs, hx, hr]
  exact h v' w' h2' h3 h4
def encSt (s : St) : List Value := [.int .i64 s.1.1, .int .i64 s.1.2, .int .u64 (s.2 : Int)]
theorem encSt_len (s : St) : (encSt s).length = 3 := rfl
theorem encSt_one (s : St) : ∀ u ∈ encSt s, u.oneCell' = true := by
  intro u hu
  simp only [encSt, List.mem_cons, List.not_mem_nil, or_false] at hu
  rcases hu with rfl | rfl | rfl <;> rfl
/-- Stretches in a row of the call's own. -/
def OwnSt (w : World) (base : Nat) (v : Value) (xs : List St) : Prop := OwnN 54 3 encSt w base v xs
theorem Try.infoSt : (Try.prog.info? 54).map (fun i => (i.zero, i.size, i.bytes)) = some (some (.agg #[.int .i64 0, .int .i64 0, .int .u64 0]), 3, 24) := by kernel_rfl
theorem step_append_st {w : World} {base : Nat} {v : Value} {xs : List St} {o : Oper} {a : Act} {K : Act → World → Prop} {Q : Exit → Act → World → Prop} (s x : Operand)
    (ho : o.op = .call { callee := .builtin .append, args := #[s, x], argTypes := #[57, 57] })
    (hs : a.eval s = v) (hown : OwnSt w base v xs) (p q : Int) (f : Nat) (hx : a.eval x = .slice (some ⟨w.heap.size, 0, none⟩) 1 1)
    (hlen : xs.length ≤ 1000000) (hbase : base ≤ w.heap.size)
    (h : ∀ v' w', OwnSt w' base v' (xs ++ [((p, q), f)]) → (w.alloc (.cells #[.int .i64 p, .int .i64 q, .int .u64 (f : Int)] 54)).grownBy w' v.ownBlock → (v'.ownBlock = v.ownBlock ∨ v'.ownBlock = some (w.heap.size + 1)) → K (a.put o.dst v') w') :
    o.wp Try.prog a (w.alloc (.cells #[.int .i64 p, .int .i64 q, .int .u64 (f : Int)] 54)) K Q := by
  obtain ⟨i0, hi, hz0, hz1, hz2⟩ := info_parts Try.infoSt
  refine step_append_own1 s x 57 ho i0 _ 24 Try.underlying57 hi hz0 hz1 hz2 rfl (by decide) encSt_len hs (OwnN.alloc hown _) ((p, q), f) ⟨w.heap.size, 0, none⟩ hx ?_ (encSt_one _) (by unfold maxLen; omega) (by omega) (by simp; omega) ?_
  · intro j u hj
    match j, hj with
    | 0, hj => simp [encSt] at hj; subst hj; simp [Addr.add]
    | 1, hj => simp [encSt] at hj; subst hj; simp [Addr.add]
    | 2, hj => simp [encSt] at hj; subst hj; simp [Addr.add]
  · intro v' w' h1 h2 h3
    exact h v' w' h1 h2 (by simpa using h3)
end Go.Proofs.Ytdellfmkmbabhaa
