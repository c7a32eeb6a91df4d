/- Plans in memory (package plan): deeds ('OwnD'), where 'lay' stands ('LaySt'); what 'whole' and 'asked' return. -/
import Derived.Test.YtdellfmkmbabhaaPlanCut2
import Derived.Laws.EntriesVeiled
namespace Go.Proofs.Ytdellfmkmbabhaa
open Go.RowKit
set_option linter.unusedVariables false
set_option maxRecDepth 10000

def encD (r : Rl) : List Value := [.bool r.pass, .bool r.quick, .bool r.keep]
theorem encD_len (r : Rl) : (encD r).length = 3 := rfl
theorem encD_one (r : Rl) : ∀ u ∈ encD r, u.oneCell' = true := by
  intro u hu
  simp only [encD, List.mem_cons, List.not_mem_nil, or_false] at hu
  rcases hu with rfl | rfl | rfl <;> rfl
/-- The deeds of rules in a row of the call's own. -/
def OwnD (w : World) (base : Nat) (v : Value) (xs : List Rl) : Prop := OwnN 64 3 encD w base v xs
theorem Try.infoD : (Try.prog.info? 64).map (fun i => (i.zero, i.size, i.bytes)) = some (some (.agg #[.bool false, .bool false, .bool false]), 3, 3) := by kernel_rfl
theorem step_append_d {w : World} {base : Nat} {v : Value} {xs : List Rl} {o : Oper} {a : Act} {K : Act → World → Prop} {Q : Exit → Act → World → Prop} (s x : Operand)
    (ho : o.op = .call { callee := .builtin .append, args := #[s, x], argTypes := #[58, 58] })
    (hs : a.eval s = v) (hown : OwnD w base v xs) (r : Rl) (hx : a.eval x = .slice (some ⟨w.heap.size, 0, none⟩) 1 1)
    (hlen : xs.length ≤ 1000000) (hbase : base ≤ w.heap.size)
    (h : ∀ v' w', OwnD w' base v' (xs ++ [r]) → (w.alloc (.cells #[.bool r.pass, .bool r.quick, .bool r.keep] 64)).grownBy w' v.ownBlock → (v'.ownBlock = v.ownBlock ∨ v'.ownBlock = some (w.heap.size + 1)) → K (a.put o.dst v') w') :
    o.wp Try.prog a (w.alloc (.cells #[.bool r.pass, .bool r.quick, .bool r.keep] 64)) K Q := by
  obtain ⟨i0, hi, hz0, hz1, hz2⟩ := info_parts Try.infoD
  refine step_append_own1 s x 58 ho i0 _ 3 Try.underlying58 hi hz0 hz1 hz2 rfl (by decide) encD_len hs (OwnN.alloc hown _) r ⟨w.heap.size, 0, none⟩ hx ?_ (encD_one _) (by unfold maxLen; omega) (by omega) (by simp; omega) ?_
  · intro j u hj
    match j, hj with
    | 0, hj => simp [encD] at hj; subst hj; simp [Addr.add]
    | 1, hj => simp [encD] at hj; subst hj; simp [Addr.add]
    | 2, hj => simp [encD] at hj; subst hj; simp [Addr.add]
  · intro v' w' h1 h2 h3
    exact h v' w' h1 h2 (by simpa using h3)
/-- The closures of 'asked'. -/
def askF : Nat → Nat
  | 0 => 43
  | 1 => 45
  | 2 => 46
  | 3 => 48
  | 4 => 49
  | _ => 50
theorem askF_asks {k : Nat} (h : k < 6) : Asks (askF k) k := by
  match k, h with
  | 0, _ => exact ask_0
  | 1, _ => exact ask_1
  | 2, _ => exact ask_2
  | 3, _ => exact ask_3
  | 4, _ => exact ask_4
  | 5, _ => exact ask_5
theorem askF_enters {k : Nat} (h : k < 6) : ∀ args w, (callFunc (askF k) args).run Try.prog w = .ok (.enter (askF k) args) w := by
  match k, h with
  | 0, _ => exact enters_of Try.func43 (by kernel_rfl) rfl
  | 1, _ => exact enters_of Try.func45 (by kernel_rfl) rfl
  | 2, _ => exact enters_of Try.func46 (by kernel_rfl) rfl
  | 3, _ => exact enters_of Try.func48 (by kernel_rfl) rfl
  | 4, _ => exact enters_of Try.func49 (by kernel_rfl) rfl
  | 5, _ => exact enters_of Try.func50 (by kernel_rfl) rfl
def wholeA : Array Value := #[.int .i64 1, .int .i64 2, .int .i64 0, .int .i64 15, .int .i64 0, .int .i64 4294967295, .int .i64 0, .int .i64 65535, .int .i64 0, .int .i64 4294967295, .int .i64 0, .int .i64 65535]
def askedA : Array Value := #[.func (.func (askF 0)) #[] #[], .func (.func (askF 1)) #[] #[], .func (.func (askF 2)) #[] #[], .func (.func (askF 3)) #[] #[], .func (.func (askF 4)) #[] #[], .func (.func (askF 5)) #[] #[]]
theorem whole_plan (w : World) : Calls Try.prog 24 #[] w fun e w' => e = .returned (.agg wholeA) ∧ Below w.heap.size w w' := by
  have hb : Below w.heap.size w (w.alloc (.cells wholeA 74)) := (Below.refl _ _).alloc (Nat.le_refl _) _
  have hn := heap_alloc_new w (.cells wholeA 74)
  go_enter Try.func24, Try.ntmps24
  go_wp2
  exact bodyPost_ret (v := .agg wholeA) (by simp [results, Try.results24, go_sem, wholeA]) rfl ⟨rfl, hb⟩
theorem asked_plan (w : World) : Calls Try.prog 25 #[] w fun e w' => e = .returned (.agg askedA) ∧ Below w.heap.size w w' := by
  have hb : Below w.heap.size w (w.alloc (.cells askedA 84)) := (Below.refl _ _).alloc (Nat.le_refl _) _
  go_enter Try.func25, Try.ntmps25
  go_wp2
  exact bodyPost_ret (v := .agg askedA) (by simp [results, Try.results25, go_sem, askedA, askF]) rfl ⟨rfl, hb⟩
end Go.Proofs.Ytdellfmkmbabhaa
