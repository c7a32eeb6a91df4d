/- A region that draws its order and holds no call of a function of Go's, inside a fence: what holds of it outside holds there. -/
import Derived.Test.YtjhofmmmlemfcaaDoorOrdE
import Derived.OrdersIn
import Derived.CallsIn
namespace Go.Proofs.YtjhofmmmlemfcaaDoor
open Go
set_option linter.unusedVariables false

/-- An operation that calls no function of Go's. -/
def calmB (o : Oper) : Bool := match o.op with
  | .move _ => true
  | .assign _ => true
  | .load _ _ => true
  | .store _ _ _ => true
  | .buildSlice _ _ _ => true
  | .makeInterface _ _ => true
  | .call c => match c.callee with
    | .builtin .append => true
    | _ => false
  | _ => false
section
variable {F : Fence} {n : Nat} {P : Program} {ops : Array Oper} {Q : Exit → Act → World → Prop} {md : Region.Mode} {S : World → Prop} {e : Nat}
theorem calm_upon {o : Oper} {a : Act} {K : Act → World → Prop} {r : Result Next} (hr : ∀ x w', r = .ok x w' → (∃ v, x = .value v) ∨ x = .skip) (h : o.upon P a K Q r) : o.uponIn F n P a K Q r := by
  cases r with
  | ok x w' =>
    rcases hr x w' rfl with ⟨v, rfl⟩ | rfl
    · exact h
    · exact h
  | halt x w' => cases x <;> exact h
theorem value_of {s : Sem Value} {w w' : World} {x : Next} (h : (do pure (.value (← s)) : Sem Next).run P w = .ok x w') : ∃ v, x = .value v := by
  simp only [Sem.run_bind, Sem.run_pure] at h
  generalize s.run P w = r at h
  cases r with
  | ok v w2 =>
    simp only [Result.andThen_ok] at h
    injection h with h1 _
    exact ⟨v, h1.symm⟩
  | halt y w2 => simp [Result.andThen] at h
theorem skip_of {s : Sem Unit} {w w' : World} {x : Next} (h : (do s; pure .skip : Sem Next).run P w = .ok x w') : x = .skip := by
  simp only [Sem.run_bind, Sem.run_pure] at h
  generalize s.run P w = r at h
  cases r with
  | ok v w2 =>
    simp only [Result.andThen_ok] at h
    injection h with h1 _
    exact h1.symm
  | halt y w2 => simp [Result.andThen] at h
theorem calm_run {o : Oper} (hc : calmB o = true) {ρ : Operand → Value} {w w' : World} {x : Next} (h : (execOp ρ o).run P w = .ok x w') : (∃ v, x = .value v) ∨ x = .skip := by
  unfold calmB at hc
  unfold execOp at h
  cases ho : o.op with
  | call c =>
    rw [ho] at hc h
    simp only at hc h
    cases hb : c.callee with
    | builtin b =>
      rw [hb] at hc
      cases b <;> first | (simp at hc; done) | skip
      simp only [resolve, hb, Sem.run_bind, Sem.run_pure, Result.andThen_ok, invoke, builtin] at h
      exact .inl (value_of (s := _) (by simpa only [Sem.run_bind, Sem.run_pure] using h))
    | invoke r nm => rw [hb] at hc; cases hc
    | value f => rw [hb] at hc; cases hc
  | move y => rw [ho] at h; simp only [Sem.run_pure] at h; injection h with h1 _; exact .inl ⟨_, h1.symm⟩
  | assign y => rw [ho] at h; simp only [Sem.run_pure] at h; injection h with h1 _; exact .inl ⟨_, h1.symm⟩
  | load t y => rw [ho] at h; exact .inl (value_of h)
  | store t y z => rw [ho] at h; exact .inr (skip_of h)
  | buildSlice t l p => rw [ho] at h; exact .inl (value_of h)
  | makeInterface t y => rw [ho] at h; exact .inl (value_of h)
  | _ => rw [ho] at hc; cases hc
theorem calm_about {o : Oper} (hc : calmB o = true) {ρ : Operand → Value} {w : World} : o.about P w ρ = none := by
  unfold calmB at hc
  unfold Oper.about
  cases ho : o.op with
  | call c =>
    rw [ho] at hc
    simp only at hc ⊢
    cases hb : c.callee with
    | builtin b => simp [resolve, hb, Sem.run_pure, Target.leads]
    | invoke r nm => rw [hb] at hc; cases hc
    | value f => rw [hb] at hc; cases hc
  | _ => rfl
theorem calm_wp {o : Oper} (hc : calmB o = true) {a : Act} {w : World} {K : Act → World → Prop} (h : o.wp P a w K Q) : o.wpIn F n P a w K Q := by
  unfold Oper.wpIn
  refine ⟨(fun f hf => by rw [calm_about hc] at hf; cases hf), ?_⟩
  rw [Oper.semAt_eq _ _ _ (fun c e => (by unfold calmB at hc; rw [e] at hc; cases hc))]
  exact calm_upon (fun x w' e => calm_run hc e) h
theorem calm_any (hc : ops.all calmB = true) (hnl : ¬ LetsOut Q) : ∀ (k : Nat) (ls : Array Bool) (a : Act) (w : World), wpAny P md ops Q k ls a w → wpAnyIn F n P md ops Q k ls a w
  | 0, _, _, _, h => h
  | k + 1, ls, a, w, h => by
      refine ⟨h.1, fun i hi => ?_⟩
      have h2 := h.2 i hi
      unfold wpOp at h2
      unfold wpOpIn
      cases ho : ops[i]? with
      | none => rw [ho] at h2; exact calm_any hc hnl k _ _ _ h2
      | some o =>
        have hco : calmB o = true := by
          rw [Array.all_eq_true] at hc
          obtain ⟨hlt, rfl⟩ := Array.getElem?_eq_some_iff.1 ho
          exact hc i hlt
        rw [ho] at h2
        simp only at h2 ⊢
        split
        · rename_i hw
          rw [if_pos hw] at h2
          rcases h2 with h2 | ⟨_, h2⟩
          · exact Oper.wpIn_mono (fun a w h => calm_any hc hnl k _ a w h) (calm_wp hco h2)
          · exact absurd h2 hnl
        · rename_i hw
          rw [if_neg hw] at h2
          exact ⟨(fun f hf => by rw [calm_about hco] at hf; cases hf), calm_any hc hnl k _ _ _ h2⟩
theorem wpIn_region_calm {id : Nat} {a : Act} {w : World} (S : World → Prop) (e k : Nat) (ls : Array Bool) (hm : P.follows .mixedOrders = true) (hc : ops.all calmB = true) (hnl : ¬ LetsOut Q) (hn : ops.size = k) (hls : Array.replicate k false = ls)
    (h : AnyE P .any ops Q S e k ls a w.drew) : (Code.region id ops true).wpIn F n P Q a w := by
  subst hls
  subst hn
  exact wpIn_region_any hm (calm_any hc hnl _ _ _ _ (any_of_E _ _ _ _ h))
/-- Two may come up. -/
theorem E_twoG (i j : Nat) {oi oj : Oper} {k : Nat} {ls : Array Bool} (li lj : Array Bool) {a : Act} {w : World} (hi : ops[i]? = some oi) (hj : ops[j]? = some oj) (gi : oi.guard = none) (gj : oj.guard = none) (hr : Region.ready md ops ls = [i, j]) (hli : ls.setIfInBounds i true = li) (hlj : ls.setIfInBounds j true = lj)
    (h1 : ∀ K' : Act → World → Prop, Shut (∀ a' w', (comeB li e = true ∨ S w') → AnyE P md ops Q S e k li a' w' → K' a' w') → Oper.wp P oi a w K' Q)
    (h2 : ∀ K' : Act → World → Prop, Shut (∀ a' w', (comeB lj e = true ∨ S w') → AnyE P md ops Q S e k lj a' w' → K' a' w') → Oper.wp P oj a w K' Q) : AnyE P md ops Q S e (k + 1) ls a w := by
  subst hli hlj
  refine ⟨(fun h0 => by rw [hr] at h0; cases h0), fun m hm => ?_⟩
  rw [hr] at hm
  have one : ∀ {o : Oper} {m : Nat}, ops[m]? = some o → o.guard = none → (∀ K' : Act → World → Prop, Shut (∀ a' w', (comeB (ls.setIfInBounds m true) e = true ∨ S w') → AnyE P md ops Q S e k (ls.setIfInBounds m true) a' w' → K' a' w') → Oper.wp P o a w K' Q) → wpOp P ops Q m (fun a' w' => (comeB (ls.setIfInBounds m true) e = true ∨ S w') ∧ AnyE P md ops Q S e k (ls.setIfInBounds m true) a' w') a w := by
    intro o m ho hg h
    refine wpOp_step ho (fun K' hK => ?_)
    rw [if_pos (by simp [Region.wanted, hg])]
    exact h K' (fun a w hS hW => hK a w ⟨hS, hW⟩)
  rcases List.mem_cons.1 hm with rfl | hm
  · exact one hi gi h1
  · obtain rfl : m = j := by simpa using hm
    exact one hj gj h2
/-- What is listed has all listed that it waits for. -/
def ClosedL (md : Region.Mode) (ops : Array Oper) (ls : Array Bool) : Prop := ∀ j oj, ops[j]? = some oj → ls.getD j false = true → ∀ x ∈ oj.after, Region.binds md x = true → ls.getD x.on false = true
def closedB (md : Region.Mode) (ops : Array Oper) (ls : Array Bool) : Bool := (List.range ops.size).all fun j => match ops[j]? with
  | some oj => !(ls.getD j false) || oj.after.all fun x => !(Region.binds md x) || ls.getD x.on false
  | none => true
theorem closed_of {ls : Array Bool} (h : closedB md ops ls = true) : ClosedL md ops ls := by
  intro j oj hj hl x hx hb
  have hlt := (Array.getElem?_eq_some_iff.1 hj).1
  have := List.all_eq_true.1 h j (List.mem_range.2 hlt)
  rw [hj] at this
  simp only [hl, Bool.not_true, Bool.false_or, Array.all_eq_true] at this
  obtain ⟨k, hk, rfl⟩ := Array.mem_iff_getElem.1 hx
  have := this k hk
  rw [hb] at this
  simpa using this
theorem closed_step {ls : Array Bool} {j : Nat} (h : ClosedL md ops ls) (hj : j ∈ Region.ready md ops ls) : ClosedL md ops (ls.setIfInBounds j true) := by
  intro k ok hk hl x hx hb
  have up : ∀ m, ls.getD m false = true → (ls.setIfInBounds j true).getD m false = true := fun m hm => getD_set_true hm
  by_cases hkj : j = k
  · subst hkj
    obtain ⟨_, oj, hoj, hall⟩ := mem_ready.1 hj
    rw [hk] at hoj
    cases hoj
    exact up _ (hall x hx hb)
  · rw [_root_.Go.getD_set_ne false hkj] at hl
    exact up _ (h k ok hk hl x hx hb)
/-- Does number e wait for one that waits for number i? -/
def waits2B (md : Region.Mode) (ops : Array Oper) (e i : Nat) : Bool := match ops[e]? with
  | some oe => oe.after.any fun x => Region.binds md x && waitsB md ops x.on i
  | none => false
theorem waits2_not {ls : Array Bool} {e i : Nat} (hw : waits2B md ops e i = true) (hc : ClosedL md ops ls) (hr : i ∈ Region.ready md ops ls) : e ∉ Region.ready md ops ls := by
  intro he
  obtain ⟨_, oe, hoe, hall⟩ := mem_ready.1 he
  unfold waits2B at hw
  rw [hoe] at hw
  simp only [Array.any_eq_true] at hw
  obtain ⟨j, hj, hx⟩ := hw
  simp only [Bool.and_eq_true] at hx
  have h1 := hall oe.after[j] (Array.getElem_mem hj) hx.1
  have h2 := hx.2
  unfold waitsB at h2
  cases hm : ops[oe.after[j].on]? with
  | none => rw [hm] at h2; cases h2
  | some om =>
    rw [hm] at h2
    simp only [Array.any_eq_true, Bool.and_eq_true, beq_iff_eq] at h2
    obtain ⟨k, hk, hy⟩ := h2
    have h3 := hc _ om hm h1 om.after[k] (Array.getElem_mem hk) hy.1
    rw [hy.2] at h3
    exact not_up hr h3
theorem E_first2 {i : Nat} {oi : Oper} {v : Value} (hi : ops[i]? = some oi) (hie : i ≠ e) (hsel : ∀ (j : Nat) (o : Oper) cs b, ops[j]? = some o → o.op ≠ .select cs b)
    (hQ : ∀ c a w, Q (.panic c) (a.put oi.dst v) w → Q (.panic c) a w) (hw2 : waits2B md ops e i = true) (n : Nat) :
    ∀ (ls : Array Bool) (a : Act) (w : World), ClosedL md ops ls → (∀ j oj, ops[j]? = some oj → j ≠ i → ls.getD j true = false → (∀ x ∈ oj.after, Region.binds md x = true → x.on ≠ i) → oi.apart ops oj = true) →
      i ∈ Region.ready md ops ls → YieldsIf P ops S oi v a → S w → comeB ls e = false → AnyE P md ops Q S e n (ls.setIfInBounds i true) (a.put oi.dst v) w → AnyE P md ops Q S e (n + 1) ls a w := by
  induction n with
  | zero =>
    intro ls a w hcl _ hr hy hTw hU H
    refine ⟨fun h => (by rw [h] at hr; cases hr), fun j hj => ?_⟩
    by_cases hji : j = i
    · subst hji; exact hy.wpOp hi hTw ⟨.inr hTw, H⟩
    · have := ready_mono hj hji
      rw [H.1] at this
      cases this
  | succ n ih =>
    intro ls a w hcl hfree hr hy hTw hU H
    refine ⟨fun h => (by rw [h] at hr; cases hr), fun j hj => ?_⟩
    by_cases hji : j = i
    · subst hji; exact hy.wpOp hi hTw ⟨.inr hTw, H⟩
    · have h1 := H.2 j (ready_mono hj hji)
      obtain ⟨hjun, oj, hoj, hall⟩ := mem_ready.1 hj
      have hnot : ∀ x ∈ oj.after, Region.binds md x = true → x.on ≠ i := fun x hx hb heq => not_up hr (heq ▸ hall x hx hb)
      have h2 := wpOp_putIf hoj (hfree j oj hoj hji hjun hnot) (fun cs b => hsel i oi cs b hi) (fun cs b => hsel j oj cs b hoj) hQ hy h1
      refine wpOp_mono (fun a' w' h3 => ?_) h2
      have hc : comeB (ls.setIfInBounds j true) e = true ∨ S w' := h3.2.1.imp_left (fun h => by rw [Array.setIfInBounds_comm _ _ (Ne.symm hji)] at h; rw [up_ne hie] at h; exact h)
      have hje : j ≠ e := fun h => waits2_not hw2 hcl hr (h ▸ hj)
      have hn : comeB (ls.setIfInBounds j true) e = false := by rw [up_ne hje]; exact hU
      have hS' : S w' := hc.resolve_left (by rw [hn]; decide)
      refine ⟨.inr hS', ih (ls.setIfInBounds j true) a' w' (closed_step hcl hj) (fun k ok hk hki hun hno => hfree k ok hk hki ?_ hno) (ready_mono hr (Ne.symm hji)) h3.1 hS' hn ?_⟩
      · by_cases hjk : j = k
        · subst hjk; exact hjun
        · rw [_root_.Go.getD_set_ne true hjk] at hun; exact hun
      · rw [Array.setIfInBounds_comm _ _ hji]
        exact h3.2.2
/-- A load that e waits for, in two steps. -/
theorem E_take2 (i : Nat) {oi : Oper} {v : Value} {n : Nat} {ls : Array Bool} (ls' : Array Bool) {a : Act} {w : World} (hi : ops[i]? = some oi) (hie : (i == e) = false) (hwt : waits2B md ops e i = true) (hcl : closedB md ops ls = true)
    (hs : Region.noSelect ops = true) (hf : Region.free md ops ls i = true) (hr : (Region.ready md ops ls).contains i = true) (hu : comeB ls e = false)
    (hQ : ∀ c a w, Q (.panic c) (a.put oi.dst v) w → Q (.panic c) a w) (hy : YieldsIf P ops S oi v a) (hS : S w) (hls : ls.setIfInBounds i true = ls')
    (h : AnyE P md ops Q S e n ls' (a.put oi.dst v) w) : AnyE P md ops Q S e (n + 1) ls a w :=
  E_first2 hi (by simpa using hie) (Region.noSelect_spec hs) hQ hwt n ls a w (closed_of hcl) (Region.free_spec hi hf) (by simpa using hr) hy hS hu (hls ▸ h)
end
end Go.Proofs.YtjhofmmmlemfcaaDoor
