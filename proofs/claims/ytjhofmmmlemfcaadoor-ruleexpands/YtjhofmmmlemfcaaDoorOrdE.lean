/- A region that draws its order, one of whose operations (number e) turns what its loads have read: the loads, which e waits for, are taken first. -/
import Derived.Deep.RegionHeld3
namespace Go.Proofs.YtjhofmmmlemfcaaDoor
open Go
set_option linter.unusedVariables false

section
variable {P : Program} {ops : Array Oper} {Q : Exit → Act → World → Prop} {md : Region.Mode} {S : World → Prop} {e : Nat}
/-- Has number e come up? -/
def comeB (ls : Array Bool) (e : Nat) : Bool := ls.getD e false
/-- Whatever order is picked from here on; S holds till number e has come up. -/
def AnyE (P : Program) (md : Region.Mode) (ops : Array Oper) (Q : Exit → Act → World → Prop) (S : World → Prop) (e : Nat) : Nat → Array Bool → Act → World → Prop
  | 0, ls, a, w => Region.ready md ops ls = [] ∧ Q .normal a w
  | n + 1, ls, a, w => (Region.ready md ops ls = [] → Q .normal a w) ∧ ∀ i ∈ Region.ready md ops ls, wpOp P ops Q i (fun a' w' => (comeB (ls.setIfInBounds i true) e = true ∨ S w') ∧ AnyE P md ops Q S e n (ls.setIfInBounds i true) a' w') a w
theorem any_of_E : ∀ (n : Nat) (ls : Array Bool) (a : Act) (w : World), AnyE P md ops Q S e n ls a w → wpAny P md ops Q n ls a w
  | 0, _, _, _, h => h
  | n + 1, _, _, _, h => ⟨h.1, fun i hi => wpOp_mono (fun a' w' h' => any_of_E n _ a' w' h'.2) (h.2 i hi)⟩
theorem up_ne {ls : Array Bool} {i : Nat} (h : i ≠ e) : comeB (ls.setIfInBounds i true) e = comeB ls e := by unfold comeB; exact _root_.Go.getD_set_ne false h
theorem up_set {ls : Array Bool} {i : Nat} (h : comeB ls e = true) : comeB (ls.setIfInBounds i true) e = true := by unfold comeB at *; exact getD_set_true h
/-- Does number e wait for number i? -/
def waitsB (md : Region.Mode) (ops : Array Oper) (e i : Nat) : Bool := match ops[e]? with
  | some oe => oe.after.any fun x => Region.binds md x && x.on == i
  | none => false
theorem not_up {ls : Array Bool} {i : Nat} (hr : i ∈ Region.ready md ops ls) : ls.getD i false ≠ true := by
  intro h1
  have h0 := (mem_ready.1 hr).1
  rcases Nat.lt_or_ge i ls.size with h' | h'
  · simp [h'] at h0 h1; rw [h0] at h1; cases h1
  · simp [Array.getElem?_eq_none h'] at h1
theorem waits_not {ls : Array Bool} {i : Nat} (hw : waitsB md ops e i = true) (hr : i ∈ Region.ready md ops ls) : e ∉ Region.ready md ops ls := by
  intro he
  obtain ⟨_, oe, hoe, hall⟩ := mem_ready.1 he
  unfold waitsB at hw
  rw [hoe] at hw
  simp only [Array.any_eq_true] at hw
  obtain ⟨j, hj, hx⟩ := hw
  simp only [Bool.and_eq_true, beq_iff_eq] at hx
  have h1 := hall oe.after[j] (Array.getElem_mem hj) hx.1
  rw [hx.2] at h1
  exact not_up hr h1
/-- Taken first: what yields in every world that meets T, where T holds of each world that may lie between. -/
theorem E_first {i : Nat} {oi : Oper} {v : Value} {T : World → Prop} (hi : ops[i]? = some oi) (hie : i ≠ e) (hsel : ∀ (j : Nat) (o : Oper) cs b, ops[j]? = some o → o.op ≠ .select cs b)
    (hQ : ∀ c a w, Q (.panic c) (a.put oi.dst v) w → Q (.panic c) a w) (hT : (∀ w, T w) ∨ (waitsB md ops e i = true ∧ ∀ w, S w → T w)) (n : Nat) :
    ∀ (ls : Array Bool) (a : Act) (w : World), (∀ j oj, ops[j]? = some oj → j ≠ i → ls.getD j true = false → (∀ x ∈ oj.after, Region.binds md x = true → x.on ≠ i) → oi.apart ops oj = true) →
      i ∈ Region.ready md ops ls → YieldsIf P ops T oi v a → T w → (comeB ls e = true ∨ S w) → ((∀ w, T w) ∨ comeB ls e = false) → AnyE P md ops Q S e n (ls.setIfInBounds i true) (a.put oi.dst v) w → AnyE P md ops Q S e (n + 1) ls a w := by
  induction n with
  | zero =>
    intro ls a w _ hr hy hTw hS hU H
    refine ⟨fun h => (by rw [h] at hr; cases hr), fun j hj => ?_⟩
    by_cases hji : j = i
    · subst hji; exact hy.wpOp hi hTw ⟨hS.imp_left up_set, H⟩
    · have := ready_mono hj hji
      rw [H.1] at this
      cases this
  | succ n ih =>
    intro ls a w hfree hr hy hTw hS hU H
    refine ⟨fun h => (by rw [h] at hr; cases hr), fun j hj => ?_⟩
    by_cases hji : j = i
    · subst hji; exact hy.wpOp hi hTw ⟨hS.imp_left up_set, H⟩
    · have h1 := H.2 j (ready_mono hj hji)
      obtain ⟨hjun, oj, hoj, hall⟩ := mem_ready.1 hj
      have hnot : ∀ x ∈ oj.after, Region.binds md x = true → x.on ≠ i := fun x hx hb heq => not_up hr (heq ▸ hall x hx hb)
      have h2 := wpOp_putIf hoj (hfree j oj hoj hji hjun hnot) (fun cs b => hsel i oi cs b hi) (fun cs b => hsel j oj cs b hoj) hQ hy h1
      refine wpOp_mono (fun a' w' h3 => ?_) h2
      have hc : comeB (ls.setIfInBounds j true) e = true ∨ S w' := h3.2.1.imp_left (fun h => by rw [Array.setIfInBounds_comm _ _ (Ne.symm hji)] at h; rw [up_ne hie] at h; exact h)
      have hT' : T w' ∧ ((∀ w, T w) ∨ comeB (ls.setIfInBounds j true) e = false) := by
        rcases hT with hT | ⟨hw, hT⟩
        · exact ⟨hT w', .inl hT⟩
        · rcases hU with hU | hU
          · exact ⟨hU w', .inl hU⟩
          · have hje : j ≠ e := fun h => waits_not hw hr (h ▸ hj)
            have hn : comeB (ls.setIfInBounds j true) e = false := by rw [up_ne hje]; exact hU
            refine ⟨hT w' (hc.resolve_left (by rw [hn]; decide)), .inr hn⟩
      refine ⟨hc, ih (ls.setIfInBounds j true) a' w' (fun k ok hk hki hun hno => hfree k ok hk hki ?_ hno) (ready_mono hr (Ne.symm hji)) h3.1 hT'.1 hc hT'.2 ?_⟩
      · by_cases hjk : j = k
        · subst hjk; exact hjun
        · rw [_root_.Go.getD_set_ne true hjk] at hun; exact hun
      · rw [Array.setIfInBounds_comm _ _ hji]
        exact h3.2.2
/-- A load that e waits for. -/
theorem E_take (i : Nat) {oi : Oper} {v : Value} {n : Nat} {ls : Array Bool} (ls' : Array Bool) {a : Act} {w : World} (hi : ops[i]? = some oi) (hie : (i == e) = false) (hwt : waitsB md ops e i = true)
    (hs : Region.noSelect ops = true) (hf : Region.free md ops ls i = true) (hr : (Region.ready md ops ls).contains i = true) (hu : comeB ls e = false)
    (hQ : ∀ c a w, Q (.panic c) (a.put oi.dst v) w → Q (.panic c) a w) (hy : YieldsIf P ops S oi v a) (hS : S w) (hls : ls.setIfInBounds i true = ls')
    (h : AnyE P md ops Q S e n ls' (a.put oi.dst v) w) : AnyE P md ops Q S e (n + 1) ls a w :=
  E_first (T := S) hi (by simpa using hie) (Region.noSelect_spec hs) hQ (.inr ⟨hwt, fun _ h => h⟩) n ls a w (Region.free_spec hi hf) (by simpa using hr) hy hS (.inr hS) (.inr hu) (hls ▸ h)
/-- What yields in whatever world. -/
theorem E_free (i : Nat) {oi : Oper} {v : Value} {n : Nat} {ls : Array Bool} (ls' : Array Bool) {a : Act} {w : World} (hi : ops[i]? = some oi) (hie : (i == e) = false)
    (hs : Region.noSelect ops = true) (hf : Region.free md ops ls i = true) (hr : (Region.ready md ops ls).contains i = true)
    (hQ : ∀ c a w, Q (.panic c) (a.put oi.dst v) w → Q (.panic c) a w) (hy : YieldsIf P ops (fun _ => True) oi v a) (hS : comeB ls e = true ∨ S w) (hls : ls.setIfInBounds i true = ls')
    (h : AnyE P md ops Q S e n ls' (a.put oi.dst v) w) : AnyE P md ops Q S e (n + 1) ls a w :=
  E_first (T := fun _ => True) hi (by simpa using hie) (Region.noSelect_spec hs) hQ (.inl fun _ => trivial) n ls a w (Region.free_spec hi hf) (by simpa using hr) hy trivial hS (.inl fun _ => trivial) (hls ▸ h)
/-- One alone may come up: its run. -/
theorem E_one (i : Nat) {oi : Oper} {n : Nat} {ls : Array Bool} (ls' : Array Bool) {a : Act} {w : World} (hi : ops[i]? = some oi) (hr : Region.ready md ops ls = [i]) (hls : ls.setIfInBounds i true = ls')
    (h : ∀ K' : Act → World → Prop, Shut (∀ a' w', (comeB ls' e = true ∨ S w') → AnyE P md ops Q S e n ls' a' w' → K' a' w') → if Region.wanted oi (yielded ops a.tmps) = true then Oper.wp P oi a w K' Q else K' (a.put oi.dst undef) w) : AnyE P md ops Q S e (n + 1) ls a w := by
  subst hls
  refine ⟨(fun h0 => by rw [hr] at h0; cases h0), fun j hj => ?_⟩
  rw [hr] at hj
  obtain rfl : j = i := by simpa using hj
  exact wpOp_step hi (fun K' hK => h K' (fun a w hS hW => hK a w ⟨hS, hW⟩))
/-- .. one that has no guard. -/
theorem E_oneG (i : Nat) {oi : Oper} {n : Nat} {ls : Array Bool} (ls' : Array Bool) {a : Act} {w : World} (hi : ops[i]? = some oi) (hg : oi.guard = none) (hr : Region.ready md ops ls = [i]) (hls : ls.setIfInBounds i true = ls')
    (h : ∀ K' : Act → World → Prop, Shut (∀ a' w', (comeB ls' e = true ∨ S w') → AnyE P md ops Q S e n ls' a' w' → K' a' w') → Oper.wp P oi a w K' Q) : AnyE P md ops Q S e (n + 1) ls a w := by
  refine E_one i ls' hi hr hls (fun K' hK' => ?_)
  rw [if_pos (by simp [Region.wanted, hg])]
  exact h K' hK'
theorem E_done {ls : Array Bool} {a : Act} {w : World} (hr : Region.ready md ops ls = []) (h : Q .normal a w) : ∀ n, AnyE P md ops Q S e n ls a w
  | 0 => ⟨hr, h⟩
  | _ + 1 => ⟨fun _ => h, by rw [hr]; simp⟩
theorem wp_region_E {id : Nat} {a : Act} {w : World} (S : World → Prop) (e n : Nat) (ls : Array Bool) (hm : P.follows .mixedOrders = true) (hn : ops.size = n) (hls : Array.replicate n false = ls)
    (h : AnyE P .any ops Q S e n ls a w.drew) : (Code.region id ops true).wp P Q a w := by
  subst hls
  subst hn
  exact wp_region_any hm (any_of_E _ _ _ _ h)
end
end Go.Proofs.YtjhofmmmlemfcaaDoor
