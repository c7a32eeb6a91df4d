/- Add of package heavy, whatever is added; keys that fit their type; what is ranked is ranked in one way; '!=' of counts. -/
import Derived.Test.YtchailjgikjhlaaDoorHvTop
import Derived.Test.YtchailjgikjhlaaDoorHvAdd
namespace Go.Proofs.YtchailjgikjhlaaDoor
open Go.RowKit Go.Maps
set_option linter.unusedVariables false

def errI (z : Int) : Value := if z = 0 then .nilIface else .iface 47 (.int .i64 z)
theorem add_any (b m : Nat) (h : Hv) (key many : Int) (w : World) (k : HvAt w b m h) (ok : HvOk h) (hk : WfK key) :
    Calls Tryd.prog 6 #[.pointer (some ⟨b, 0, none⟩), .int .i64 key, .int .i64 many] w fun e w' => e = .returned (errI (addE h many)) ∧ HvAt w' b m (addS h key many) ∧ Turn (fun i => i = b ∨ i = m) w w' := by
  by_cases hE : addE h many = 0
  · refine (add_ok b m h key many w k ok hk hE).mono ?_
    rintro e w' ⟨h1, h2, h3⟩
    refine ⟨by rw [h1, hE]; rfl, ?_, h3⟩
    unfold addS
    rw [if_pos hE]
    exact h2
  · refine (add_bad b m h key many w k ok hE).mono ?_
    rintro e w' ⟨h1, rfl⟩
    refine ⟨by rw [h1]; unfold errI; rw [if_neg hE], ?_, Turn.refl _ _⟩
    unfold addS
    rw [if_neg hE]
    exact k
def WfL (l : Cs) : Prop := ∀ p ∈ l, WfK p.1
theorem wfl_put {l : Cs} (h : WfL l) {k : Int} (hk : WfK k) (v : Int) : WfL (putC l k v) := by
  intro p hp
  rcases List.mem_cons.1 hp with rfl | hp
  · exact hk
  · exact h p (List.mem_filter.1 hp).1
theorem wfl_take {l : Cs} (h : WfL l) (t : Int) : WfL (takeL t l) := fun p hp => h (p.1, p.2 + t) (take_mem.1 hp).1
theorem wfl_rest {l : Cs} (h : WfL l) {k : Int} (hk : WfK k) (m : Int) : WfL (restL l k m) := by
  unfold restL; split
  · exact wfl_put h hk _
  · exact h
theorem wfl_add {h : Hv} (hw : WfL h.l) {k : Int} (hk : WfK k) (many : Int) : WfL (addS h k many).l := by
  unfold addS addG
  split
  · split
    · exact wfl_rest hw hk _
    · exact wfl_rest (wfl_take hw _) hk _
  · exact hw
theorem eq_of_permR {α : Type} {R : α → α → Prop} (hir : ∀ a, ¬ R a a) (htr : ∀ a b c, R a b → R b c → R a c) : ∀ {p q : List α}, p.Perm q → p.Pairwise R → q.Pairwise R → p = q
  | [], q, h, _, _ => h.nil_eq
  | a :: p, [], h, _, _ => absurd h.length_eq (by simp)
  | a :: p, b :: q, h, hp, hq => by
    obtain ⟨hp1, hp2⟩ := List.pairwise_cons.1 hp
    obtain ⟨hq1, hq2⟩ := List.pairwise_cons.1 hq
    have hab : a = b := by
      rcases List.mem_cons.1 (h.mem_iff.1 (List.mem_cons_self (a := a) (l := p))) with h1 | h1
      · exact h1
      · rcases List.mem_cons.1 (h.mem_iff.2 (List.mem_cons_self (a := b) (l := q))) with h2 | h2
        · exact h2.symm
        · exact absurd (htr _ _ _ (hp1 b h2) (hq1 a h1)) (hir a)
    subst hab
    rw [eq_of_permR hir htr h.cons_inv hp2 hq2]
/-- What is ranked is in strict order. -/
theorem rk_strict {l : Cs} (ha : ApC l) {less : Int} {qs : List Ct} (hp : qs.Perm (l.map (ctOf less))) (hs : qs.Pairwise (fun p q => ¬ LtC q p)) : qs.Pairwise LtC := by
  have h1 : (l.map (ctOf less)).Pairwise (fun p q => p.key ≠ q.key) := by
    rw [List.pairwise_map]
    exact ha
  have h2 : qs.Pairwise (fun p q => p.key ≠ q.key) := (hp.symm.pairwise_iff (R := fun p q : Ct => p.key ≠ q.key) (fun {_ _} h => Ne.symm h)).1 h1
  refine List.Pairwise.imp₂ (R := fun p q : Ct => ¬ LtC q p) (S := fun p q : Ct => p.key ≠ q.key) (T := LtC) ?_ hs h2
  intro p q a b
  unfold LtC at *
  omega
theorem rk_one {l : Cs} (ha : ApC l) {less : Int} {qs qs' : List Ct} (hp : qs.Perm (l.map (ctOf less))) (hs : qs.Pairwise (fun p q => ¬ LtC q p)) (hp' : qs'.Perm (l.map (ctOf less))) (hs' : qs'.Pairwise (fun p q => ¬ LtC q p)) : qs = qs' :=
  eq_of_permR LtC_irr (fun _ _ _ => LtC_trans) (hp.trans hp'.symm) (rk_strict ha hp hs) (rk_strict ha hp' hs')
theorem rk_mem {l : Cs} {less : Int} {qs : List Ct} (hp : qs.Perm (l.map (ctOf less))) {c : Ct} (hc : c ∈ qs) : (c.key, c.many) ∈ l ∧ c.less = less := by
  obtain ⟨p, h1, rfl⟩ := List.mem_map.1 (hp.mem_iff.1 hc)
  exact ⟨h1, rfl⟩
theorem Tryd.cntHeld : Tryd.prog.stoodInHeld 37 = false := by kernel_rfl
theorem Tryd.cntFields : Tryd.prog.underlying 37 = some (.struct (Tryd.prog.fieldsOf 37)) := by kernel_rfl
theorem Tryd.cntEqual (a b c : Int) (w : World) : (Op.equalIn 10000 37 (.agg #[.int .i64 a, .int .i64 b, .int .i64 c]) (.agg #[.int .i64 a, .int .i64 b, .int .i64 c])).run Tryd.prog w = .ok true w := by
  have h := run_equalIn_agg (P := Tryd.prog) w 9999 37 #[.int .i64 a, .int .i64 b, .int .i64 c] #[.int .i64 a, .int .i64 b, .int .i64 c] Tryd.cntFields Tryd.cntHeld
  refine h.trans ?_
  simp [Program.fieldsOf, Tryd.underlying37, Op.eqFields, part, isAgg, underlying, Tryd.underlying3, Result.andThen, run_equalIn_int (P := Tryd.prog) _ 9998 3 .i64 .i64 _ _ Tryd.underlying3]
theorem Tryd.cntNeq (a b c : Int) (w : World) : (binOp .neq 37 (.agg #[.int .i64 a, .int .i64 b, .int .i64 c]) (.agg #[.int .i64 a, .int .i64 b, .int .i64 c])).run Tryd.prog w = .ok (.bool false) w := by
  rw [run_neq_struct, Tryd.cntEqual]; rfl
end Go.Proofs.YtchailjgikjhlaaDoor
