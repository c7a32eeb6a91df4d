/- What package judge's Judge returns. -/
import Derived.Test.YtdellfmkmbabhaaJudgeTrc
namespace Go.Proofs.Ytdellfmkmbabhaa
open Go.RowKit
set_option linter.unusedVariables false
set_option maxRecDepth 10000

theorem results_tmp4 {fn : Func} {t u v x : Tmp} (h : fn.results = #[.tmp t, .tmp u, .tmp v, .tmp x]) (tmps : Array Value) (P : Program) (w : World) :
    (results fn tmps).run P w = .ok (.tuple #[tmps.getD t undef, tmps.getD u undef, tmps.getD v undef, tmps.getD x undef]) w := by
  simp [results, h]
def judP (rs : List Rl) (k : Ky) (way : Int) : Bool := if judE rs k way = 0 then (judR rs (lastN (traceL k way 0 rs))).pass else false
def judK (rs : List Rl) (k : Ky) (way : Int) : Bool := if judE rs k way = 0 then (judR rs (lastN (traceL k way 0 rs))).keep else false
def judN (rs : List Rl) (k : Ky) (way : Int) : Int := if judE rs k way = 0 then lastN (traceL k way 0 rs) else 0
theorem trace_nil (v : Value) (rs : List (Rl × Value × Value)) (k : Ky) (way : Int) (w : World) (hv : Rls w v rs) (hE : judE (rs.map Prod.fst) k way = 0) (hT : traceL k way 0 (rs.map Prod.fst) = []) :
    Calls Try.prog 17 #[v, keyV k, .int .i64 way] w fun e w' => ∃ a c, e = .returned (.tuple #[.slice a 0 c, .nilIface]) ∧ Below w.heap.size w w' := by
  refine (trace_any v rs k way w hv).mono ?_
  rintro e w' ⟨v', rfl, own, b⟩
  have : trcL (rs.map Prod.fst) k way = [] := by unfold trcL; rw [if_pos hE, hT]
  rw [this] at own
  obtain ⟨a, c, rfl⟩ := own.form
  refine ⟨a, c, ?_, b⟩
  rw [hE]; rfl
theorem trace_some (v : Value) (rs : List (Rl × Value × Value)) (k : Ky) (way : Int) (w : World) (hv : Rls w v rs) (hE : judE (rs.map Prod.fst) k way = 0) (hT : traceL k way 0 (rs.map Prod.fst) ≠ []) :
    ∃ M : Nat, Calls Try.prog 17 #[v, keyV k, .int .i64 way] w fun e w' => ∃ g c, e = .returned (.tuple #[.slice (some ⟨g, 0, none⟩) (M + 1) c, .nilIface]) ∧ M + 1 ≤ c ∧ c ≤ maxLen ∧ w'.cell? ⟨g, M, none⟩ = some (.int .i64 (lastN (traceL k way 0 (rs.map Prod.fst)))) ∧ Below w.heap.size w w' := by
  have hl : 0 < (traceL k way 0 (rs.map Prod.fst)).length := List.length_pos_iff.2 hT
  refine ⟨(traceL k way 0 (rs.map Prod.fst)).length - 1, ?_⟩
  refine (trace_any v rs k way w hv).mono ?_
  rintro e w' ⟨v', rfl, own, b⟩
  have : trcL (rs.map Prod.fst) k way = traceL k way 0 (rs.map Prod.fst) := by unfold trcL; rw [if_pos hE]
  rw [this] at own
  obtain ⟨g, c, rfl, _, _, h1, h2⟩ := own.shape hl
  have hc := own.cell rfl ((traceL k way 0 (rs.map Prod.fst)).length - 1) (by omega)
  have e1 : (traceL k way 0 (rs.map Prod.fst)).length - 1 + 1 = (traceL k way 0 (rs.map Prod.fst)).length := by omega
  refine ⟨g, c, ?_, by omega, h2, ?_, b⟩
  · rw [hE, e1]; rfl
  · rw [hc]
    unfold lastN
    rw [List.getLast?_eq_getElem?, List.getElem?_eq_getElem (by omega)]
    rfl
theorem judR_at {rs : List Rl} {m : Nat} (h : m < rs.length) : judR rs (m : Int) = rs[m] := by
  unfold judR
  rw [if_neg (by omega), Int.toNat_natCast, List.getElem?_eq_getElem h, Option.getD_some]
set_option maxHeartbeats 16000000 in
theorem judge_any (v : Value) (rs : List (Rl × Value × Value)) (k : Ky) (way : Int) (w : World) (hv : Rls w v rs) :
    Calls Try.prog 8 #[v, keyV k, .int .i64 way] w fun e w' => e = .returned (.tuple #[.bool (judP (rs.map Prod.fst) k way), .bool (judK (rs.map Prod.fst) k way), .int .i64 (judN (rs.map Prod.fst) k way), erV (judE (rs.map Prod.fst) k way)]) ∧ Below w.heap.size w w' := by
  obtain ⟨ao, co, hve⟩ := hv.len
  have b0 : Below w.heap.size w (w.alloc (.cells #[.int .i64 k.kind, .int .i64 k.src, .int .i64 k.frm, .int .i64 k.dst, .int .i64 k.too] 24)) := (Below.refl _ _).alloc (Nat.le_refl _) _
  have hz0 : w.heap.size ≤ (w.alloc (.cells #[.int .i64 k.kind, .int .i64 k.src, .int .i64 k.frm, .int .i64 k.dst, .int .i64 k.too] 24)).heap.size := b0.size
  have HB : Hid (∀ w1, Below (w.alloc (.cells #[.int .i64 k.kind, .int .i64 k.src, .int .i64 k.frm, .int .i64 k.dst, .int .i64 k.too] 24)).heap.size (w.alloc (.cells #[.int .i64 k.kind, .int .i64 k.src, .int .i64 k.frm, .int .i64 k.dst, .int .i64 k.too] 24)) w1 → Below w.heap.size w w1) := fun w1 h => b0.trans (h.mono b0.size)
  have hv1 := hv.below b0
  have HV := hidE hv1
  obtain ⟨N, hN⟩ : ∃ N, rs.length = N := ⟨_, rfl⟩
  rw [hN] at hve
  by_cases hE : judE (rs.map Prod.fst) k way = 0
  case neg =>
    have htr := trace_any v rs k way _ hv1
    rw [show judP (rs.map Prod.fst) k way = false by unfold judP; rw [if_neg hE], show judK (rs.map Prod.fst) k way = false by unfold judK; rw [if_neg hE], show judN (rs.map Prod.fst) k way = 0 by unfold judN; rw [if_neg hE]]
    rw [erV_ne hE] at htr ⊢
    generalize judE (rs.map Prod.fst) k way = z at htr
    unfold keyV at htr ⊢
    generalize trcL (rs.map Prod.fst) k way = L at htr
    subst hve
    clear hE hv hv1 HV hN b0 hz0
    obtain ⟨Q, hQ⟩ : ∃ Q : Ending → World → Prop, Q = fun e w' => e = .returned (.tuple #[.bool false, .bool false, .int .i64 0, .iface 62 (.int .i64 z)]) ∧ Below w.heap.size w w' := ⟨_, rfl⟩
    have HQ : Hid (∀ w', Below w.heap.size w w' → Q (.returned (.tuple #[.bool false, .bool false, .int .i64 0, .iface 62 (.int .i64 z)])) w') := by rw [hQ]; exact fun _ h => ⟨rfl, h⟩
    rw [← hQ]
    clear hQ
    go_enter Try.func8, Try.ntmps8
    go_wp2_with (go_at_call 17; go_must (refine htr.mono ?_; rintro e w1 ⟨v1, rfl, own1, b1⟩; obtain ⟨a1, c1, hv1⟩ := own1.form; clear own1; subst hv1))
    refine bodyPost_ret (results_tmp4 rfl _ _ _) rfl ?_
    exact HQ.out _ (HB.out _ b1)
  rw [show judP (rs.map Prod.fst) k way = (judR (rs.map Prod.fst) (lastN (traceL k way 0 (rs.map Prod.fst)))).pass by unfold judP; rw [if_pos hE], show judK (rs.map Prod.fst) k way = (judR (rs.map Prod.fst) (lastN (traceL k way 0 (rs.map Prod.fst)))).keep by unfold judK; rw [if_pos hE], show judN (rs.map Prod.fst) k way = lastN (traceL k way 0 (rs.map Prod.fst)) by unfold judN; rw [if_pos hE]]
  by_cases hT : traceL k way 0 (rs.map Prod.fst) = []
  · have htr := trace_nil v rs k way _ hv1 hE hT
    rw [hT, hE, show erV 0 = .nilIface from rfl, show lastN [] = -1 from rfl, show judR (rs.map Prod.fst) (-1) = zeroR from rfl, show zeroR.pass = true from rfl, show zeroR.keep = false from rfl]
    unfold keyV at htr ⊢
    subst hve
    clear hE hv hv1 HV hN b0 hz0 hT
    obtain ⟨Q, hQ⟩ : ∃ Q : Ending → World → Prop, Q = fun e w' => e = .returned (.tuple #[.bool true, .bool false, .int .i64 (-1), .nilIface]) ∧ Below w.heap.size w w' := ⟨_, rfl⟩
    have HQ : Hid (∀ w', Below w.heap.size w w' → Q (.returned (.tuple #[.bool true, .bool false, .int .i64 (-1), .nilIface])) w') := by rw [hQ]; exact fun _ h => ⟨rfl, h⟩
    rw [← hQ]
    clear hQ
    go_enter Try.func8, Try.ntmps8
    go_wp2_with (go_at_call 17; go_must (refine htr.mono ?_; rintro e w1 ⟨a1, c1, rfl, b1⟩))
    refine bodyPost_ret (results_tmp4 rfl _ _ _) rfl ?_
    exact HQ.out _ (HB.out _ b1)
  · obtain ⟨M, htr⟩ := trace_some v rs k way _ hv1 hE hT
    obtain ⟨m, hm, hlast⟩ := lastN_lt hT
    have hmr : m < rs.length := by simpa using hm
    rw [hlast] at htr ⊢
    rw [judR_at hm, List.getElem_map, hE, show erV 0 = .nilIface from rfl]
    have HX := hidE (fun (W : World) (hb : Below (w.alloc (.cells #[.int .i64 k.kind, .int .i64 k.src, .int .i64 k.frm, .int .i64 k.dst, .int .i64 k.too] 24)).heap.size (w.alloc (.cells #[.int .i64 k.kind, .int .i64 k.src, .int .i64 k.frm, .int .i64 k.dst, .int .i64 k.too] 24)) W) => HV.out.below hb)
    unfold keyV at htr ⊢
    have hv1' := HV.out
    rw [hve] at hv1'
    obtain ⟨b1, o1, e1, hb1, hl1, hx1, hc1⟩ := hv1'.shape (by omega)
    have hx1' : co ≤ 9223372036854775807 := by unfold maxLen at hx1; omega
    have HC := hidE (fun (W : World) (hb : Below (w.alloc (.cells #[.int .i64 k.kind, .int .i64 k.src, .int .i64 k.frm, .int .i64 k.dst, .int .i64 k.too] 24)).heap.size (w.alloc (.cells #[.int .i64 k.kind, .int .i64 k.src, .int .i64 k.frm, .int .i64 k.dst, .int .i64 k.too] 24)) W) => (hc1 m hmr).below hb1 hb)
    subst e1
    subst hve
    have hmN : m < N := by omega
    have j1 : (m : Int) < (N : Int) := by omega
    have j2 : (0 : Int) ≤ (m : Int) := by omega
    generalize rs[m].1 = r at HC ⊢
    generalize rs[m].2.1 = fv at HC
    generalize rs[m].2.2 = tv at HC
    have hM : M < 9223372036854775807 ∨ ¬ M < 9223372036854775807 := by omega
    clear hE hv hv1 HV hN b0 hz0 hT hlast hm hmr hv1' hc1 hx1 HX hM
    obtain ⟨Q, hQ⟩ : ∃ Q : Ending → World → Prop, Q = fun e w' => e = .returned (.tuple #[.bool r.pass, .bool r.keep, .int .i64 (m : Int), .nilIface]) ∧ Below w.heap.size w w' := ⟨_, rfl⟩
    have HQ : Hid (∀ w', Below w.heap.size w w' → Q (.returned (.tuple #[.bool r.pass, .bool r.keep, .int .i64 (m : Int), .nilIface])) w') := by rw [hQ]; exact fun _ h => ⟨rfl, h⟩
    rw [← hQ]
    clear hQ
    go_enter Try.func8, Try.ntmps8
    go_upto_region 7 with (go_at_call 17; go_must (refine htr.mono ?_; rintro e w1 ⟨g1, c1, rfl, hc2, hc3, hcell, bw1⟩; have hc3' : c1 ≤ 9223372036854775807 := by (unfold maxLen at hc3; omega)))
    have hC := HC.out _ bw1
    obtain ⟨⟨c0, _, c2, _⟩, _⟩ := hC
    clear htr HC
    go_big_quiet (fail)
    go_wp2_with fail
    refine bodyPost_ret (results_tmp4 rfl _ _ _) rfl ?_
    exact HQ.out _ (below_drewN (HB.out _ bw1) _)
end Go.Proofs.Ytdellfmkmbabhaa
