/- The law AuditChecks of package portlaw3 returns true, for every slice of events and every end; the walk of its text. -/
import Derived.Test.YtfgaalhaeadhmaaDoorAuC6
import Derived.Test.YtfgaalhaeadhmaaDoorRefAu1
namespace Go.Proofs.YtfgaalhaeadhmaaDoor
open Go.RowKit
set_option linter.unusedVariables false

set_option maxRecDepth 100000 in
set_option maxHeartbeats 64000000 in
theorem auditchecks_walk (v : Value) (es : List Ev) (t : Int) (w : World) {p : Prop} (hv : Evs w v es) (_ : p) (hE : ErrLaid w) :
    Calls Tryd.prog 5 #[v, .int .i64 t] w fun e w' => e = .returned (.bool true) ∧ Below w.heap.size w w' := by
  obtain ⟨ao, co, rfl⟩ := hv.len
  obtain ⟨Q, hQ⟩ : ∃ Q : Ending → World → Prop, Q = fun e w' => e = .returned (.bool true) ∧ Below w.heap.size w w' := ⟨_, rfl⟩
  have HQ := hidA (show ∀ w', Below w.heap.size w w' → Q (.returned (.bool true)) w' by rw [hQ]; exact fun w' h => ⟨rfl, h⟩)
  rw [← hQ]
  clear hQ
  obtain ⟨N, hN⟩ : ∃ N, es.length = N := ⟨_, rfl⟩
  have HN := hidA hN
  rw [hN] at hv ⊢
  have HV := hidA hv
  have HE := hidA hE
  have ha := refAudit_any es _ w hv
  have hk := fun W h => check_any es _ W (Evs.below hv h)
  have HS := hidA (fun c W => auC_same c W)
  obtain ⟨c, hc⟩ : ∃ c, (audR es).2 = c := ⟨_, rfl⟩
  obtain ⟨n, hn⟩ : ∃ n, (audR es).1 = n := ⟨_, rfl⟩
  rw [hc, hn] at ha hk
  have HK := hidA hk
  have HC := hidA hc
  have hs := HS.out c
  have HS2 := hidA hs
  clear hv hE hk hc hn HS hs hN
  go_enter Tryd.func5, Tryd.ntmps5
  go_upto_region 2 with (go_at_call 15; go_must ((with_reducible refine ha.mono ?_); rintro e W1 ⟨rfl, b1⟩; have HB1 := hidA b1; clear b1 ha))
  have hk1 := HK.out W1 HB1.out
  have hs1 := HS2.out
  generalize auV c = ev at hk1 hs1
  go_upto_region 3 with (go_at_call 16; go_must ((with_reducible refine hk1.mono ?_); rintro e W2 ⟨rfl, b2⟩; have HB2 := hidA (HB1.out.trans (b2.mono HB1.out.size)); clear b2 hk1))
  have hs2 := hs1 W2 (HE.out.below HB2.out)
  go_upto_region 4 with (go_at_call 10; go_must ((with_reducible refine hs2.mono ?_); rintro e W3 ⟨rfl, b3⟩; have HB3 := hidA (HB2.out.trans (b3.mono HB2.out.size)); clear b3 hs1 hs2))
  repeat (first | (show Code.wp _ (Code.seq (Code.region 6 _ _) _) _ _ _; refine ac_t6 es t c _ _ _ _ _ Q _ (by kernel_rfl) HN.out (HV.out.below HB3.out) (HE.out.below HB3.out) HC.out HB3.out _ _ _ _ _ _ _ _ _ _ _ _ _ _ _ _ _ _ _ _ _ _ _ _ _ _ _ _ _ _ _ _ _ _ _ _ _ _ _ _ _ _ _ _ _ _ _ _ _ _ _ _ _ _ _ _ _ _ _ _ _ _ _ _ _ _ _ _ _ _ _ _ _ _ _ _ _ _ _ _ _ _ _ _ _ _ _ _ _ _ _ _ _ _ _ _ _ _ _ _ _ _ _ _ _ _ _ _ _ _ _ _ _ _ _ _ _ _ _ _ _ _ _ _ _ _ _ _ _ _ _ _ _ _ _ _ _ _ _ _ _ _ _ _ _ _ _ _ _ _ _ _ _ _ _ _ _ _ _ _ _ _ _ _ _ _ _ _ _ _ _ _ _ _ _ _ _ _ _ _ _ _ _ _ _ _ _ _ _ _ _ _ _ _ _ _ _ _ _ _ _ _ _ _ _ _ _ _ _ _ _ _ _ _ _ _ _ _ _ _ _ _ _ _ _ ?_) | go_step)
  exact HQ.out
end Go.Proofs.YtfgaalhaeadhmaaDoor
