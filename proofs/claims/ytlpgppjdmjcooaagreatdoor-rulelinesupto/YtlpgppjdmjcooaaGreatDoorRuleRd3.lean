/- sides with read's closure (package rule). -/
import Derived.Test.YtlpgppjdmjcooaaGreatDoorRuleRd2
namespace Go.Proofs.YtlpgppjdmjcooaaGreatDoor
open Go.RowKit
set_option linter.unusedVariables false
set_option maxRecDepth 10000

/-- What is read of both sides. -/
def bothR (r : Rl) (l : List UInt8) : Rl :=
  if (sideO fromL l).ok = true then { r with sa := (sideO fromL l).a, sl := (sideO fromL l).n, fr := (sideO fromL l).ps, da := (sideO toL (sideO fromL l).rest).a, dl := (sideO toL (sideO fromL l).rest).n, tl := (sideO toL (sideO fromL l).rest).ps }
  else { r with sa := (sideO fromL l).a, sl := (sideO fromL l).n, fr := (sideO fromL l).ps }
def bothRest (l : List UInt8) : List UInt8 := if (sideO fromL l).ok = true then (sideO toL (sideO fromL l).rest).rest else (sideO fromL l).rest
def bothOk (l : List UInt8) : Bool := (sideO fromL l).ok && (sideO toL (sideO fromL l).rest).ok
theorem okE_t : okE true = .nilIface := rfl
theorem okE_f : okE false = .iface 51 (.int .i64 2) := rfl
set_option maxHeartbeats 8000000 in
theorem sidesR (w0 : World) (S : Nat) (r : Rl) (l : List UInt8) (W : World) (h : RdSt w0 W S r (.slice none 0 0) (.slice none 0 0) l) (hfr : r.fr = []) (htl : r.tl = []) (hl : l.length ≤ 1048576) (htx : TxE w0) (hw0 : w0.heap.size = S) :
    Calls Tryz.prog 17 #[.pointer (some ⟨S + 1, 0, none⟩), .func (.func 29) #[] #[.pointer (some ⟨S + 3, 0, none⟩), .pointer (some ⟨S + 4, 0, none⟩)]] W fun e w' => ∃ fv' tv', e = .returned (okE (bothOk l)) ∧ RdSt w0 w' S (bothR r l) fv' tv' (bothRest l) := by
  obtain ⟨Q, hQ⟩ : ∃ Q : Ending → World → Prop, Q = fun e w' => ∃ fv' tv', e = .returned (okE (bothOk l)) ∧ RdSt w0 w' S (bothR r l) fv' tv' (bothRest l) := ⟨_, rfl⟩
  have HQ : Hid (∀ fv' tv' w', RdSt w0 w' S (bothR r l) fv' tv' (bothRest l) → Q (.returned (okE (bothOk l))) w') := by rw [hQ]; exact fun v v2 w' h => ⟨v, v2, rfl, h⟩
  rw [← hQ]
  clear hQ
  have hA1 := rd3_from w0 S r (.slice none 0 0) l W.drew h.drew hfr hl htx hw0
  unfold sideV at hA1
  rw [show mkB fromL = ⟨#[32, 102, 114, 111, 109, 32]⟩ from rfl] at hA1
  have HB1 := hidE (fun (fv' : Value) (W1 : World) (h1 : RdSt w0 W1 S { r with sa := (sideO fromL l).a, sl := (sideO fromL l).n, fr := (sideO fromL l).ps } fv' (.slice none 0 0) (sideO fromL l).rest) => rd3_to w0 S _ fv' (sideO fromL l).rest W1.drew h1.drew htl (Nat.le_trans (sideO_len _ _) hl) htx hw0)
  unfold sideV at HB1
  rw [show mkB toL = ⟨#[32, 116, 111, 32]⟩ from rfl] at HB1
  rcases hok : (sideO fromL l).ok with _ | _
  · have e1 : bothOk l = false := by unfold bothOk; rw [hok]; rfl
    have e2 : bothR r l = { r with sa := (sideO fromL l).a, sl := (sideO fromL l).n, fr := (sideO fromL l).ps } := by unfold bothR; rw [hok]; rfl
    have e3 : bothRest l = (sideO fromL l).rest := by unfold bothRest; rw [hok]; rfl
    rw [e1, e2, e3, okE_f] at HQ
    rw [hok, okE_f] at hA1
    generalize sideO fromL l = o at hA1 HQ
    clear e1 e2 e3 hok HB1 h hfr htl hl htx hw0
    go_enter Tryz.func17, Tryz.ntmps17
    go_upto_region 1 with fail
    go_region_with (go_at_call 29; go_must (refine hA1.mono ?_; rintro e w1 ⟨fv', rfl, h1⟩))
    have HF := hidE (HQ.out _ _ _ h1)
    clear hA1 h1 HQ
    go_wp2_with fail
    exact HF.out
  · have e1 : bothOk l = (sideO toL (sideO fromL l).rest).ok := by unfold bothOk; rw [hok]; rfl
    have e2 : bothR r l = { r with sa := (sideO fromL l).a, sl := (sideO fromL l).n, fr := (sideO fromL l).ps, da := (sideO toL (sideO fromL l).rest).a, dl := (sideO toL (sideO fromL l).rest).n, tl := (sideO toL (sideO fromL l).rest).ps } := by unfold bothR; rw [hok]; rfl
    have e3 : bothRest l = (sideO toL (sideO fromL l).rest).rest := by unfold bothRest; rw [hok]; rfl
    rw [e1, e2, e3] at HQ
    rw [hok, okE_t] at hA1
    generalize sideO fromL l = o at hA1 HQ HB1
    generalize sideO toL o.rest = p at HQ HB1
    obtain ⟨er, her⟩ : ∃ er, okE p.ok = er := ⟨_, rfl⟩
    rw [her] at HQ HB1
    clear e1 e2 e3 hok h hfr htl hl htx hw0 her
    go_enter Tryz.func17, Tryz.ntmps17
    go_upto_region 1 with fail
    go_region_with (go_at_call 29; go_must (refine hA1.mono ?_; rintro e w1 ⟨fv', rfl, h1⟩))
    have hB2 := HB1.out fv' w1 h1
    clear hA1 h1 HB1
    go_upto_region 4 with fail
    go_region_with (go_at_call 29; go_must (refine hB2.mono ?_; rintro e w2 ⟨tv', rfl, h2⟩))
    have HF := hidE (HQ.out _ _ _ h2)
    clear hB2 h2 HQ
    go_wp2_with fail
    go_ret
    exact HF.out
end Go.Proofs.YtlpgppjdmjcooaaGreatDoor
