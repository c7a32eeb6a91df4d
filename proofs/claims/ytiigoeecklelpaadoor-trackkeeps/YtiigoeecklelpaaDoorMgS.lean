/- What Step of package track returns, for every flow, segment, side and time, where the table of lives holds what the rows lay. -/
import Derived.Test.YtiigoeecklelpaaDoorTrkStp0
import Derived.Test.YtiigoeecklelpaaDoorTrkStp1
import Derived.Test.YtiigoeecklelpaaDoorTrkStp2
import Derived.Test.YtiigoeecklelpaaDoorTrkStp3
import Derived.Test.YtiigoeecklelpaaDoorTrkStp4
namespace Go.Proofs.YtiigoeecklelpaaDoor
open Go.RowKit
set_option linter.unusedVariables false

theorem goF_same (f : Fl) (s : Sg) (side : Int) : (goF f s side).stp = f.stp ∧ (goF f s side).key = f.key ∧ (goF f s side).num = f.num ∧ (goF f s side).unt = f.unt := by
  unfold goF; split <;> exact ⟨rfl, rfl, rfl, rfl⟩
theorem strF_same (f : Fl) (s : Sg) (side : Int) : (strF f s side).stp = f.stp ∧ (strF f s side).key = f.key ∧ (strF f s side).num = f.num ∧ (strF f s side).unt = f.unt := by
  unfold strF
  split
  · exact ⟨rfl, rfl, rfl, rfl⟩
  split
  · exact goF_same f s side
  split <;> exact ⟨rfl, rfl, rfl, rfl⟩
theorem sayF_same (f : Fl) (s : Sg) (side : Int) : (sayF f s side).stp = f.stp ∧ (sayF f s side).key = f.key ∧ (sayF f s side).num = f.num ∧ (sayF f s side).unt = f.unt := by
  unfold sayF
  split
  · exact strF_same f s side
  split <;> exact ⟨rfl, rfl, rfl, rfl⟩
theorem stpF_no {f : Fl} {s : Sg} {side now z : Int} (h : stpE f s side now = z) (hz : ¬ z = 0) : stpF f s side now = zeroF := by
  unfold stpF; rw [if_neg (by rw [h]; exact hz)]
theorem step_any (f : Fl) (s : Sg) (bv : Value) (side now : Int) (w : World) (hb : Bytes w bv s.body) (hL : Lives w) :
    Calls Tryd.prog 13 #[flV f, segV s bv, .int .i64 side, .int .i64 now] w fun e w' => e = .returned (.tuple #[flV (stpF f s side now), errV (stpE f s side now)]) ∧ Below w.heap.size w w' := by
  obtain ⟨a, c, rfl⟩ := len_body hb
  by_cases hs : side = 0 ∨ side = 1
  case neg =>
    have e : stpE f s side now = 1 := by unfold stpE; rw [if_pos hs]
    rw [stpF_no e (by decide), e, errV_no (by decide)]
    exact step_side f s a _ c side now w hs
  have hs' : ¬ ¬ (side = 0 ∨ side = 1) := fun h => h hs
  by_cases hz : chkE f = 0
  case neg =>
    have e : stpE f s side now = chkE f := by unfold stpE; rw [if_neg hs', if_pos hz]
    rw [stpF_no e hz, e, errV_no hz]
    exact step_chk f s a _ c side now w hs hL _ rfl hz
  have hz' : ¬ ¬ chkE f = 0 := fun h => h hz
  by_cases hd : sdE (sideK f side) s side now = 0
  case neg =>
    have e : stpE f s side now = sdE (sideK f side) s side now := by unfold stpE; rw [if_neg hs', if_neg hz', if_pos hd]
    rw [stpF_no e hd, e, errV_no hd]
    exact step_said f s a _ c side now w hs hb hL hz _ rfl hd
  have hd' : ¬ ¬ sdE (sideK f side) s side now = 0 := fun h => h hd
  by_cases ht : f.unt ≤ now ∨ f.stp = 1000000
  · have e : stpE f s side now = 6 := by unfold stpE; rw [if_neg hs', if_neg hz', if_neg hd', if_pos ht]
    rw [stpF_no e (by decide), e, errV_no (by decide)]
    exact step_late f s a _ c side now w hs hb hL hz hd ht
  cases hy : sayB f s side
  · have e : stpE f s side now = 6 := by unfold stpE; rw [if_neg hs', if_neg hz', if_neg hd', if_neg ht, if_pos hy]
    rw [stpF_no e (by decide), e, errV_no (by decide)]
    exact step_no f s a _ c side now w hs hb hL hz hd ht hy
  · have e : stpE f s side now = 0 := by unfold stpE; rw [if_neg hs', if_neg hz', if_neg hd', if_neg ht, if_neg (by rw [hy]; decide)]
    rw [show stpF f s side now = chgF (sayF f s side) now by unfold stpF; rw [if_pos e], e, errV_ok]
    exact step_ok f s a _ c side now w hs hb hL hz hd ht hy (sayF_same f s side).1
end Go.Proofs.YtiigoeecklelpaaDoor

namespace Go.Proofs.YtiigoeecklelpaaDoor
set_option linter.unusedVariables false

theorem stpE_ok {f : Fl} {s : Sg} {side now : Int} (h : stpE f s side now = 0) :
    (side = 0 ∨ side = 1) ∧ chkE f = 0 ∧ sdE (sideK f side) s side now = 0 ∧ ¬ (f.unt ≤ now ∨ f.stp = 1000000) ∧ sayB f s side = true := by
  unfold stpE at h
  split at h
  · cases h
  split at h
  · contradiction
  split at h
  · contradiction
  split at h
  · cases h
  split at h
  · cases h
  · rename_i h1 h2 h3 h4 h5
    exact ⟨Decidable.not_not.1 h1, Decidable.not_not.1 h2, Decidable.not_not.1 h3, h4, by simpa using h5⟩
theorem life_kinds {k st : Int} (hk : 1 ≤ k ∧ k ≤ 3) (h : ¬ lifeI k st = 0) : (st = 1 ∨ st = 2) ∨ (k = 1 ∧ (st = 3 ∨ st = 4)) := by
  unfold lifeI at h
  repeat' split at h
  all_goals omega
theorem life_on {k st : Int} (hk : 1 ≤ k ∧ k ≤ 3) (h : (st = 1 ∨ st = 2) ∨ (k = 1 ∧ (st = 3 ∨ st = 4))) : ¬ lifeI k st = 0 := by
  have : k = 1 ∨ k = 2 ∨ k = 3 := by omega
  rcases this with rfl | rfl | rfl <;> rcases h with (rfl | rfl) | ⟨h, rfl | rfl⟩ <;> first | decide | (exfalso; omega)
theorem life_pos {k st : Int} (h : ¬ lifeI k st = 0) : 10 ≤ lifeI k st := by
  unfold lifeI at *
  repeat' split at h
  all_goals first | (exfalso; omega) | skip
  all_goals simp_all
theorem stG_on (d0 d1 : Bool) (st : Int) (h : st = 1 ∨ st = 2 ∨ st = 3 ∨ st = 4) : stG d0 d1 st = 1 ∨ stG d0 d1 st = 2 ∨ stG d0 d1 st = 3 ∨ stG d0 d1 st = 4 := by
  unfold stG; repeat' split
  all_goals omega
theorem stG_4 (d0 d1 : Bool) : stG d0 d1 4 = 4 := by
  unfold stG; repeat' split
  all_goals omega
/-- What is said does not go back. -/
def aheadB (a b : Int) : Prop := (b - a) % 4294967296 < 2147483648
theorem aheadB_refl (a : Int) : aheadB a a := by unfold aheadB; omega
theorem topI_ahead (f : Fl) (s : Sg) (side : Int) : aheadB (hiF f side) (topI f s side) := by
  unfold topI aheadB
  split
  · rename_i h
    unfold ahB at h
    have := of_decide_eq_true h
    omega
  · omega
theorem topI_range (f : Fl) (s : Sg) (side : Int) (h : 0 ≤ hiF f side ∧ hiF f side ≤ 4294967295) : 0 ≤ topI f s side ∧ topI f s side ≤ 4294967295 := by
  unfold topI
  split
  · exact endI_range s
  · exact h
/-- What a step keeps. -/
structure Kept (f g : Fl) (now : Int) : Prop where
  chk : chkE g = 0
  key : g.key = f.key
  num : g.num = f.num
  stp : g.stp = f.stp + 1
  unt : ¬ g.unt ≤ now
  old : ¬ f.unt ≤ now
  d0 : f.d0 = true → g.d0 = true
  d1 : f.d1 = true → g.d1 = true
  h0 : ¬ f.st = 1 → aheadB f.h0 g.h0
  h1 : ¬ f.st = 1 → aheadB f.h1 g.h1
  st : f.st = 4 → g.st = 4
  r0 : 0 ≤ g.h0 ∧ g.h0 ≤ 4294967295
  r1 : 0 ≤ g.h1 ∧ g.h1 ≤ 4294967295
  q0 : 0 ≤ f.h0 ∧ f.h0 ≤ 4294967295
  q1 : 0 ≤ f.h1 ∧ f.h1 ≤ 4294967295
  p : 1 ≤ f.stp ∧ f.stp ≤ 1000000
theorem bareB_of {f : Fl} (h : bareB f = true) : f.h0 = 0 ∧ f.h1 = 0 ∧ f.w0 = 0 ∧ f.w1 = 0 ∧ f.d0 = false ∧ f.d1 = false := by
  unfold bareB at h; exact of_decide_eq_true h
/-- What is said of a flow that may be is one that may be, but for its time. -/
structure SaidOk (f g : Fl) : Prop where
  d0 : f.d0 = true → g.d0 = true
  d1 : f.d1 = true → g.d1 = true
  h0 : ¬ f.st = 1 → aheadB f.h0 g.h0
  h1 : ¬ f.st = 1 → aheadB f.h1 g.h1
  st : f.st = 4 → g.st = 4
  r0 : 0 ≤ g.h0 ∧ g.h0 ≤ 4294967295
  r1 : 0 ≤ g.h1 ∧ g.h1 ≤ 4294967295
  v0 : 0 ≤ g.w0 ∧ g.w0 ≤ 65535
  v1 : 0 ≤ g.w1 ∧ g.w1 ≤ 65535
  lf : ¬ lifeI f.key.kind g.st = 0
  br : ¬ f.key.kind = 1 → bareB g = true
theorem said_ok {f : Fl} {s : Sg} {side : Int} (hs : side = 0 ∨ side = 1) (hc : chkE f = 0) (hw : 0 ≤ s.win ∧ s.win ≤ 65535) : SaidOk f (sayF f s side) := by
  obtain ⟨hky, hfi, hbr, _⟩ := chkE_ok hc
  obtain ⟨l0, ⟨a0, a1⟩, ⟨b0, b1⟩, _, _, _⟩ := fiB_of hfi
  have hk := (kyB_of hky).1
  have hst := life_kinds hk l0
  have keep : SaidOk f f := ⟨id, id, fun _ => aheadB_refl _, fun _ => aheadB_refl _, id, a0, b0, a1, b1, l0, hbr⟩
  unfold sayF
  split
  · rename_i k1
    have nb : ∀ g : Fl, ¬ f.key.kind = 1 → bareB g = true := fun g h => absurd k1 h
    unfold strF
    split
    · exact { keep with st := fun _ => rfl, lf := life_on hk (.inr ⟨k1, .inr rfl⟩), br := nb _ }
    split
    · rename_i h1
      have h4 : f.st = 1 ∨ f.st = 2 ∨ f.st = 3 ∨ f.st = 4 := by omega
      unfold goF
      split
      · have t := topI_range f s 0 a0
        have ta := topI_ahead f s 0
        have sg := stG_on (f.d0 || flgB s 1) f.d1 f.st h4
        exact ⟨fun h => by simp [h], id, fun _ => ta, fun _ => aheadB_refl _, fun h => by show stG _ _ f.st = 4; rw [h]; exact stG_4 _ _, t, b0, hw, b1, life_on hk (by rcases sg with h | h | h | h; exact .inl (.inl h); exact .inl (.inr h); exact .inr ⟨k1, .inl h⟩; exact .inr ⟨k1, .inr h⟩), nb _⟩
      · have t := topI_range f s 1 b0
        have ta := topI_ahead f s 1
        have sg := stG_on f.d0 (f.d1 || flgB s 1) f.st h4
        exact ⟨id, fun h => by simp [h], fun _ => aheadB_refl _, fun _ => ta, fun h => by show stG _ _ f.st = 4; rw [h]; exact stG_4 _ _, a0, t, a1, hw, life_on hk (by rcases sg with h | h | h | h; exact .inl (.inl h); exact .inl (.inr h); exact .inr ⟨k1, .inl h⟩; exact .inr ⟨k1, .inr h⟩), nb _⟩
    · rename_i h1
      have h1 : f.st = 1 := Decidable.not_not.1 h1
      split
      · exact { keep with v0 := hw, br := nb _ }
      · exact { keep with h0 := fun h => absurd h1 h, h1 := fun h => absurd h1 h, st := fun h => by omega, r1 := endI_range s, v1 := hw, lf := life_on hk (.inl (.inr rfl)), br := nb _ }
  · rename_i k1
    have hst : f.st = 1 ∨ f.st = 2 := by omega
    split
    · exact { keep with st := fun h => by omega, lf := life_on hk (.inl (.inr rfl)), br := fun h => hbr h }
    · exact keep
theorem step_keeps {f : Fl} {s : Sg} {side now : Int} (h : stpE f s side now = 0) : Kept f (stpF f s side now) now := by
  obtain ⟨hs, hc, hd, ht, hy⟩ := stpE_ok h
  obtain ⟨hn, hsg, _⟩ := sdE_ok hd
  obtain ⟨_, _, hw, _, _, _⟩ := fitB_of (sgErr_ok hsg).2.2.2.1
  have ok := said_ok hs hc hw
  have same := sayF_same f s side
  obtain ⟨hky, hfi, hbr, hec⟩ := chkE_ok hc
  obtain ⟨l0, ⟨a0, a1⟩, ⟨b0, b1⟩, u0, p0, n0⟩ := fiB_of hfi
  rw [show stpF f s side now = chgF (sayF f s side) now by unfold stpF; rw [if_pos h]]
  generalize sayF f s side = g at ok same
  obtain ⟨e1, e2, e3, e4⟩ := same
  have lp := life_pos ok.lf
  have lr := lifeI_range f.key.kind g.st
  have ht1 : ¬ f.unt ≤ now := fun h => ht (.inl h)
  have ht2 : ¬ f.stp = 1000000 := fun h => ht (.inr h)
  refine ⟨?_, e2, e3, by show g.stp + 1 = _; rw [e1], ?_, ht1, ok.d0, ok.d1, ok.h0, ok.h1, ok.st, ok.r0, ok.r1, a0, b0, p0⟩
  · unfold chkE
    have hfi' : fiB (chgF g now) = true := by
      unfold fiB
      show (decide (¬ lifeI g.key.kind g.st = 0) && (inR g.h0 0 4294967295 && inR g.w0 0 65535) && (inR g.h1 0 4294967295 && inR g.w1 0 65535) && inR (now + lifeI g.key.kind g.st) 0 2000000 && inR (g.stp + 1) 1 1000000 && inR g.num (-1) 200) = true
      rw [e2, e3, e1, decide_eq_true ok.lf, inR_yes ok.r0.1 ok.r0.2, inR_yes ok.v0.1 ok.v0.2, inR_yes ok.r1.1 ok.r1.2, inR_yes ok.v1.1 ok.v1.2, inR_yes (by omega) (by omega), inR_yes (by omega) (by omega), inR_yes n0.1 n0.2]
      rfl
    rw [if_neg (by rw [show kyB (chgF g now).key = kyB g.key from rfl, e2, hky, hfi']; decide), if_neg, if_neg]
    · rintro ⟨h1, h2⟩
      rw [show (chgF g now).key = g.key from rfl, e2] at h1 h2
      exact h2 (hec h1)
    · rintro ⟨h1, h2⟩
      rw [show (chgF g now).key = g.key from rfl, e2] at h1
      rw [show bareB (chgF g now) = bareB g from rfl, ok.br h1] at h2
      cases h2
  · show ¬ now + lifeI g.key.kind g.st ≤ now
    rw [e2]; omega
/-- The law's own key, segments and flows. -/
def kpK : Ky := { kind := 2, src := 1, frm := 2, dst := 3, too := 4 }
def kpS : Sg := { frm := 2, too := 4, seq := 0, ack := 0, win := 0, flg := 0, body := [] }
def kpT : Sg := { frm := 4, too := 2, seq := 0, ack := 0, win := 0, flg := 0, body := [] }
def kpF : Fl := { key := kpK, st := 1, unt := 37, stp := 1, h0 := 0, h1 := 0, w0 := 0, w1 := 0, d0 := false, d1 := false, num := 0 }
def kpG : Fl := { key := kpK, st := 2, unt := 68, stp := 2, h0 := 0, h1 := 0, w0 := 0, w1 := 0, d0 := false, d1 := false, num := 0 }
theorem kp_beg : begE kpK kpS 0 7 = 0 ∧ begF kpK kpS 0 7 = kpF := by
  have h : begE kpK kpS 0 7 = 0 := by decide
  refine ⟨h, ?_⟩
  unfold begF; rw [if_pos h]; rfl
theorem kp_stp : stpE kpF kpT 1 8 = 0 ∧ stpF kpF kpT 1 8 = kpG := by
  have h : stpE kpF kpT 1 8 = 0 := by decide
  refine ⟨h, ?_⟩
  unfold stpF; rw [if_pos h]; rfl
end Go.Proofs.YtiigoeecklelpaaDoor
