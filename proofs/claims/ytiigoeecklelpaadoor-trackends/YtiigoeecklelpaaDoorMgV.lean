/- What Step of package track returns, for every flow, segment, side and time, where the table of lives holds what the rows lay. -/
import Derived.Test.YtiigoeecklelpaaDoorTrkStp0
import Derived.Test.YtiigoeecklelpaaDoorTrkStp1
import Derived.Test.YtiigoeecklelpaaDoorTrkStp2
import Derived.Test.YtiigoeecklelpaaDoorTrkStp3
import Derived.Test.YtiigoeecklelpaaDoorTrkStp4
namespace Go.Proofs.YtiigoeecklelpaaDoor
open Go.RowKit
set_option linter.unusedVariables false

theorem goF_same (f : Fl) (s : Sg) (side : Int) : (goF f s side).stp = f.stp ∧ (goF f s side).key = f.key ∧ (goF f s side).num = f.num ∧ (goF f s side).unt = f.unt := by
  unfold goF; split <;> exact ⟨rfl, rfl, rfl, rfl⟩
theorem strF_same (f : Fl) (s : Sg) (side : Int) : (strF f s side).stp = f.stp ∧ (strF f s side).key = f.key ∧ (strF f s side).num = f.num ∧ (strF f s side).unt = f.unt := by
  unfold strF
  split
  · exact ⟨rfl, rfl, rfl, rfl⟩
  split
  · exact goF_same f s side
  split <;> exact ⟨rfl, rfl, rfl, rfl⟩
theorem sayF_same (f : Fl) (s : Sg) (side : Int) : (sayF f s side).stp = f.stp ∧ (sayF f s side).key = f.key ∧ (sayF f s side).num = f.num ∧ (sayF f s side).unt = f.unt := by
  unfold sayF
  split
  · exact strF_same f s side
  split <;> exact ⟨rfl, rfl, rfl, rfl⟩
theorem stpF_no {f : Fl} {s : Sg} {side now z : Int} (h : stpE f s side now = z) (hz : ¬ z = 0) : stpF f s side now = zeroF := by
  unfold stpF; rw [if_neg (by rw [h]; exact hz)]
theorem step_any (f : Fl) (s : Sg) (bv : Value) (side now : Int) (w : World) (hb : Bytes w bv s.body) (hL : Lives w) :
    Calls Tryd.prog 13 #[flV f, segV s bv, .int .i64 side, .int .i64 now] w fun e w' => e = .returned (.tuple #[flV (stpF f s side now), errV (stpE f s side now)]) ∧ Below w.heap.size w w' := by
  obtain ⟨a, c, rfl⟩ := len_body hb
  by_cases hs : side = 0 ∨ side = 1
  case neg =>
    have e : stpE f s side now = 1 := by unfold stpE; rw [if_pos hs]
    rw [stpF_no e (by decide), e, errV_no (by decide)]
    exact step_side f s a _ c side now w hs
  have hs' : ¬ ¬ (side = 0 ∨ side = 1) := fun h => h hs
  by_cases hz : chkE f = 0
  case neg =>
    have e : stpE f s side now = chkE f := by unfold stpE; rw [if_neg hs', if_pos hz]
    rw [stpF_no e hz, e, errV_no hz]
    exact step_chk f s a _ c side now w hs hL _ rfl hz
  have hz' : ¬ ¬ chkE f = 0 := fun h => h hz
  by_cases hd : sdE (sideK f side) s side now = 0
  case neg =>
    have e : stpE f s side now = sdE (sideK f side) s side now := by unfold stpE; rw [if_neg hs', if_neg hz', if_pos hd]
    rw [stpF_no e hd, e, errV_no hd]
    exact step_said f s a _ c side now w hs hb hL hz _ rfl hd
  have hd' : ¬ ¬ sdE (sideK f side) s side now = 0 := fun h => h hd
  by_cases ht : f.unt ≤ now ∨ f.stp = 1000000
  · have e : stpE f s side now = 6 := by unfold stpE; rw [if_neg hs', if_neg hz', if_neg hd', if_pos ht]
    rw [stpF_no e (by decide), e, errV_no (by decide)]
    exact step_late f s a _ c side now w hs hb hL hz hd ht
  cases hy : sayB f s side
  · have e : stpE f s side now = 6 := by unfold stpE; rw [if_neg hs', if_neg hz', if_neg hd', if_neg ht, if_pos hy]
    rw [stpF_no e (by decide), e, errV_no (by decide)]
    exact step_no f s a _ c side now w hs hb hL hz hd ht hy
  · have e : stpE f s side now = 0 := by unfold stpE; rw [if_neg hs', if_neg hz', if_neg hd', if_neg ht, if_neg (by rw [hy]; decide)]
    rw [show stpF f s side now = chgF (sayF f s side) now by unfold stpF; rw [if_pos e], e, errV_ok]
    exact step_ok f s a _ c side now w hs hb hL hz hd ht hy (sayF_same f s side).1
end Go.Proofs.YtiigoeecklelpaaDoor

namespace Go.Proofs.YtiigoeecklelpaaDoor
set_option linter.unusedVariables false

theorem stpE_ok {f : Fl} {s : Sg} {side now : Int} (h : stpE f s side now = 0) :
    (side = 0 ∨ side = 1) ∧ chkE f = 0 ∧ sdE (sideK f side) s side now = 0 ∧ ¬ (f.unt ≤ now ∨ f.stp = 1000000) ∧ sayB f s side = true := by
  unfold stpE at h
  split at h
  · cases h
  split at h
  · contradiction
  split at h
  · contradiction
  split at h
  · cases h
  split at h
  · cases h
  · rename_i h1 h2 h3 h4 h5
    exact ⟨Decidable.not_not.1 h1, Decidable.not_not.1 h2, Decidable.not_not.1 h3, h4, by simpa using h5⟩
theorem life_kinds {k st : Int} (hk : 1 ≤ k ∧ k ≤ 3) (h : ¬ lifeI k st = 0) : (st = 1 ∨ st = 2) ∨ (k = 1 ∧ (st = 3 ∨ st = 4)) := by
  unfold lifeI at h
  repeat' split at h
  all_goals omega
theorem life_on {k st : Int} (hk : 1 ≤ k ∧ k ≤ 3) (h : (st = 1 ∨ st = 2) ∨ (k = 1 ∧ (st = 3 ∨ st = 4))) : ¬ lifeI k st = 0 := by
  have : k = 1 ∨ k = 2 ∨ k = 3 := by omega
  rcases this with rfl | rfl | rfl <;> rcases h with (rfl | rfl) | ⟨h, rfl | rfl⟩ <;> first | decide | (exfalso; omega)
theorem life_pos {k st : Int} (h : ¬ lifeI k st = 0) : 10 ≤ lifeI k st := by
  unfold lifeI at *
  repeat' split at h
  all_goals first | (exfalso; omega) | skip
  all_goals simp_all
theorem stG_on (d0 d1 : Bool) (st : Int) (h : st = 1 ∨ st = 2 ∨ st = 3 ∨ st = 4) : stG d0 d1 st = 1 ∨ stG d0 d1 st = 2 ∨ stG d0 d1 st = 3 ∨ stG d0 d1 st = 4 := by
  unfold stG; repeat' split
  all_goals omega
theorem stG_4 (d0 d1 : Bool) : stG d0 d1 4 = 4 := by
  unfold stG; repeat' split
  all_goals omega
/-- What is said does not go back. -/
def aheadB (a b : Int) : Prop := (b - a) % 4294967296 < 2147483648
theorem aheadB_refl (a : Int) : aheadB a a := by unfold aheadB; omega
theorem topI_ahead (f : Fl) (s : Sg) (side : Int) : aheadB (hiF f side) (topI f s side) := by
  unfold topI aheadB
  split
  · rename_i h
    unfold ahB at h
    have := of_decide_eq_true h
    omega
  · omega
theorem topI_range (f : Fl) (s : Sg) (side : Int) (h : 0 ≤ hiF f side ∧ hiF f side ≤ 4294967295) : 0 ≤ topI f s side ∧ topI f s side ≤ 4294967295 := by
  unfold topI
  split
  · exact endI_range s
  · exact h
/-- What a step keeps. -/
structure Kept (f g : Fl) (now : Int) : Prop where
  chk : chkE g = 0
  key : g.key = f.key
  num : g.num = f.num
  stp : g.stp = f.stp + 1
  unt : ¬ g.unt ≤ now
  old : ¬ f.unt ≤ now
  d0 : f.d0 = true → g.d0 = true
  d1 : f.d1 = true → g.d1 = true
  h0 : ¬ f.st = 1 → aheadB f.h0 g.h0
  h1 : ¬ f.st = 1 → aheadB f.h1 g.h1
  st : f.st = 4 → g.st = 4
  r0 : 0 ≤ g.h0 ∧ g.h0 ≤ 4294967295
  r1 : 0 ≤ g.h1 ∧ g.h1 ≤ 4294967295
  q0 : 0 ≤ f.h0 ∧ f.h0 ≤ 4294967295
  q1 : 0 ≤ f.h1 ∧ f.h1 ≤ 4294967295
  p : 1 ≤ f.stp ∧ f.stp ≤ 1000000
theorem bareB_of {f : Fl} (h : bareB f = true) : f.h0 = 0 ∧ f.h1 = 0 ∧ f.w0 = 0 ∧ f.w1 = 0 ∧ f.d0 = false ∧ f.d1 = false := by
  unfold bareB at h; exact of_decide_eq_true h
/-- What is said of a flow that may be is one that may be, but for its time. -/
structure SaidOk (f g : Fl) : Prop where
  d0 : f.d0 = true → g.d0 = true
  d1 : f.d1 = true → g.d1 = true
  h0 : ¬ f.st = 1 → aheadB f.h0 g.h0
  h1 : ¬ f.st = 1 → aheadB f.h1 g.h1
  st : f.st = 4 → g.st = 4
  r0 : 0 ≤ g.h0 ∧ g.h0 ≤ 4294967295
  r1 : 0 ≤ g.h1 ∧ g.h1 ≤ 4294967295
  v0 : 0 ≤ g.w0 ∧ g.w0 ≤ 65535
  v1 : 0 ≤ g.w1 ∧ g.w1 ≤ 65535
  lf : ¬ lifeI f.key.kind g.st = 0
  br : ¬ f.key.kind = 1 → bareB g = true
theorem said_ok {f : Fl} {s : Sg} {side : Int} (hs : side = 0 ∨ side = 1) (hc : chkE f = 0) (hw : 0 ≤ s.win ∧ s.win ≤ 65535) : SaidOk f (sayF f s side) := by
  obtain ⟨hky, hfi, hbr, _⟩ := chkE_ok hc
  obtain ⟨l0, ⟨a0, a1⟩, ⟨b0, b1⟩, _, _, _⟩ := fiB_of hfi
  have hk := (kyB_of hky).1
  have hst := life_kinds hk l0
  have keep : SaidOk f f := ⟨id, id, fun _ => aheadB_refl _, fun _ => aheadB_refl _, id, a0, b0, a1, b1, l0, hbr⟩
  unfold sayF
  split
  · rename_i k1
    have nb : ∀ g : Fl, ¬ f.key.kind = 1 → bareB g = true := fun g h => absurd k1 h
    unfold strF
    split
    · exact { keep with st := fun _ => rfl, lf := life_on hk (.inr ⟨k1, .inr rfl⟩), br := nb _ }
    split
    · rename_i h1
      have h4 : f.st = 1 ∨ f.st = 2 ∨ f.st = 3 ∨ f.st = 4 := by omega
      unfold goF
      split
      · have t := topI_range f s 0 a0
        have ta := topI_ahead f s 0
        have sg := stG_on (f.d0 || flgB s 1) f.d1 f.st h4
        exact ⟨fun h => by simp [h], id, fun _ => ta, fun _ => aheadB_refl _, fun h => by show stG _ _ f.st = 4; rw [h]; exact stG_4 _ _, t, b0, hw, b1, life_on hk (by rcases sg with h | h | h | h; exact .inl (.inl h); exact .inl (.inr h); exact .inr ⟨k1, .inl h⟩; exact .inr ⟨k1, .inr h⟩), nb _⟩
      · have t := topI_range f s 1 b0
        have ta := topI_ahead f s 1
        have sg := stG_on f.d0 (f.d1 || flgB s 1) f.st h4
        exact ⟨id, fun h => by simp [h], fun _ => aheadB_refl _, fun _ => ta, fun h => by show stG _ _ f.st = 4; rw [h]; exact stG_4 _ _, a0, t, a1, hw, life_on hk (by rcases sg with h | h | h | h; exact .inl (.inl h); exact .inl (.inr h); exact .inr ⟨k1, .inl h⟩; exact .inr ⟨k1, .inr h⟩), nb _⟩
    · rename_i h1
      have h1 : f.st = 1 := Decidable.not_not.1 h1
      split
      · exact { keep with v0 := hw, br := nb _ }
      · exact { keep with h0 := fun h => absurd h1 h, h1 := fun h => absurd h1 h, st := fun h => by omega, r1 := endI_range s, v1 := hw, lf := life_on hk (.inl (.inr rfl)), br := nb _ }
  · rename_i k1
    have hst : f.st = 1 ∨ f.st = 2 := by omega
    split
    · exact { keep with st := fun h => by omega, lf := life_on hk (.inl (.inr rfl)), br := fun h => hbr h }
    · exact keep
theorem step_keeps {f : Fl} {s : Sg} {side now : Int} (h : stpE f s side now = 0) : Kept f (stpF f s side now) now := by
  obtain ⟨hs, hc, hd, ht, hy⟩ := stpE_ok h
  obtain ⟨hn, hsg, _⟩ := sdE_ok hd
  obtain ⟨_, _, hw, _, _, _⟩ := fitB_of (sgErr_ok hsg).2.2.2.1
  have ok := said_ok hs hc hw
  have same := sayF_same f s side
  obtain ⟨hky, hfi, hbr, hec⟩ := chkE_ok hc
  obtain ⟨l0, ⟨a0, a1⟩, ⟨b0, b1⟩, u0, p0, n0⟩ := fiB_of hfi
  rw [show stpF f s side now = chgF (sayF f s side) now by unfold stpF; rw [if_pos h]]
  generalize sayF f s side = g at ok same
  obtain ⟨e1, e2, e3, e4⟩ := same
  have lp := life_pos ok.lf
  have lr := lifeI_range f.key.kind g.st
  have ht1 : ¬ f.unt ≤ now := fun h => ht (.inl h)
  have ht2 : ¬ f.stp = 1000000 := fun h => ht (.inr h)
  refine ⟨?_, e2, e3, by show g.stp + 1 = _; rw [e1], ?_, ht1, ok.d0, ok.d1, ok.h0, ok.h1, ok.st, ok.r0, ok.r1, a0, b0, p0⟩
  · unfold chkE
    have hfi' : fiB (chgF g now) = true := by
      unfold fiB
      show (decide (¬ lifeI g.key.kind g.st = 0) && (inR g.h0 0 4294967295 && inR g.w0 0 65535) && (inR g.h1 0 4294967295 && inR g.w1 0 65535) && inR (now + lifeI g.key.kind g.st) 0 2000000 && inR (g.stp + 1) 1 1000000 && inR g.num (-1) 200) = true
      rw [e2, e3, e1, decide_eq_true ok.lf, inR_yes ok.r0.1 ok.r0.2, inR_yes ok.v0.1 ok.v0.2, inR_yes ok.r1.1 ok.r1.2, inR_yes ok.v1.1 ok.v1.2, inR_yes (by omega) (by omega), inR_yes (by omega) (by omega), inR_yes n0.1 n0.2]
      rfl
    rw [if_neg (by rw [show kyB (chgF g now).key = kyB g.key from rfl, e2, hky, hfi']; decide), if_neg, if_neg]
    · rintro ⟨h1, h2⟩
      rw [show (chgF g now).key = g.key from rfl, e2] at h1 h2
      exact h2 (hec h1)
    · rintro ⟨h1, h2⟩
      rw [show (chgF g now).key = g.key from rfl, e2] at h1
      rw [show bareB (chgF g now) = bareB g from rfl, ok.br h1] at h2
      cases h2
  · show ¬ now + lifeI g.key.kind g.st ≤ now
    rw [e2]; omega
/-- The law's own key, segments and flows. -/
def kpK : Ky := { kind := 2, src := 1, frm := 2, dst := 3, too := 4 }
def kpS : Sg := { frm := 2, too := 4, seq := 0, ack := 0, win := 0, flg := 0, body := [] }
def kpT : Sg := { frm := 4, too := 2, seq := 0, ack := 0, win := 0, flg := 0, body := [] }
def kpF : Fl := { key := kpK, st := 1, unt := 37, stp := 1, h0 := 0, h1 := 0, w0 := 0, w1 := 0, d0 := false, d1 := false, num := 0 }
def kpG : Fl := { key := kpK, st := 2, unt := 68, stp := 2, h0 := 0, h1 := 0, w0 := 0, w1 := 0, d0 := false, d1 := false, num := 0 }
theorem kp_beg : begE kpK kpS 0 7 = 0 ∧ begF kpK kpS 0 7 = kpF := by
  have h : begE kpK kpS 0 7 = 0 := by decide
  refine ⟨h, ?_⟩
  unfold begF; rw [if_pos h]; rfl
theorem kp_stp : stpE kpF kpT 1 8 = 0 ∧ stpF kpF kpT 1 8 = kpG := by
  have h : stpE kpF kpT 1 8 = 0 := by decide
  refine ⟨h, ?_⟩
  unfold stpF; rw [if_pos h]; rfl
end Go.Proofs.YtiigoeecklelpaaDoor

namespace Go.Proofs.YtiigoeecklelpaaDoor
set_option linter.unusedVariables false

theorem stp_is {f g : Fl} {s : Sg} {side now : Int} (hs : side = 0 ∨ side = 1) (hc : chkE f = 0) (hd : sdE (sideK f side) s side now = 0) (ht : now < f.unt) (hp : f.stp < 1000000) (hy : sayB f s side = true) (hg : chgF (sayF f s side) now = g) :
    stpE f s side now = 0 ∧ stpF f s side now = g ∧ chkE g = 0 := by
  have e : stpE f s side now = 0 := by
    unfold stpE
    rw [if_neg (fun h => h hs), if_neg (fun h => h hc), if_neg (fun h => h hd), if_neg (by omega), if_neg (by rw [hy]; decide)]
  have e2 : stpF f s side now = g := by unfold stpF; rw [if_pos e]; exact hg
  exact ⟨e, e2, by rw [← e2]; exact (step_keeps e).chk⟩
theorem stp_not {f : Fl} {s : Sg} {side now : Int} (hs : side = 0 ∨ side = 1) (hc : chkE f = 0) (hd : sdE (sideK f side) s side now = 0) (ht : now < f.unt) (hp : f.stp < 1000000) (hy : sayB f s side = false) :
    stpE f s side now = 6 := by
  unfold stpE
  rw [if_neg (fun h => h hs), if_neg (fun h => h hc), if_neg (fun h => h hd), if_neg (by omega), if_pos hy]
theorem said_is {k : Ky} {s : Sg} {side now : Int} (hn : 0 ≤ now ∧ now ≤ 1000000) (hs : sgErr k.kind s k.src k.dst = 0) (ho : ofB k s side = true) : sdE k s side now = 0 := by
  unfold sdE
  rw [if_neg (by rw [inR_yes hn.1 hn.2]; decide), if_neg (fun h => h hs), if_neg (by rw [ho]; decide)]
theorem seg_is {s : Sg} {src dst : Int} (h0 : 0 ≤ src ∧ src ≤ 4294967295) (h1 : 0 ≤ dst ∧ dst ≤ 4294967295) (f : 0 ≤ s.frm ∧ s.frm ≤ 65535) (t : 0 ≤ s.too ∧ s.too ≤ 65535) (q : 0 ≤ s.seq ∧ s.seq ≤ 4294967295) (a : 0 ≤ s.ack ∧ s.ack ≤ 4294967295) (n : 0 ≤ s.win ∧ s.win ≤ 65535) (g : 0 ≤ s.flg ∧ s.flg ≤ 15) (l : s.body.length ≤ 100) : sgErr 1 s src dst = 0 := by
  unfold sgErr
  rw [if_neg, if_neg, if_neg]
  · rw [show hdN 1 = 17 from rfl]; omega
  · unfold lackB; simp
  · have : fitB 1 s = true := by
      unfold fitB
      rw [show frmB 1 s.frm = upB s.frm 65535 from rfl, show seqM 1 = 4294967295 from rfl, upB_yes f.1 f.2, upB_yes t.1 t.2, upB_yes n.1 n.2, upB_yes q.1 q.2, upB_yes a.1 a.2, upB_yes g.1 g.2]; rfl
    rw [this, upB_yes h0.1 h0.2, upB_yes h1.1 h1.2]; decide
theorem say_go {f : Fl} {s : Sg} {side : Int} (hk : f.key.kind = 1) (h4 : flgB s 4 = false) (hst : ¬ f.st = 1) : sayB f s side = goB f s side ∧ sayF f s side = goF f s side := by
  have h4' : ¬ flgB s 4 = true := by rw [h4]; decide
  constructor
  · unfold sayB strB; rw [if_pos hk, if_neg h4', if_pos hst]
  · unfold sayF strF; rw [if_pos hk, if_neg h4', if_pos hst]
theorem say_ask {f : Fl} {s : Sg} (hk : f.key.kind = 1) (h4 : flgB s 4 = false) (hst : f.st = 1) : sayB f s 0 = decide (s.flg = 2 ∧ endI s = f.h0) ∧ sayF f s 0 = { f with w0 := s.win } := by
  have h4' : ¬ flgB s 4 = true := by rw [h4]; decide
  have hs' : ¬ ¬ f.st = 1 := fun h => h hst
  constructor
  · unfold sayB strB; rw [if_pos hk, if_neg h4', if_neg hs', if_pos rfl]
  · unfold sayF strF; rw [if_pos hk, if_neg h4', if_neg hs', if_pos rfl]
theorem say_ans {f : Fl} {s : Sg} (hk : f.key.kind = 1) (h4 : flgB s 4 = false) (hst : f.st = 1) : sayB f s 1 = decide (s.flg = 10 ∧ s.ack = f.h0) ∧ sayF f s 1 = { f with st := 2, h1 := endI s, w1 := s.win } := by
  have h4' : ¬ flgB s 4 = true := by rw [h4]; decide
  have hs' : ¬ ¬ f.st = 1 := fun h => h hst
  have h1 : ¬ (1 : Int) = 0 := by decide
  constructor
  · unfold sayB strB; rw [if_pos hk, if_neg h4', if_neg hs', if_neg h1]
  · unfold sayF strF; rw [if_pos hk, if_neg h4', if_neg hs', if_neg h1]
theorem goF_0 (f : Fl) (s : Sg) : goF f s 0 = { f with h0 := topI f s 0, w0 := s.win, d0 := f.d0 || flgB s 1, st := stG (f.d0 || flgB s 1) f.d1 f.st } := if_pos rfl
theorem goF_1 (f : Fl) (s : Sg) : goF f s 1 = { f with h1 := topI f s 1, w1 := s.win, d1 := f.d1 || flgB s 1, st := stG f.d0 (f.d1 || flgB s 1) f.st } := if_neg (by decide)
/-- The key, the segments and the flows of the law. -/
def enK (a b : Int) : Ky := { kind := 1, src := 1, frm := a, dst := 2, too := b }
def enS (a b q k n g : Int) (l : List Int) : Sg := { frm := a, too := b, seq := q, ack := k, win := n, flg := g, body := l }
def enF (a b st unt stp h0 h1 w1 : Int) (d0 d1 : Bool) : Fl := { key := enK a b, st := st, unt := unt, stp := stp, h0 := h0, h1 := h1, w0 := 100, w1 := w1, d0 := d0, d1 := d1, num := 0 }
section
variable {a b x y now : Int}
theorem en_beg (h : begE (enK a b) (enS a b x 0 100 2 []) 0 now = 0) : (0 ≤ a ∧ a ≤ 65535) ∧ (0 ≤ b ∧ b ≤ 65535) ∧ (0 ≤ x ∧ x ≤ 4294967295) ∧ (0 ≤ now ∧ now ≤ 1000000) ∧
    begF (enK a b) (enS a b x 0 100 2 []) 0 now = enF a b 1 (now + 30) 1 ((x + 1) % 4294967296) 0 0 false false := by
  have hd : sdE (enK a b) (enS a b x 0 100 2 []) 0 now = 0 := by
    unfold begE at h
    rw [if_neg (by decide)] at h
    split at h
    · contradiction
    · rename_i h1; exact Decidable.not_not.1 h1
  obtain ⟨hn, hs, _⟩ := sdE_ok hd
  obtain ⟨f1, f2, f3, f4, f5, f6⟩ := fitB_of (sgErr_ok hs).2.2.2.1
  have f1' := frmB_of f1
  refine ⟨⟨f1'.1, f1'.2.1⟩, f2, ⟨f4.1, f4.2⟩, hn, ?_⟩
  unfold begF
  rw [if_pos h]
  unfold begG enF
  have hk1 : (enK a b).kind = 1 := rfl
  rw [if_pos hk1, if_pos hk1]
  have e : endI (enS a b x 0 100 2 []) = (x + 1) % 4294967296 := by
    unfold endI
    show (x + (0 : Nat) + bI (decide ((2 : Int) / 2 % 2 = 1)) + bI (decide ((2 : Int) / 1 % 2 = 1))) % 4294967296 = _
    rw [show bI (decide ((2 : Int) / 2 % 2 = 1)) = 1 from rfl, show bI (decide ((2 : Int) / 1 % 2 = 1)) = 0 from rfl]
    omega
  rw [e]
  rfl
variable (ha : 0 ≤ a ∧ a ≤ 65535) (hb : 0 ≤ b ∧ b ≤ 65535) (hn : 0 ≤ now ∧ now ≤ 900000)
include ha hb hn
theorem en_chk {p : Int} (hp : 0 ≤ p ∧ p ≤ 4294967295) : chkE (enF a b 1 (now + 30) 1 p 0 0 false false) = 0 := by
  unfold chkE
  have h1 : kyB (enK a b) = true := by
    unfold kyB enK
    simp only
    rw [inR_yes (n := 1) (lo := 1) (hi := 3) (by decide) (by decide), inR_yes (n := 1) (lo := 0) (hi := 4294967295) (by decide) (by decide), inR_yes (n := 2) (lo := 0) (hi := 4294967295) (by decide) (by decide), inR_yes ha.1 ha.2, inR_yes hb.1 hb.2]; rfl
  have h2 : fiB (enF a b 1 (now + 30) 1 p 0 0 false false) = true := by
    unfold fiB enF enK
    simp only
    rw [decide_eq_true (show ¬ lifeI 1 1 = 0 by decide), inR_yes hp.1 hp.2, inR_yes (n := 100) (lo := 0) (hi := 65535) (by decide) (by decide), inR_yes (n := 0) (lo := 0) (hi := 4294967295) (by decide) (by decide), inR_yes (n := 0) (lo := 0) (hi := 65535) (by decide) (by decide), inR_yes (n := now + 30) (by omega) (by omega), inR_yes (n := 1) (lo := 1) (hi := 1000000) (by decide) (by decide), inR_yes (n := 0) (lo := -1) (hi := 200) (by decide) (by decide)]; rfl
  rw [show (enF a b 1 (now + 30) 1 p 0 0 false false).key = enK a b from rfl, h1, h2, if_neg (by decide), if_neg (fun h => h.1 rfl), if_neg (fun h => by have := h.1; simp [enK] at this)]
/-- Said from one side or the other. -/
theorem en_said {q k n g t : Int} {l : List Int} (ht : 0 ≤ t ∧ t ≤ 6) (hq : 0 ≤ q ∧ q ≤ 4294967295) (hk : 0 ≤ k ∧ k ≤ 4294967295) (hw : 0 ≤ n ∧ n ≤ 65535) (hg : 0 ≤ g ∧ g ≤ 15) (hl : l.length ≤ 100) :
    sdE (enK a b) (enS a b q k n g l) 0 (now + t) = 0 ∧ sdE (turnK (enK a b)) (enS b a q k n g l) 1 (now + t) = 0 := by
  constructor
  · exact said_is ⟨by omega, by omega⟩ (seg_is (s := enS a b q k n g l) (show (0 : Int) ≤ 1 ∧ (1 : Int) ≤ 4294967295 by decide) (show (0 : Int) ≤ 2 ∧ (2 : Int) ≤ 4294967295 by decide) ha hb hq hk hw hg hl) (by unfold ofB; rw [if_neg (show ¬ (enK a b).kind = 3 from fun h => by have : (1 : Int) = 3 := h; omega)]; exact decide_eq_true ⟨rfl, rfl⟩)
  · exact said_is ⟨by omega, by omega⟩ (seg_is (s := enS b a q k n g l) (show (0 : Int) ≤ 2 ∧ (2 : Int) ≤ 4294967295 by decide) (show (0 : Int) ≤ 1 ∧ (1 : Int) ≤ 4294967295 by decide) hb ha hq hk hw hg hl) (by unfold ofB; rw [if_neg (show ¬ (turnK (enK a b)).kind = 3 from fun h => by have : (1 : Int) = 3 := h; omega)]; exact decide_eq_true ⟨rfl, rfl⟩)
end
theorem near_same (p : Int) : nearB p p 100 = true := by
  unfold nearB
  rw [upB_yes (by decide) (by decide), Bool.true_and]
  exact decide_eq_true (by omega)
theorem max1_100 : max1 100 = 100 := by decide
theorem ah_is {p d : Int} (h0 : 0 < d) (h1 : d < 1000) : ahB ((p + d) % 4294967296) p = true := by
  unfold ahB; exact decide_eq_true (by omega)
theorem ah_two {p d e : Int} (h0 : d < e) (h1 : e < d + 1000) : ahB ((p + e) % 4294967296) ((p + d) % 4294967296) = true := by
  unfold ahB; exact decide_eq_true (by omega)
theorem end_is (a b q k n g : Int) (l : List Int) : endI (enS a b q k n g l) = (q + (l.length : Int) + bI (decide (g / 2 % 2 = 1)) + bI (decide (g / 1 % 2 = 1))) % 4294967296 := rfl
theorem flg_is (a b q k n g f : Int) (l : List Int) : flgB (enS a b q k n g l) f = decide (g / f % 2 = 1) := rfl
section
variable {a b now p q : Int} (ha : 0 ≤ a ∧ a ≤ 65535) (hb : 0 ≤ b ∧ b ≤ 65535) (hn : 0 ≤ now ∧ now ≤ 900000)
include ha hb hn
/-- The first greeting once more. -/
theorem en_1 {x : Int} (hx : 0 ≤ x ∧ x ≤ 4294967295) : stpE (enF a b 1 (now + 30) 1 ((x + 1) % 4294967296) 0 0 false false) (enS a b x 0 100 2 []) 0 (now + 1) = 0 ∧
    stpF (enF a b 1 (now + 30) 1 ((x + 1) % 4294967296) 0 0 false false) (enS a b x 0 100 2 []) 0 (now + 1) = enF a b 1 (now + 31) 2 ((x + 1) % 4294967296) 0 0 false false ∧ chkE (enF a b 1 (now + 31) 2 ((x + 1) % 4294967296) 0 0 false false) = 0 := by
  have e : endI (enS a b x 0 100 2 []) = (x + 1) % 4294967296 := by rw [end_is]; show (x + (0 : Nat) + 1 + 0) % 4294967296 = _; omega
  refine stp_is (.inl rfl) (en_chk ha hb hn (by omega)) (en_said ha hb hn (by omega) hx (by omega) (by omega) (by omega) (by simp)).1 (by show now + 1 < now + 30; omega) (by show (1 : Int) < _; omega) ?_ ?_
  · rw [(say_ask rfl (by rw [flg_is]; decide) rfl).1]
    exact decide_eq_true ⟨rfl, e⟩
  · rw [(say_ask rfl (by rw [flg_is]; decide) rfl).2]
    unfold chgF enF enS
    simp only [Fl.mk.injEq]
    refine ⟨trivial, trivial, ?_, ?_, trivial, trivial, trivial, trivial, trivial, trivial, trivial⟩
    · show now + 1 + 30 = now + 31; omega
    · decide
/-- The other side's greeting. -/
theorem en_2 {y : Int} (hy : 0 ≤ y ∧ y ≤ 4294967295) (hp : 0 ≤ p ∧ p ≤ 4294967295) (hc : chkE (enF a b 1 (now + 31) 2 p 0 0 false false) = 0) : stpE (enF a b 1 (now + 31) 2 p 0 0 false false) (enS b a y p 100 10 []) 1 (now + 2) = 0 ∧
    stpF (enF a b 1 (now + 31) 2 p 0 0 false false) (enS b a y p 100 10 []) 1 (now + 2) = enF a b 2 (now + 302) 3 p ((y + 1) % 4294967296) 100 false false ∧ chkE (enF a b 2 (now + 302) 3 p ((y + 1) % 4294967296) 100 false false) = 0 := by
  have e : endI (enS b a y p 100 10 []) = (y + 1) % 4294967296 := by rw [end_is]; show (y + (0 : Nat) + 1 + 0) % 4294967296 = _; omega
  refine stp_is (.inr rfl) hc (en_said ha hb hn (by omega) hy hp (by omega) (by omega) (by simp)).2 (by show now + 2 < now + 31; omega) (by show (2 : Int) < _; omega) ?_ ?_
  · rw [(say_ans rfl (by rw [flg_is]; decide) rfl).1]
    exact decide_eq_true ⟨rfl, rfl⟩
  · rw [(say_ans rfl (by rw [flg_is]; decide) rfl).2, e]
    unfold chgF enF enS
    simp only [Fl.mk.injEq]
    refine ⟨trivial, trivial, ?_, ?_, trivial, trivial, trivial, trivial, trivial, trivial, trivial⟩
    · show now + 2 + 300 = now + 302; omega
    · decide
/-- Three bytes. -/
theorem en_3 (hp : 0 ≤ p ∧ p ≤ 4294967295) (hq : 0 ≤ q ∧ q ≤ 4294967295) (hc : chkE (enF a b 2 (now + 302) 3 p q 100 false false) = 0) : stpE (enF a b 2 (now + 302) 3 p q 100 false false) (enS a b p q 100 8 [97, 98, 99]) 0 (now + 3) = 0 ∧
    stpF (enF a b 2 (now + 302) 3 p q 100 false false) (enS a b p q 100 8 [97, 98, 99]) 0 (now + 3) = enF a b 2 (now + 303) 4 ((p + 3) % 4294967296) q 100 false false ∧ chkE (enF a b 2 (now + 303) 4 ((p + 3) % 4294967296) q 100 false false) = 0 := by
  have e : endI (enS a b p q 100 8 [97, 98, 99]) = (p + 3) % 4294967296 := by rw [end_is]; show (p + (3 : Nat) + 0 + 0) % 4294967296 = _; omega
  have t : topI (enF a b 2 (now + 302) 3 p q 100 false false) (enS a b p q 100 8 [97, 98, 99]) 0 = (p + 3) % 4294967296 := by
    unfold topI; rw [e]; exact if_pos (ah_is (p := p) (d := 3) (by omega) (by omega))
  refine stp_is (.inl rfl) hc (en_said ha hb hn (by omega) hp hq (by omega) (by omega) (by simp)).1 (by show now + 3 < now + 302; omega) (by show (3 : Int) < _; omega) ?_ ?_
  · rw [(say_go rfl (by rw [flg_is]; decide) (by show ¬ (2 : Int) = 1; omega)).1]
    unfold goB
    rw [flg_is, flg_is]
    show (!decide ((8 : Int) / 2 % 2 = 1) && nearB p p (max1 100) && (!decide ((8 : Int) / 8 % 2 = 1) || nearB q q (max1 100)) && (!false || _)) = true
    rw [max1_100, near_same, near_same]; rfl
  · rw [(say_go rfl (by rw [flg_is]; decide) (by show ¬ (2 : Int) = 1; omega)).2, goF_0, t, flg_is]
    unfold chgF enF enS
    simp only [Fl.mk.injEq]
    refine ⟨trivial, rfl, ?_, ?_, trivial, trivial, trivial, trivial, rfl, trivial, trivial⟩
    · show now + 3 + 300 = now + 303; omega
    · decide
/-- One side ends. -/
theorem en_4 (hp : 0 ≤ p ∧ p ≤ 4294967295) (hq : 0 ≤ q ∧ q ≤ 4294967295) (hc : chkE (enF a b 2 (now + 303) 4 ((p + 3) % 4294967296) q 100 false false) = 0) : stpE (enF a b 2 (now + 303) 4 ((p + 3) % 4294967296) q 100 false false) (enS a b ((p + 3) % 4294967296) q 100 9 []) 0 (now + 4) = 0 ∧
    stpF (enF a b 2 (now + 303) 4 ((p + 3) % 4294967296) q 100 false false) (enS a b ((p + 3) % 4294967296) q 100 9 []) 0 (now + 4) = enF a b 3 (now + 64) 5 ((p + 4) % 4294967296) q 100 true false ∧ chkE (enF a b 3 (now + 64) 5 ((p + 4) % 4294967296) q 100 true false) = 0 := by
  have e : endI (enS a b ((p + 3) % 4294967296) q 100 9 []) = (p + 4) % 4294967296 := by rw [end_is]; show ((p + 3) % 4294967296 + (0 : Nat) + 0 + 1) % 4294967296 = _; omega
  have t : topI (enF a b 2 (now + 303) 4 ((p + 3) % 4294967296) q 100 false false) (enS a b ((p + 3) % 4294967296) q 100 9 []) 0 = (p + 4) % 4294967296 := by
    unfold topI; rw [e]; exact if_pos (ah_two (p := p) (d := 3) (e := 4) (by omega) (by omega))
  refine stp_is (.inl rfl) hc (en_said ha hb hn (by omega) (by omega) hq (by omega) (by omega) (by simp)).1 (by show now + 4 < now + 303; omega) (by show (4 : Int) < _; omega) ?_ ?_
  · rw [(say_go rfl (by rw [flg_is]; decide) (by show ¬ (2 : Int) = 1; omega)).1]
    unfold goB
    rw [flg_is, flg_is]
    show (!decide ((9 : Int) / 2 % 2 = 1) && nearB ((p + 3) % 4294967296) ((p + 3) % 4294967296) (max1 100) && (!decide ((9 : Int) / 8 % 2 = 1) || nearB q q (max1 100)) && (!false || _)) = true
    rw [max1_100, near_same, near_same]; rfl
  · rw [(say_go rfl (by rw [flg_is]; decide) (by show ¬ (2 : Int) = 1; omega)).2, goF_0, t, flg_is]
    unfold chgF enF enS
    simp only [Fl.mk.injEq]
    refine ⟨trivial, rfl, ?_, ?_, trivial, trivial, trivial, trivial, rfl, trivial, trivial⟩
    · show now + 4 + 60 = now + 64; omega
    · decide
/-- The other one, too. -/
theorem en_5 (hp : 0 ≤ p ∧ p ≤ 4294967295) (hq : 0 ≤ q ∧ q ≤ 4294967295) (hc : chkE (enF a b 3 (now + 64) 5 ((p + 4) % 4294967296) q 100 true false) = 0) : stpE (enF a b 3 (now + 64) 5 ((p + 4) % 4294967296) q 100 true false) (enS b a q ((p + 4) % 4294967296) 100 9 []) 1 (now + 5) = 0 ∧
    stpF (enF a b 3 (now + 64) 5 ((p + 4) % 4294967296) q 100 true false) (enS b a q ((p + 4) % 4294967296) 100 9 []) 1 (now + 5) = enF a b 4 (now + 15) 6 ((p + 4) % 4294967296) ((q + 1) % 4294967296) 100 true true ∧ chkE (enF a b 4 (now + 15) 6 ((p + 4) % 4294967296) ((q + 1) % 4294967296) 100 true true) = 0 := by
  have e : endI (enS b a q ((p + 4) % 4294967296) 100 9 []) = (q + 1) % 4294967296 := by rw [end_is]; show (q + (0 : Nat) + 0 + 1) % 4294967296 = _; omega
  have t : topI (enF a b 3 (now + 64) 5 ((p + 4) % 4294967296) q 100 true false) (enS b a q ((p + 4) % 4294967296) 100 9 []) 1 = (q + 1) % 4294967296 := by
    unfold topI; rw [e]; exact if_pos (ah_is (p := q) (d := 1) (by omega) (by omega))
  refine stp_is (.inr rfl) hc (en_said ha hb hn (by omega) hq (by omega) (by omega) (by omega) (by simp)).2 (by show now + 5 < now + 64; omega) (by show (5 : Int) < _; omega) ?_ ?_
  · rw [(say_go rfl (by rw [flg_is]; decide) (by show ¬ (3 : Int) = 1; omega)).1]
    unfold goB
    rw [flg_is, flg_is]
    show (!decide ((9 : Int) / 2 % 2 = 1) && nearB q q (max1 100) && (!decide ((9 : Int) / 8 % 2 = 1) || nearB ((p + 4) % 4294967296) ((p + 4) % 4294967296) (max1 100)) && (!false || _)) = true
    rw [max1_100, near_same, near_same]; rfl
  · rw [(say_go rfl (by rw [flg_is]; decide) (by show ¬ (3 : Int) = 1; omega)).2, goF_1, t, flg_is]
    unfold chgF enF enS
    simp only [Fl.mk.injEq]
    refine ⟨trivial, rfl, ?_, ?_, trivial, trivial, trivial, trivial, trivial, rfl, trivial⟩
    · show now + 5 + 10 = now + 15; omega
    · decide
/-- Nothing more. -/
theorem en_6 (hp : 0 ≤ p ∧ p ≤ 4294967295) {h1 : Int} (hc : chkE (enF a b 4 (now + 15) 6 ((p + 4) % 4294967296) h1 100 true true) = 0) : stpE (enF a b 4 (now + 15) 6 ((p + 4) % 4294967296) h1 100 true true) (enS a b ((p + 4) % 4294967296) 0 1 0 [120]) 0 (now + 6) = 6 := by
  have e : endI (enS a b ((p + 4) % 4294967296) 0 1 0 [120]) = (p + 5) % 4294967296 := by rw [end_is]; show ((p + 4) % 4294967296 + (1 : Nat) + 0 + 0) % 4294967296 = _; omega
  refine stp_not (.inl rfl) hc (en_said ha hb hn (by omega) (by omega) (by omega) (by omega) (by omega) (by simp)).1 (by show now + 6 < now + 15; omega) (by show (6 : Int) < _; omega) ?_
  rw [(say_go rfl (by rw [flg_is]; decide) (by show ¬ (4 : Int) = 1; omega)).1]
  unfold goB
  rw [e]
  show (_ && (!true || !ahB ((p + 5) % 4294967296) ((p + 4) % 4294967296))) = false
  rw [ah_two (p := p) (d := 4) (e := 5) (by omega) (by omega)]
  simp
end
end Go.Proofs.YtiigoeecklelpaaDoor
