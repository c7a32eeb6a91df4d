/- What Step of package track returns, for every flow, segment, side and time, where the table of lives holds what the rows lay. -/
import Derived.Test.YtdhjfjnjdkmhjaaDoorMgK
import Derived.Test.YtdhjfjnjdkmhjaaDoorTrkStp1
import Derived.Test.YtdhjfjnjdkmhjaaDoorTrkStp2
import Derived.Test.YtdhjfjnjdkmhjaaDoorTrkStp3
import Derived.Test.YtdhjfjnjdkmhjaaDoorTrkStp4
namespace Go.Proofs.YtdhjfjnjdkmhjaaDoor
open Go.RowKit
set_option linter.unusedVariables false

theorem goF_same (f : Fl) (s : Sg) (side : Int) : (goF f s side).stp = f.stp ∧ (goF f s side).key = f.key ∧ (goF f s side).num = f.num ∧ (goF f s side).unt = f.unt := by
  unfold goF; split <;> exact ⟨rfl, rfl, rfl, rfl⟩
theorem strF_same (f : Fl) (s : Sg) (side : Int) : (strF f s side).stp = f.stp ∧ (strF f s side).key = f.key ∧ (strF f s side).num = f.num ∧ (strF f s side).unt = f.unt := by
  unfold strF
  split
  · exact ⟨rfl, rfl, rfl, rfl⟩
  split
  · exact goF_same f s side
  split <;> exact ⟨rfl, rfl, rfl, rfl⟩
theorem sayF_same (f : Fl) (s : Sg) (side : Int) : (sayF f s side).stp = f.stp ∧ (sayF f s side).key = f.key ∧ (sayF f s side).num = f.num ∧ (sayF f s side).unt = f.unt := by
  unfold sayF
  split
  · exact strF_same f s side
  split <;> exact ⟨rfl, rfl, rfl, rfl⟩
theorem stpF_no {f : Fl} {s : Sg} {side now z : Int} (h : stpE f s side now = z) (hz : ¬ z = 0) : stpF f s side now = zeroF := by
  unfold stpF; rw [if_neg (by rw [h]; exact hz)]
theorem step_any (f : Fl) (s : Sg) (bv : Value) (side now : Int) (w : World) (hb : Bytes w bv s.body) (hL : Lives w) :
    Calls Tryd.prog 12 #[flV f, segV s bv, .int .i64 side, .int .i64 now] w fun e w' => e = .returned (.tuple #[flV (stpF f s side now), errV (stpE f s side now)]) ∧ Below w.heap.size w w' := by
  obtain ⟨a, c, rfl⟩ := len_body hb
  by_cases hs : side = 0 ∨ side = 1
  case neg =>
    have e : stpE f s side now = 1 := by unfold stpE; rw [if_pos hs]
    rw [stpF_no e (by decide), e, errV_no (by decide)]
    exact step_side f s a _ c side now w hs
  have hs' : ¬ ¬ (side = 0 ∨ side = 1) := fun h => h hs
  by_cases hz : chkE f = 0
  case neg =>
    have e : stpE f s side now = chkE f := by unfold stpE; rw [if_neg hs', if_pos hz]
    rw [stpF_no e hz, e, errV_no hz]
    exact step_chk f s a _ c side now w hs hL _ rfl hz
  have hz' : ¬ ¬ chkE f = 0 := fun h => h hz
  by_cases hd : sdE (sideK f side) s side now = 0
  case neg =>
    have e : stpE f s side now = sdE (sideK f side) s side now := by unfold stpE; rw [if_neg hs', if_neg hz', if_pos hd]
    rw [stpF_no e hd, e, errV_no hd]
    exact step_said f s a _ c side now w hs hb hL hz _ rfl hd
  have hd' : ¬ ¬ sdE (sideK f side) s side now = 0 := fun h => h hd
  by_cases ht : f.unt ≤ now ∨ f.stp = 1000000
  · have e : stpE f s side now = 6 := by unfold stpE; rw [if_neg hs', if_neg hz', if_neg hd', if_pos ht]
    rw [stpF_no e (by decide), e, errV_no (by decide)]
    exact step_late f s a _ c side now w hs hb hL hz hd ht
  cases hy : sayB f s side
  · have e : stpE f s side now = 6 := by unfold stpE; rw [if_neg hs', if_neg hz', if_neg hd', if_neg ht, if_pos hy]
    rw [stpF_no e (by decide), e, errV_no (by decide)]
    exact step_no f s a _ c side now w hs hb hL hz hd ht hy
  · have e : stpE f s side now = 0 := by unfold stpE; rw [if_neg hs', if_neg hz', if_neg hd', if_neg ht, if_neg (by rw [hy]; decide)]
    rw [show stpF f s side now = chgF (sayF f s side) now by unfold stpF; rw [if_pos e], e, errV_ok]
    exact step_ok f s a _ c side now w hs hb hL hz hd ht hy (sayF_same f s side).1
end Go.Proofs.YtdhjfjnjdkmhjaaDoor
