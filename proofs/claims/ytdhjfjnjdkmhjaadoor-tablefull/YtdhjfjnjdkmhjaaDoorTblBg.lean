/- What Begin of package table returns, and what it leaves, for every table, key, segment, rule and time. -/
import Derived.Test.YtdhjfjnjdkmhjaaDoorTblBg1
import Derived.Test.YtdhjfjnjdkmhjaaDoorTblBg2
import Derived.Test.YtdhjfjnjdkmhjaaDoorTblBg3
namespace Go.Proofs.YtdhjfjnjdkmhjaaDoor
open Go.RowKit Go.Maps
set_option linter.unusedVariables false


theorem tbegin_any (b m : Nat) (t : Tb) (k : Ky) (s : Sg) (bv : Value) (rule now : Int) (w : World) (h : TbAt w b m t) (ok : TbOk t) (hk : KyOk k) (hb : Bytes w bv s.body) (hL : Lives w) :
    Calls Tryd.prog 16 #[.pointer (some ⟨b, 0, none⟩), keyV k, segV s bv, .int .i64 rule, .int .i64 now] w fun e w' => e = .returned (.tuple #[flV (tbF t k s rule now), errV (tbE t k s rule now)]) ∧ (∃ m', TbAt w' b m' (tbS t k s rule now)) ∧ w.grownBy w' (some b) := by
  obtain ⟨a, c, rfl⟩ := len_body hb
  have no : ∀ z : Int, ¬ z = 0 → tbE t k s rule now = z → Calls Tryd.prog 16 #[.pointer (some ⟨b, 0, none⟩), keyV k, segV s (.slice a s.body.length c), .int .i64 rule, .int .i64 now] w (fun e w' => e = .returned (.tuple #[flV zeroF, .iface 59 (.int .i64 z)]) ∧ Below w.heap.size w w') → Calls Tryd.prog 16 #[.pointer (some ⟨b, 0, none⟩), keyV k, segV s (.slice a s.body.length c), .int .i64 rule, .int .i64 now] w (fun e w' => e = .returned (.tuple #[flV (tbF t k s rule now), errV (tbE t k s rule now)]) ∧ (∃ m', TbAt w' b m' (tbS t k s rule now)) ∧ w.grownBy w' (some b)) := by
    intro z h0 he hc
    have e0 : ¬ tbE t k s rule now = 0 := by rw [he]; exact h0
    refine hc.mono fun e w' ⟨h1, h2⟩ => ?_
    refine ⟨?_, ?_⟩
    · rw [h1, he, errV_no h0]; unfold tbF; rw [if_neg e0]
    · unfold tbS; rw [if_neg e0]; exact said_no h h2
  by_cases hz : timE t now = 0
  case neg =>
    exact no _ hz (by unfold tbE; rw [if_pos hz]) (bg_time b m t k s a _ c rule now w h ok hk hb hL _ rfl hz)
  by_cases hbe : begE k s rule now = 0
  case neg =>
    exact no _ hbe (by unfold tbE; rw [if_neg (fun x => x hz), if_pos hbe]) (bg_beg b m t k s a _ c rule now w h ok hk hb hL _ hz rfl hbe)
  cases hhs : hasK (leftL now t.fs) k
  case true =>
    exact no 7 (by decide) (by unfold tbE; rw [if_neg (fun x => x hz), if_neg (fun x => x hbe), if_pos hhs]) (bg_clash b m t k s a _ c rule now w h ok hk hb hL hz hbe hhs)
  by_cases hfu : t.max ≤ ((leftL now t.fs).length : Int)
  case pos =>
    exact no 4 (by decide) (by unfold tbE; rw [if_neg (fun x => x hz), if_neg (fun x => x hbe), if_neg (by rw [hhs]; decide), if_pos hfu]) (bg_full b m t k s a _ c rule now w h ok hk hb hL hz hbe hhs hfu)
  have e0 : tbE t k s rule now = 0 := by unfold tbE; rw [if_neg (fun x => x hz), if_neg (fun x => x hbe), if_neg (by rw [hhs]; decide), if_neg hfu]
  refine (bg_ok b m t k s a _ c rule now w h ok hk hb hL hz hbe hhs hfu).mono fun e w' ⟨h1, h2⟩ => ?_
  refine ⟨?_, ?_⟩
  · rw [h1, e0, errV_ok]; unfold tbF; rw [if_pos e0]
  · unfold tbS; rw [if_pos e0]; exact h2
end Go.Proofs.YtdhjfjnjdkmhjaaDoor
