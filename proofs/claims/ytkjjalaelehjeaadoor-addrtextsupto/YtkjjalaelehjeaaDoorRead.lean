/- What the reference's ReadAddr, ShowPrefix and ReadPrefix return (package portref1): addresses and prefixes as texts and back. Condition: a text is not longer than 1048576 bytes. -/
import Derived.Test.YtkjjalaelehjeaaDoorCut
import Derived.Laws.ResultCell
import Derived.Deep.DeepCutAuto
import Derived.Outline
namespace Go.Proofs.YtkjjalaelehjeaaDoor
open Go.RowKit
set_option linter.unusedVariables false

def foldAddr : Int → List (List UInt8) → Int
  | a, [] => a
  | a, p :: r => if wholeL p 3 < 0 ∨ 255 < wholeL p 3 then -1 else foldAddr (a * 256 + wholeL p 3) r
def readAddrL (l : List UInt8) : Int := if (cutL 46 l).length = 4 then foldAddr 0 (cutL 46 l) else -1
theorem cutG_pos (c : UInt8) : ∀ (r cur : List UInt8), 0 < (cutG c cur r).length
  | [], cur => by simp [cutG]
  | x :: r, cur => by
      unfold cutG
      split
      · simp
      · exact cutG_pos c r _
theorem cutG_mem (c : UInt8) : ∀ (r cur : List UInt8), ∀ p ∈ cutG c cur r, p.length ≤ cur.length + r.length
  | [], cur => by simp [cutG]
  | x :: r, cur => by
      intro p hp
      unfold cutG at hp
      split at hp
      · rcases List.mem_cons.1 hp with rfl | hp
        · simp
        · have := cutG_mem c r [] p hp; simp at this ⊢; omega
      · have := cutG_mem c r (cur ++ [x]) p hp; simp at this ⊢; omega
theorem foldAddr_drop (ps : List (List UInt8)) (k : Nat) (a : Int) (h : k < ps.length) :
    foldAddr a (ps.drop k) = if wholeL ps[k] 3 < 0 ∨ 255 < wholeL ps[k] 3 then -1 else foldAddr (a * 256 + wholeL ps[k] 3) (ps.drop (k + 1)) := by
  rw [List.drop_eq_getElem_cons h]; rfl
theorem whole_mk (p : List UInt8) (most : Int) (w : World) (h0 : 0 ≤ most) (h1 : most ≤ 18) (hs : p.length ≤ 1048576) :
    Calls Tryd.prog 46 #[.string (mkB p), .int .i64 most] w fun e w' => e = .returned (.int .i64 (wholeL p most)) ∧ w' = w := by
  have := whole_any (mkB p) most w h0 h1 (by rw [mkB_size]; unfold maxLen; omega)
  rw [mkB_toList] at this
  exact this
set_option maxHeartbeats 2000000 in
theorem readAddr_any (s : ByteArray) (w : World) (hs : s.size ≤ 1048576) :
    Calls Tryd.prog 18 #[.string s] w fun e w' => e = .returned (.int .i64 (readAddrL s.data.toList)) ∧ Below w.heap.size w w' := by
  have hcut := cut_any s 46 w hs
  obtain ⟨ps, hps⟩ : ∃ ps, ps = cutL 46 s.data.toList := ⟨_, rfl⟩
  have hpos : 0 < ps.length := by rw [hps]; exact cutG_pos _ _ _
  have hmem : ∀ p ∈ ps, p.length ≤ 1048576 := by
    intro p hp
    rw [hps] at hp
    have := cutG_mem 46 _ _ p hp
    rw [size_list] at this; simp at this; omega
  have HR : Hid (readAddrL s.data.toList = if ps.length = 4 then foldAddr 0 ps else -1) := by
    show readAddrL s.data.toList = if ps.length = 4 then foldAddr 0 ps else -1
    rw [hps]; rfl
  rw [← hps] at hcut
  clear hps
  go_enter Tryd.func18, Tryd.ntmps18
  go_upto_region 2 with (go_at_call 45; refine hcut.mono ?_; rintro e w1 ⟨v, rfl, own1, b1⟩)
  obtain ⟨g, cap, hv, hg0, hg1, hlc, hcm⟩ := own1.shape (by simpa using hpos)
  subst hv
  obtain ⟨n, hn⟩ : ∃ n, n = (ps.map mkB).length := ⟨_, rfl⟩
  rw [← hn] at own1 hlc ⊢
  have hn1 : n ≤ ps.length := by rw [hn]; simp
  have hn2 : ps.length ≤ n := by rw [hn]; simp
  have HN : Hid (n = (ps.map mkB).length) := hn
  clear hn hcut
  by_cases h4 : ps.length = 4
  · have hr := HR.out
    rw [if_pos h4] at hr
    have HR' : Hid (foldAddr 0 ps = readAddrL s.data.toList) := hr.symm
    have h4a : n ≤ 4 := by omega
    have h4b : 4 ≤ n := by omega
    clear hr HR
    have h4c : ((n : Int) != 4) = false := by simp; omega
    go_wp2_with fail
    go_loop [4, 5] (fun v i => ∃ (k : Nat) (a : Int), k ≤ 4 ∧ i = .int .i64 k ∧ v = .int .i64 a ∧ 0 ≤ a ∧ a + 1 ≤ p256 k ∧ Hid (foldAddr a (ps.drop k) = foldAddr 0 ps)) (fun _ i => 4 - (intOf i).toNat)
    case atStart => exact ⟨0, 0, by omega, rfl, rfl, by omega, by decide, rfl⟩
    case round =>
      obtain ⟨k, a, hk, rfl, rfl, ha0, ha1, hT⟩ := hrel
      have hp4 := p256_le hk
      by_cases hlt : k < 4
      · have hkl : k < ps.length := by omega
        have st := foldAddr_drop ps k a hkl
        have hc := own1.cell HN.out k (by simpa using hkl)
        have hpk := hmem ps[k] (List.getElem_mem _)
        have e1 : (ps.map mkB)[k]'(by simpa using hkl) = mkB ps[k] := by simp
        rw [e1] at hc
        clear e1
        obtain ⟨pk, hpk'⟩ : ∃ pk, pk = ps[k] := ⟨_, rfl⟩
        rw [← hpk'] at hc hpk st
        clear hpk'
        have hwh := whole_mk pk 3 w1 (by omega) (by omega) hpk
        generalize wholeL pk 3 = z at hwh st
        by_cases hz : z < 0 ∨ 255 < z
        · rw [if_pos hz] at st
          have HT : Hid ((-1 : Int) = readAddrL s.data.toList) := by
            show (-1 : Int) = readAddrL s.data.toList
            rw [← HR'.out, ← hT.out, st]
          clear st hT
          have hkn : (k : Int) < (n : Int) := by omega
          rcases hz with hz | hz
          all_goals
            go_wp2_with (go_at_call 46; refine hwh.mono ?_; rintro e w' ⟨rfl, rfl⟩)
            go_ret
            exact ⟨ret_i64 HT.out, b1⟩
        · rw [if_neg hz] at st
          have hz0 : 0 ≤ z := by omega
          have hz1 : z ≤ 255 := by omega
          have hs := p256_succ k
          have HT : Hid (foldAddr (a * 256 + z) (ps.drop (k + 1)) = foldAddr 0 ps) := by
            show foldAddr (a * 256 + z) (ps.drop (k + 1)) = foldAddr 0 ps
            rw [← st]; exact hT.out
          have HB : Hid (a * 256 + z + 1 ≤ p256 (k + 1)) := by
            show a * 256 + z + 1 ≤ p256 (k + 1)
            omega
          have hkn : (k : Int) < (n : Int) := by omega
          have haa : a ≤ 4294967296 := by omega
          clear st hT hz hs ha1 hp4
          go_wp2_with (go_at_call 46; refine hwh.mono ?_; rintro e w' ⟨rfl, rfl⟩)
          go_round
          case rel => exact ⟨k + 1, _, by omega, by go_num, rfl, by omega, HB.out, HT⟩
          case measure => simp [intOf]; omega
      · have HT : Hid (a = readAddrL s.data.toList) := by
          show a = readAddrL s.data.toList
          rw [← HR'.out, ← hT.out, List.drop_eq_nil_of_le (by omega)]; rfl
        have hge : 4 ≤ (k : Int) := by omega
        clear hT ha1 hp4 hlt
        go_wp2
        go_ret
        exact ⟨ret_i64 HT.out, b1⟩
  · have hr := HR.out
    rw [if_neg h4] at hr
    have HR' : Hid ((-1 : Int) = readAddrL s.data.toList) := hr.symm
    have h4c : ((n : Int) != 4) = true := by simp; omega
    clear hr HR h4
    go_wp2_with fail
    go_ret
    exact ⟨ret_i64 HR'.out, b1⟩
end Go.Proofs.YtkjjalaelehjeaaDoor
