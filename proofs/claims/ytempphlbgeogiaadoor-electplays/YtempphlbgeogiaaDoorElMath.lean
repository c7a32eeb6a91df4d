/- Package elect, in numbers: what an arbiter ('Ar') and a voter ('Vt') tell, and become. -/
import Derived.Test.YtempphlbgeogiaaDoorProg
namespace Go.Proofs.YtempphlbgeogiaaDoor
set_option linter.unusedVariables false

structure Ar where
  now : Int
  lease : Int
  own : Int
  unt : Int
structure Vt where
  now : Int
  node : Int
  prio : Int
  drift : Int
  unt : Int
  oth : Int
  cnt : Int
/-- What is wrong with a time, where a clock stands at t. -/
def tmE (t now : Int) : Int := if now < 0 ∨ 1000000 < now then 1 else if now < t then 6 else 0
/-- What is wrong with a node and a time. -/
def arE (a : Ar) (node now : Int) : Int := if ¬ (node = 0 ∨ node = 1) then 1 else tmE a.now now
def askE (a : Ar) (node now : Int) : Int := if arE a node now = 0 then (if node ≠ a.own ∧ now < a.unt then 7 else 0) else arE a node now
def askA (a : Ar) (node now : Int) : Ar := if askE a node now = 0 then { a with now := now, own := node, unt := now + a.lease } else a
def askI (a : Ar) (node now : Int) : Int := if askE a node now = 0 then now + a.lease else 0
def freeA (a : Ar) (node now : Int) : Ar := if arE a node now = 0 then { a with now := now, unt := if node = a.own then now else a.unt } else a
/-- Numbers as they may be. -/
structure ArOk (a : Ar) : Prop where
  l1 : 1 ≤ a.lease
  l2 : a.lease ≤ 1000000
  u1 : -1000000 ≤ a.unt
  u2 : a.unt ≤ 2000000
structure VtOk (v : Vt) : Prop where
  u1 : 0 ≤ v.unt
  u2 : v.unt ≤ 2000000
  d1 : 0 ≤ v.drift
  d2 : v.drift ≤ 1000
  p1 : 0 ≤ v.prio
  p2 : v.prio ≤ 255
  o1 : 0 ≤ v.oth
  o2 : v.oth ≤ 255
def prB (p : Int) : Bool := decide (0 ≤ p ∧ p ≤ 255)
def hearE (v : Vt) (p now : Int) : Int := if tmE v.now now = 0 then (if prB p then 0 else 1) else tmE v.now now
def hearV (v : Vt) (p now : Int) : Vt := if hearE v p now = 0 then { v with now := now, oth := p, cnt := now + 30 } else v
def grB (u : Int) : Bool := decide (0 ≤ u ∧ u ≤ 2000000)
def granE (v : Vt) (u now : Int) : Int := if tmE v.now now = 0 then (if grB u then 0 else 1) else tmE v.now now
def granV (v : Vt) (u now : Int) : Vt := if granE v u now = 0 then { v with now := now, unt := u } else v
def movV (v : Vt) (now : Int) : Vt := if tmE v.now now = 0 then { v with now := now } else v
def masB (v : Vt) (now : Int) : Bool := decide (2 * v.drift < v.unt - now)
def overB (v : Vt) (p : Int) : Bool := decide (p < v.prio ∨ (v.prio = p ∧ v.node = 0))
def wanB (v : Vt) (now : Int) : Bool := masB v now || decide (v.cnt ≤ now) || overB v v.oth
def rolI (v : Vt) (now : Int) : Int := if masB v now then 2 else 1
def demE (d : Int) : Int := if d < -255 ∨ 255 < d then 1 else 0
def demI (p d : Int) : Int := min (max (p - d) 0) 255
def demV (v : Vt) (d : Int) : Vt := if demE d = 0 then { v with prio := demI v.prio d } else v
theorem tmE_ok {t now : Int} (h : tmE t now = 0) : 0 ≤ now ∧ now ≤ 1000000 ∧ t ≤ now := by
  unfold tmE at h
  split at h
  · cases h
  · split at h
    · cases h
    · omega
theorem tmE_of {t now : Int} (h0 : 0 ≤ now) (h1 : now ≤ 1000000) (h2 : t ≤ now) : tmE t now = 0 := by
  unfold tmE
  rw [if_neg (by omega), if_neg (by omega)]
theorem arE_ok {a : Ar} {node now : Int} (h : arE a node now = 0) : (node = 0 ∨ node = 1) ∧ 0 ≤ now ∧ now ≤ 1000000 ∧ a.now ≤ now := by
  unfold arE at h
  split at h
  · cases h
  · rename_i h1
    have := tmE_ok h
    exact ⟨by omega, this.1, this.2.1, this.2.2⟩
theorem arE_of {a : Ar} {node now : Int} (hn : node = 0 ∨ node = 1) (h0 : 0 ≤ now) (h1 : now ≤ 1000000) (h2 : a.now ≤ now) : arE a node now = 0 := by
  unfold arE
  rw [if_neg (by omega)]
  exact tmE_of h0 h1 h2
theorem ArOk.ask {a : Ar} (h : ArOk a) (node now : Int) : ArOk (askA a node now) := by
  unfold askA
  split
  · rename_i he
    have hz : arE a node now = 0 := by
      unfold askE at he
      split at he
      · assumption
      · contradiction
    obtain ⟨_, h1, h2, _⟩ := arE_ok hz
    have := h.l1
    have := h.l2
    exact ⟨h.l1, h.l2, by show (-1000000 : Int) ≤ now + a.lease; omega, by show now + a.lease ≤ 2000000; omega⟩
  · exact h
theorem ArOk.free {a : Ar} (h : ArOk a) (node now : Int) : ArOk (freeA a node now) := by
  unfold freeA
  split
  · rename_i hz
    obtain ⟨_, h1, h2, _⟩ := arE_ok hz
    have := h.u1
    have := h.u2
    refine ⟨h.l1, h.l2, ?_, ?_⟩
    · show (-1000000 : Int) ≤ (if node = a.own then now else a.unt)
      split <;> omega
    · show (if node = a.own then now else a.unt) ≤ 2000000
      split <;> omega
  · exact h
theorem VtOk.hear {v : Vt} (h : VtOk v) (p now : Int) : VtOk (hearV v p now) := by
  unfold hearV
  split
  · rename_i he
    unfold hearE at he
    split at he
    · split at he
      · rename_i hp
        unfold prB at hp
        have := of_decide_eq_true hp
        exact ⟨h.u1, h.u2, h.d1, h.d2, h.p1, h.p2, this.1, this.2⟩
      · cases he
    · contradiction
  · exact h
theorem VtOk.gran {v : Vt} (h : VtOk v) (u now : Int) : VtOk (granV v u now) := by
  unfold granV
  split
  · rename_i he
    unfold granE at he
    split at he
    · split at he
      · rename_i hp
        unfold grB at hp
        have := of_decide_eq_true hp
        exact ⟨this.1, this.2, h.d1, h.d2, h.p1, h.p2, h.o1, h.o2⟩
      · cases he
    · contradiction
  · exact h
theorem VtOk.mov {v : Vt} (h : VtOk v) (now : Int) : VtOk (movV v now) := by
  unfold movV
  split
  · exact ⟨h.u1, h.u2, h.d1, h.d2, h.p1, h.p2, h.o1, h.o2⟩
  · exact h
theorem demI_in (p d : Int) : 0 ≤ demI p d ∧ demI p d ≤ 255 := by unfold demI; omega
theorem VtOk.dem {v : Vt} (h : VtOk v) (d : Int) : VtOk (demV v d) := by
  unfold demV
  split
  · exact ⟨h.u1, h.u2, h.d1, h.d2, (demI_in _ _).1, (demI_in _ _).2, h.o1, h.o2⟩
  · exact h
end Go.Proofs.YtempphlbgeogiaaDoor
