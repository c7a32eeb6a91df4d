/- Flows: plain facts on numbers. What begins with a segment, what becomes of a flow with one, what is wrong with a flow, how long one is kept; no condition is asked of a program. -/
import Derived.Test.YtiigoeecklelpaaDoorSegMath
namespace Go.Proofs.YtiigoeecklelpaaDoor
set_option linter.unusedVariables false

/-- A flow: its key and its numbers. -/
structure Fl where
  key : Ky
  st : Int
  unt : Int
  stp : Int
  h0 : Int
  h1 : Int
  w0 : Int
  w1 : Int
  d0 : Bool
  d1 : Bool
  num : Int
def zeroF : Fl := { key := zeroY, st := 0, unt := 0, stp := 0, h0 := 0, h1 := 0, w0 := 0, w1 := 0, d0 := false, d1 := false, num := 0 }
/-- How long a flow is kept. -/
def lifeI (k s : Int) : Int :=
  if k = 1 then (if s = 1 then 30 else if s = 2 then 300 else if s = 3 then 60 else if s = 4 then 10 else 0)
  else if k = 2 then (if s = 1 then 30 else if s = 2 then 60 else 0)
  else if k = 3 then (if s = 1 then 10 else if s = 2 then 20 else 0) else 0
def inR (n lo hi : Int) : Bool := decide (lo ≤ n ∧ n ≤ hi)
def flgB (s : Sg) (f : Int) : Bool := decide (s.flg / f % 2 = 1)
def bI (b : Bool) : Int := if b = true then 1 else 0
/-- The end of a segment. -/
def endI (s : Sg) : Int := (s.seq + (s.body.length : Int) + bI (flgB s 2) + bI (flgB s 1)) % 4294967296
def ahB (a b : Int) : Bool := decide (0 < (a - b) % 4294967296 ∧ (a - b) % 4294967296 < 2147483648)
def hiF (f : Fl) (side : Int) : Int := if side = 0 then f.h0 else f.h1
def wnF (f : Fl) (side : Int) : Int := if side = 0 then f.w0 else f.w1
def dnF (f : Fl) (side : Int) : Bool := if side = 0 then f.d0 else f.d1
/-- Has a segment the ports of a key, as the side has it that says it? -/
def ofB (k : Ky) (s : Sg) (side : Int) : Bool :=
  if k.kind = 3 then decide (s.frm = side ∧ s.too = k.frm ∧ s.too = k.too) else decide (s.frm = k.frm ∧ s.too = k.too)
/-- What is wrong with what a side says now. -/
def sdE (k : Ky) (s : Sg) (side now : Int) : Int :=
  if inR now 0 1000000 = false then 1 else if ¬ sgErr k.kind s k.src k.dst = 0 then sgErr k.kind s k.src k.dst else if ofB k s side = false then 3 else 0
def begE (k : Ky) (s : Sg) (rule now : Int) : Int :=
  if inR rule (-1) 200 = false then 1 else if ¬ sdE k s 0 now = 0 then sdE k s 0 now else if k.kind = 1 ∧ ¬ s.flg = 2 then 6 else 0
def begG (k : Ky) (s : Sg) (rule now : Int) : Fl :=
  { key := k, st := 1, unt := now + lifeI k.kind 1, stp := 1, h0 := if k.kind = 1 then endI s else 0, h1 := 0, w0 := if k.kind = 1 then s.win else 0, w1 := 0, d0 := false, d1 := false, num := rule }
/-- What begins. -/
def begF (k : Ky) (s : Sg) (rule now : Int) : Fl := if begE k s rule now = 0 then begG k s rule now else zeroF
def kyB (k : Ky) : Bool := inR k.kind 1 3 && inR k.src 0 4294967295 && inR k.dst 0 4294967295 && inR k.frm 0 65535 && inR k.too 0 65535
def fiB (f : Fl) : Bool :=
  decide (¬ lifeI f.key.kind f.st = 0) && (inR f.h0 0 4294967295 && inR f.w0 0 65535) && (inR f.h1 0 4294967295 && inR f.w1 0 65535) && inR f.unt 0 2000000 && inR f.stp 1 1000000 && inR f.num (-1) 200
def bareB (f : Fl) : Bool := decide (f.h0 = 0 ∧ f.h1 = 0 ∧ f.w0 = 0 ∧ f.w1 = 0 ∧ f.d0 = false ∧ f.d1 = false)
/-- What is wrong with a flow. -/
def chkE (f : Fl) : Int :=
  if (kyB f.key && fiB f) = false then 1 else if ¬ f.key.kind = 1 ∧ bareB f = false then 3 else if f.key.kind = 3 ∧ ¬ f.key.frm = f.key.too then 3 else 0
def rstB (f : Fl) (s : Sg) (side : Int) : Bool := if f.st = 1 ∧ side = 1 then flgB s 8 && decide (s.ack = f.h0) else decide (s.seq = hiF f side)
def max1 (n : Int) : Int := if n < 1 then 1 else n
def goB (f : Fl) (s : Sg) (side : Int) : Bool :=
  !flgB s 2 && nearB s.seq (hiF f side) (max1 (wnF f (1 - side))) && (!flgB s 8 || nearB s.ack (hiF f (1 - side)) (max1 (wnF f side))) && (!dnF f side || !ahB (endI s) (hiF f side))
def stG (d0 d1 : Bool) (st : Int) : Int := if (d0 && d1) = true then 4 else if (d0 || d1) = true ∧ ¬ st = 4 then 3 else st
def topI (f : Fl) (s : Sg) (side : Int) : Int := if ahB (endI s) (hiF f side) = true then endI s else hiF f side
def goF (f : Fl) (s : Sg) (side : Int) : Fl :=
  if side = 0 then { f with h0 := topI f s 0, w0 := s.win, d0 := f.d0 || flgB s 1, st := stG (f.d0 || flgB s 1) f.d1 f.st }
  else { f with h1 := topI f s 1, w1 := s.win, d1 := f.d1 || flgB s 1, st := stG f.d0 (f.d1 || flgB s 1) f.st }
def strB (f : Fl) (s : Sg) (side : Int) : Bool :=
  if flgB s 4 = true then rstB f s side else if ¬ f.st = 1 then goB f s side else if side = 0 then decide (s.flg = 2 ∧ endI s = f.h0) else decide (s.flg = 10 ∧ s.ack = f.h0)
def strF (f : Fl) (s : Sg) (side : Int) : Fl :=
  if flgB s 4 = true then { f with st := 4 } else if ¬ f.st = 1 then goF f s side else if side = 0 then { f with w0 := s.win } else { f with st := 2, h1 := endI s, w1 := s.win }
def sayB (f : Fl) (s : Sg) (side : Int) : Bool := if f.key.kind = 1 then strB f s side else true
def sayF (f : Fl) (s : Sg) (side : Int) : Fl := if f.key.kind = 1 then strF f s side else if side = 1 then { f with st := 2 } else f
def chgF (f : Fl) (now : Int) : Fl := { f with stp := f.stp + 1, unt := now + lifeI f.key.kind f.st }
def sideK (f : Fl) (side : Int) : Ky := if side = 0 then f.key else turnK f.key
/-- Why a step is refused. -/
def stpE (f : Fl) (s : Sg) (side now : Int) : Int :=
  if ¬ (side = 0 ∨ side = 1) then 1 else if ¬ chkE f = 0 then chkE f else if ¬ sdE (sideK f side) s side now = 0 then sdE (sideK f side) s side now else
  if f.unt ≤ now ∨ f.stp = 1000000 then 6 else if sayB f s side = false then 6 else 0
/-- What a flow becomes. -/
def stpF (f : Fl) (s : Sg) (side now : Int) : Fl := if stpE f s side now = 0 then chgF (sayF f s side) now else zeroF

theorem inR_yes {n lo hi : Int} (h0 : lo ≤ n) (h1 : n ≤ hi) : inR n lo hi = true := by simp [inR]; omega
theorem of_inR {n lo hi : Int} (h : inR n lo hi = true) : lo ≤ n ∧ n ≤ hi := by simpa [inR] using h
theorem inR_no {n lo hi : Int} (h : ¬ (lo ≤ n ∧ n ≤ hi)) : inR n lo hi = false := by simpa [inR] using h
theorem lifeI_range (k s : Int) : 0 ≤ lifeI k s ∧ lifeI k s ≤ 300 := by
  unfold lifeI; repeat' split
  all_goals omega
theorem endI_range (s : Sg) : 0 ≤ endI s ∧ endI s ≤ 4294967295 := by unfold endI; omega
theorem sdE_ok {k : Ky} {s : Sg} {side now : Int} (h : sdE k s side now = 0) : (0 ≤ now ∧ now ≤ 1000000) ∧ sgErr k.kind s k.src k.dst = 0 ∧ ofB k s side = true := by
  unfold sdE at h
  split at h
  · simp at h
  split at h
  · contradiction
  split at h
  · simp at h
  · rename_i h1 h2 h3
    exact ⟨of_inR (by simpa using h1), by omega, by simpa using h3⟩
theorem chkE_ok {f : Fl} (h : chkE f = 0) : kyB f.key = true ∧ fiB f = true ∧ (¬ f.key.kind = 1 → bareB f = true) ∧ (f.key.kind = 3 → f.key.frm = f.key.too) := by
  unfold chkE at h
  split at h
  · simp at h
  split at h
  · simp at h
  split at h
  · simp at h
  · rename_i h1 h2 h3
    have e : (kyB f.key && fiB f) = true := by revert h1; cases (kyB f.key && fiB f) <;> simp
    rw [Bool.and_eq_true] at e
    refine ⟨e.1, e.2, fun hk => ?_, fun hk => ?_⟩
    · cases hb : bareB f
      · exact absurd ⟨hk, hb⟩ h2
      · rfl
    · exact Decidable.byContradiction fun hn => h3 ⟨hk, hn⟩
theorem kyB_of {k : Ky} (h : kyB k = true) : (1 ≤ k.kind ∧ k.kind ≤ 3) ∧ (0 ≤ k.src ∧ k.src ≤ 4294967295) ∧ (0 ≤ k.dst ∧ k.dst ≤ 4294967295) ∧ (0 ≤ k.frm ∧ k.frm ≤ 65535) ∧ (0 ≤ k.too ∧ k.too ≤ 65535) := by
  simp only [kyB, Bool.and_eq_true] at h
  obtain ⟨⟨⟨⟨a, b⟩, c⟩, d⟩, e⟩ := h
  exact ⟨of_inR a, of_inR b, of_inR c, of_inR d, of_inR e⟩
theorem fiB_of {f : Fl} (h : fiB f = true) : ¬ lifeI f.key.kind f.st = 0 ∧ ((0 ≤ f.h0 ∧ f.h0 ≤ 4294967295) ∧ (0 ≤ f.w0 ∧ f.w0 ≤ 65535)) ∧ ((0 ≤ f.h1 ∧ f.h1 ≤ 4294967295) ∧ (0 ≤ f.w1 ∧ f.w1 ≤ 65535)) ∧ (0 ≤ f.unt ∧ f.unt ≤ 2000000) ∧ (1 ≤ f.stp ∧ f.stp ≤ 1000000) ∧ (-1 ≤ f.num ∧ f.num ≤ 200) := by
  simp only [fiB, Bool.and_eq_true, decide_eq_true_eq] at h
  obtain ⟨⟨⟨⟨⟨a, b, c⟩, d, e⟩, g⟩, i⟩, j⟩ := h
  exact ⟨a, ⟨of_inR b, of_inR c⟩, ⟨of_inR d, of_inR e⟩, of_inR g, of_inR i, of_inR j⟩
end Go.Proofs.YtiigoeecklelpaaDoor
