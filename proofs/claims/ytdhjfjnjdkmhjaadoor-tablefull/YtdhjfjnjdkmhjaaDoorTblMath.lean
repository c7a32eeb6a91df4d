/- Tables of flows: plain facts on lists. What is left at a time, what Begin of a table tells and leaves, whether a key has a flow; no condition is asked of a program. -/
import Derived.Test.YtdhjfjnjdkmhjaaDoorMgA
namespace Go.Proofs.YtdhjfjnjdkmhjaaDoor
set_option linter.unusedVariables false

instance : DecidableEq Ky := fun a b =>
  if h : a.kind = b.kind ∧ a.src = b.src ∧ a.frm = b.frm ∧ a.dst = b.dst ∧ a.too = b.too then
    isTrue (by obtain ⟨a1, a2, a3, a4, a5⟩ := a; obtain ⟨b1, b2, b3, b4, b5⟩ := b; obtain ⟨h1, h2, h3, h4, h5⟩ := h; simp only at h1 h2 h3 h4 h5; subst h1; subst h2; subst h3; subst h4; subst h5; rfl)
  else isFalse (by rintro rfl; exact h ⟨rfl, rfl, rfl, rfl, rfl⟩)
/-- A table: as many as may be, its time, its flows in whatever order. -/
structure Tb where
  max : Int
  now : Int
  fs : List Fl
/-- What is wrong with a time. -/
def timE (t : Tb) (now : Int) : Int := if now < 0 ∨ 1000000 < now then 1 else if now < t.now then 6 else 0
def goneB (now : Int) (f : Fl) : Bool := decide (f.unt ≤ now)
/-- What is left at a time. -/
def leftL (now : Int) (fs : List Fl) : List Fl := fs.filter fun f => !goneB now f
/-- Is there a flow of a key, either way? -/
def hasK (fs : List Fl) (k : Ky) : Bool := fs.any fun f => decide (firstK f.key = firstK k)
/-- Why a flow does not begin. -/
def tbE (t : Tb) (k : Ky) (s : Sg) (rule now : Int) : Int :=
  if ¬ timE t now = 0 then timE t now else if ¬ begE k s rule now = 0 then begE k s rule now else if hasK (leftL now t.fs) k = true then 7 else if t.max ≤ ((leftL now t.fs).length : Int) then 4 else 0
/-- What a table becomes. -/
def tbS (t : Tb) (k : Ky) (s : Sg) (rule now : Int) : Tb :=
  if tbE t k s rule now = 0 then { max := t.max, now := now, fs := begG k s rule now :: leftL now t.fs } else t
def tbF (t : Tb) (k : Ky) (s : Sg) (rule now : Int) : Fl := if tbE t k s rule now = 0 then begG k s rule now else zeroF
theorem hasK_of {fs : List Fl} {k : Ky} (h : hasK fs k = true) : ∃ f ∈ fs, firstK f.key = firstK k := by
  unfold hasK at h
  obtain ⟨f, hf, h⟩ := List.any_eq_true.1 h
  exact ⟨f, hf, by simpa using h⟩
theorem hasK_not {fs : List Fl} {k : Ky} (h : hasK fs k = false) : ∀ f ∈ fs, ¬ firstK f.key = firstK k := by
  unfold hasK at h
  intro f hf
  have := List.any_eq_false.1 h f hf
  simpa using this
theorem timE_ok {t : Tb} {now : Int} (h : timE t now = 0) : 0 ≤ now ∧ now ≤ 1000000 ∧ t.now ≤ now := by
  unfold timE at h
  split at h
  · cases h
  split at h
  · cases h
  · omega
/-- What a table is made of. -/
structure TbOk (t : Tb) : Prop where
  mx : 1 ≤ t.max ∧ t.max ≤ 30
  nw : 0 ≤ t.now ∧ t.now ≤ 1000000
  ap : t.fs.Pairwise fun f g => firstK f.key ≠ firstK g.key
  le : (t.fs.length : Int) ≤ t.max
theorem TbOk.begun {t : Tb} (h : TbOk t) (k : Ky) (s : Sg) (rule now : Int) : TbOk (tbS t k s rule now) := by
  unfold tbS
  split
  case isFalse => exact h
  rename_i he
  unfold tbE at he
  split at he
  · contradiction
  rename_i ht
  split at he
  · contradiction
  split at he
  · cases he
  rename_i hh
  split at he
  · cases he
  rename_i hl
  have ht' := timE_ok (Decidable.of_not_not ht)
  refine ⟨h.mx, ⟨ht'.1, ht'.2.1⟩, ?_, ?_⟩
  · show (begG k s rule now :: leftL now t.fs).Pairwise _
    rw [List.pairwise_cons]
    refine ⟨fun g hg => ?_, h.ap.filter _⟩
    have := hasK_not (by simpa using hh) g hg
    exact fun e => this e.symm
  · show ((begG k s rule now :: leftL now t.fs).length : Int) ≤ t.max
    simp only [List.length_cons]
    omega

/-! ### the table that gets full -/
def fuK (i : Int) : Ky := { kind := 2, src := 1, frm := i, dst := 2, too := 9 }
def fuS (i : Int) : Sg := { frm := i, too := 9, seq := 0, ack := 0, win := 0, flg := 0, body := [] }
def fuT (i : Int) : Sg := { frm := 9, too := i, seq := 0, ack := 0, win := 0, flg := 0, body := [] }
theorem fuK_first (i : Int) : firstK (fuK i) = fuK i := by simp [firstK, fuK]
theorem fuK_beg {i now : Int} (h0 : 0 ≤ i) (h1 : i ≤ 65535) (n0 : 0 ≤ now) (n1 : now ≤ 1000000) : begE (fuK i) (fuS i) 0 now = 0 := by
  have e : sdE (fuK i) (fuS i) 0 now = 0 := by
    unfold sdE
    rw [if_neg (by rw [inR_yes n0 n1]; decide)]
    have hs : sgErr (fuK i).kind (fuS i) (fuK i).src (fuK i).dst = 0 := by
      unfold sgErr
      have e1 : (isK (fuK i).kind && upB (fuK i).src 4294967295 && upB (fuK i).dst 4294967295 && fitB (fuK i).kind (fuS i)) = true := by
        simp [isK, upB, fitB, frmB, seqM, fuK, fuS]; exact decide_eq_true ⟨h0, h1⟩
      rw [if_neg (by rw [e1]; decide), if_neg (by simp [lackB, fuK, fuS]), if_neg (by simp [hdN, fuK, fuS])]
    rw [if_neg (fun h => h hs), if_neg (by simp [ofB, fuK, fuS])]
  unfold begE
  rw [if_neg (by decide), if_neg (fun h => h e), if_neg (by simp [fuK])]
theorem fuT_beg {i now : Int} (h0 : 0 ≤ i) (h1 : i ≤ 65535) (n0 : 0 ≤ now) (n1 : now ≤ 1000000) : begE (turnK (fuK i)) (fuT i) 0 now = 0 := by
  have e : sdE (turnK (fuK i)) (fuT i) 0 now = 0 := by
    unfold sdE
    rw [if_neg (by rw [inR_yes n0 n1]; decide)]
    have hs : sgErr (turnK (fuK i)).kind (fuT i) (turnK (fuK i)).src (turnK (fuK i)).dst = 0 := by
      unfold sgErr
      have e1 : (isK (turnK (fuK i)).kind && upB (turnK (fuK i)).src 4294967295 && upB (turnK (fuK i)).dst 4294967295 && fitB (turnK (fuK i)).kind (fuT i)) = true := by
        simp [isK, upB, fitB, frmB, seqM, turnK, fuK, fuT]; exact decide_eq_true ⟨h0, h1⟩
      rw [if_neg (by rw [e1]; decide), if_neg (by simp [lackB, turnK, fuK, fuT]), if_neg (by simp [hdN, turnK, fuK, fuT])]
    rw [if_neg (fun h => h hs), if_neg (by simp [ofB, turnK, fuK, fuT])]
  unfold begE
  rw [if_neg (by decide), if_neg (fun h => h e), if_neg (by simp [turnK, fuK])]
/-- The table with i flows that began now. -/
structure Full (max now : Int) (i : Nat) (t : Tb) : Prop where
  mx : t.max = max
  nw : t.now ≤ now
  ln : t.fs.length = i
  al : ∀ f ∈ t.fs, f.unt = now + 30 ∧ ∃ j : Int, 0 ≤ j ∧ j < i ∧ f.key = fuK j
theorem Full.left {max now : Int} {i : Nat} {t : Tb} (h : Full max now i t) {d : Int} (hd : d < 30) : leftL (now + d) t.fs = t.fs := by
  unfold leftL
  rw [List.filter_eq_self]
  intro f hf
  have := (h.al f hf).1
  simp [goneB]; omega
theorem Full.none {max now : Int} {i : Nat} {t : Tb} (h : Full max now i t) {k : Int} (hk : (i : Int) ≤ k) : hasK t.fs (fuK k) = false := by
  cases hh : hasK t.fs (fuK k)
  · rfl
  · obtain ⟨f, hf, e⟩ := hasK_of hh
    obtain ⟨j, j0, j1, ej⟩ := (h.al f hf).2
    rw [ej, fuK_first, fuK_first] at e
    have : j = k := congrArg Ky.frm e
    omega
theorem Full.begin {max now : Int} {i : Nat} {t : Tb} (h : Full max now i t) (hi : (i : Int) < max) (hm : max ≤ 30) (n0 : 0 ≤ now) (n1 : now ≤ 900000) :
    tbE t (fuK i) (fuS i) 0 now = 0 ∧ Full max now (i + 1) (tbS t (fuK i) (fuS i) 0 now) := by
  have ht : timE t now = 0 := by
    unfold timE
    rw [if_neg (by omega), if_neg (by have := h.nw; omega)]
  have hb := fuK_beg (i := i) (now := now) (by omega) (by omega) n0 (by omega)
  have hl := h.left (d := 0) (by omega)
  rw [Int.add_zero] at hl
  have e : tbE t (fuK i) (fuS i) 0 now = 0 := by
    unfold tbE
    rw [if_neg (fun x => x ht), if_neg (fun x => x hb), hl, if_neg (by rw [h.none (Int.le_refl _)]; decide), if_neg (by have := h.ln; have := h.mx; omega)]
  refine ⟨e, ?_⟩
  unfold tbS
  rw [if_pos e, hl]
  refine ⟨h.mx, Int.le_refl _, by simp [h.ln], fun f hf => ?_⟩
  rcases List.mem_cons.1 hf with rfl | hf
  · exact ⟨by simp [begG, fuK, lifeI], i, by omega, by omega, rfl⟩
  · obtain ⟨a, j, b, c, d⟩ := h.al f hf
    exact ⟨a, j, b, by omega, d⟩
theorem Full.clash {max now : Int} {i : Nat} {t : Tb} (h : Full max now i t) (hi : 0 < i) (hm : i ≤ 30) (n0 : 0 ≤ now) (n1 : now ≤ 900000) (hx : ∃ f ∈ t.fs, f.key = fuK ((i : Int) - 1)) :
    tbE t (turnK (fuK ((i : Int) - 1))) (fuT ((i : Int) - 1)) 0 now = 7 := by
  have ht : timE t now = 0 := by
    unfold timE
    rw [if_neg (by omega), if_neg (by have := h.nw; omega)]
  have hb := fuT_beg (i := (i : Int) - 1) (now := now) (by omega) (by omega) n0 (by omega)
  have hl := h.left (d := 0) (by omega)
  rw [Int.add_zero] at hl
  have hh : hasK t.fs (turnK (fuK ((i : Int) - 1))) = true := by
    obtain ⟨f, hf, e⟩ := hx
    unfold hasK
    rw [List.any_eq_true]
    exact ⟨f, hf, by rw [e, first_turn]; simp⟩
  unfold tbE
  rw [if_neg (fun x => x ht), if_neg (fun x => x hb), hl, if_pos hh]
theorem Full.full {max now : Int} {t : Tb} {n : Nat} (h : Full max now n t) (hn : (n : Int) = max) (hm : max ≤ 30) (n0 : 0 ≤ now) (n1 : now ≤ 900000) :
    tbE t (fuK 100) (fuS 100) 0 (now + 29) = 4 := by
  have ht : timE t (now + 29) = 0 := by
    unfold timE
    rw [if_neg (by omega), if_neg (by have := h.nw; omega)]
  have hb := fuK_beg (i := 100) (now := now + 29) (by omega) (by omega) (by omega) (by omega)
  have hl := h.left (d := 29) (by omega)
  unfold tbE
  rw [if_neg (fun x => x ht), if_neg (fun x => x hb), hl, if_neg (by rw [h.none (by omega)]; decide), if_pos (by have := h.ln; have := h.mx; omega)]
theorem Full.over {max now : Int} {t : Tb} {n : Nat} (h : Full max now n t) (hm : 1 ≤ max) (n0 : 0 ≤ now) (n1 : now ≤ 900000) :
    tbE t (fuK 100) (fuS 100) 0 (now + 30) = 0 ∧ (tbS t (fuK 100) (fuS 100) 0 (now + 30)).fs.length = 1 := by
  have ht : timE t (now + 30) = 0 := by
    unfold timE
    rw [if_neg (by omega), if_neg (by have := h.nw; omega)]
  have hb := fuK_beg (i := 100) (now := now + 30) (by omega) (by omega) (by omega) (by omega)
  have hl : leftL (now + 30) t.fs = [] := by
    unfold leftL
    rw [List.filter_eq_nil_iff]
    intro f hf
    have := (h.al f hf).1
    simp [goneB]; omega
  have e : tbE t (fuK 100) (fuS 100) 0 (now + 30) = 0 := by
    unfold tbE
    rw [if_neg (fun x => x ht), if_neg (fun x => x hb), hl, if_neg (by decide), if_neg (by have := h.mx; simp; omega)]
  refine ⟨e, ?_⟩
  unfold tbS
  rw [if_pos e, hl]; rfl
end Go.Proofs.YtdhjfjnjdkmhjaaDoor
