/- The program's counts and the reference's, side by side ('PlS'): what they tell is the same. -/
import Derived.Test.YtchailjgikjhlaaDoorRefH6
import Derived.Test.YtchailjgikjhlaaDoorHvMrg
import Derived.Test.YtchailjgikjhlaaDoorTold
namespace Go.Proofs.YtchailjgikjhlaaDoor
open Go.RowKit Go.Maps
set_option linter.unusedVariables false

theorem least_perm {l l' : Cs} (h : l.Perm l') (many : Int) : leastL many l = leastL many l' := by
  refine least_is (least_le many l) (fun p hp => least_mem p (h.mem_iff.2 hp)) ?_
  rcases least_at many l with e | ⟨p, hp, e⟩
  · exact .inl e
  · exact .inr ⟨p, h.mem_iff.1 hp, e.symm⟩
theorem rest_perm {l l' : Cs} (ha : ApC l) (h : l.Perm l') (k m : Int) : (restL l k m).Perm (restL l' k m) := by
  unfold restL
  split
  · rw [getC_perm ha h k]; exact put_perm h _ _
  · exact h
theorem SameH.get {h h' : Hv} (s : SameH h h') (ok : HvOk h) (k : Int) : getC h.l k = getC h'.l k := getC_perm ok.ap s.l k
theorem SameH.addE {h h' : Hv} (s : SameH h h') (many : Int) : addE h many = addE h' many := by unfold Go.Proofs.YtchailjgikjhlaaDoor.addE; rw [s.all]
theorem SameH.add {h h' : Hv} (s : SameH h h') (ok : HvOk h) (k many : Int) : SameH (addS h k many) (addS h' k many) := by
  unfold addS
  rw [s.addE many]
  split
  · unfold addG
    have hr : roomB h k = roomB h' k := by unfold roomB; rw [s.get ok k, s.l.length_eq, s.n]
    rw [hr]
    split
    · exact ⟨s.n, s.less, by show h.all + many = h'.all + many; rw [s.all], rest_perm ok.ap s.l k many⟩
    · rw [least_perm s.l many]
      exact ⟨s.n, by show h.less + _ = h'.less + _; rw [s.less], by show h.all + many = h'.all + many; rw [s.all], rest_perm (apC_take ok.ap _) (take_perm s.l) k _⟩
  · exact s
theorem mergeL_get_perm {l l' o o' : Cs} (h1 : ApC l) (p1 : PosC l) (h2 : ApC o) (p2 : PosC o) (s1 : l.Perm l') (s2 : o.Perm o') : (mergeL l o).Perm (mergeL l' o') :=
  ext_perm (apC_merge o l h1) (posC_merge o l p1 p2) (apC_merge o' l' (h1.perm s1)) (posC_merge o' l' (p1.perm s1) (p2.perm s2)) (fun k => by rw [getC_merge o l h2, getC_merge o' l' (h2.perm s2), getC_perm h1 s1, getC_perm h2 s2])
theorem fall_one {p q : Cs} (h : p.Perm q) (hp : FallC p) (hq : FallC q) : p.map Prod.snd = q.map Prod.snd := by
  have h1 : (p.map Prod.snd).Perm (q.map Prod.snd) := h.map _
  have h2 : (p.map Prod.snd).Pairwise (fun a b => b ≤ a) := by rw [List.pairwise_map]; exact hp
  have h3 : (q.map Prod.snd).Pairwise (fun a b => b ≤ a) := by rw [List.pairwise_map]; exact hq
  exact List.Perm.eq_of_pairwise (le := fun a b : Int => b ≤ a) (fun a b _ _ h1 h2 => Int.le_antisymm h2 h1) h2 h3 h1
theorem SameH.merge {h h' o o' : Hv} {ql ql' : Cs} (s : SameH h h') (t : SameH o o') (kh : HvOk h) (ko : HvOk o) (hp : ql.Perm (mergeL h.l o.l)) (hf : FallC ql) (hp' : ql'.Perm (mergeL h'.l o'.l)) (hf' : FallC ql') : SameH (mrgS h o ql) (mrgS h' o' ql') := by
  have hm := mergeL_get_perm kh.ap kh.po ko.ap ko.po s.l t.l
  have hq : ql.Perm ql' := hp.trans (hm.trans hp'.symm)
  have he := fall_one hq hf hf'
  have hl := hq.length_eq
  unfold mrgS
  by_cases hc : h.n.toNat < ql.length
  · have hc' : h'.n.toNat < ql'.length := by rw [← s.n, ← hl]; exact hc
    rw [dif_pos hc, dif_pos hc']
    have et : ql[h.n.toNat].2 = ql'[h'.n.toNat].2 := by
      have e1 : (ql.map Prod.snd)[h.n.toNat]? = some ql[h.n.toNat].2 := by rw [List.getElem?_map, List.getElem?_eq_getElem hc]; rfl
      have e2 : (ql'.map Prod.snd)[h'.n.toNat]? = some ql'[h'.n.toNat].2 := by rw [List.getElem?_map, List.getElem?_eq_getElem hc']; rfl
      have e3 : (ql'.map Prod.snd)[h.n.toNat]? = some ql'[h'.n.toNat].2 := by rw [s.n]; exact e2
      rw [he, e3] at e1
      injection e1 with e1
      exact e1.symm
    rw [et]
    exact ⟨s.n, by show h.less + o.less + _ = h'.less + o'.less + _; rw [s.less, t.less], by show h.all + o.all = h'.all + o'.all; rw [s.all, t.all], take_perm hm⟩
  · have hc' : ¬ h'.n.toNat < ql'.length := by rw [← s.n, ← hl]; exact hc
    rw [dif_neg hc, dif_neg hc']
    exact ⟨s.n, by show h.less + o.less = h'.less + o'.less; rw [s.less, t.less], by show h.all + o.all = h'.all + o'.all; rw [s.all, t.all], hm⟩
theorem errI_val (z : Int) : ErrVal (errI z) z := by
  unfold errI ErrVal
  split
  · rename_i e; exact .inl ⟨rfl, e⟩
  · exact .inr rfl
theorem err_same {a b : Int} (h : a = b) (w : World) (hg : ErrLaid w) : Calls Tryd.prog 5 #[errI a, .int .i64 b] w fun e w' => e = .returned (.bool true) ∧ Below w.heap.size w w' := by
  subst h
  refine (error_val (errI_val a) a w hg).mono ?_
  rintro e w' ⟨h1, h2⟩
  exact ⟨by rw [h1]; simp, h2⟩
/-- Where the blocks lie. -/
structure Ord (w : World) (m : Int) (ma bx mb yb B : Nat) : Prop where
  o1 : w.heap.size ≤ ma
  o2 : ma + 1 < bx
  o3 : bx < yb
  o4 : yb < B
  o5 : numB m = true → bx < mb ∧ mb + 1 < yb
structure PlS (w : World) (n m : Int) (ma bx mb yb B : Nat) (ha hx hb hy : Hv) (vx vy : Value) (X : World) : Prop where
  va : HvAt X (ma + 1) ma ha
  rx : RfAt X B bx hx vx
  vb : numB m = true → HvAt X (mb + 1) mb hb ∧ HvOk hb ∧ hb.n = m ∧ SameH hy hb
  ry : RfAt X B yb hy vy
  sx : SameH hx ha
  oa : HvOk ha
  na : ha.n = n
  se : ∀ q, vx.ownBlock = some q → vy.ownBlock ≠ some q
  bel : Below w.heap.size w X
  hB : B ≤ X.heap.size
theorem PlS.below {w X X' : World} {n m : Int} {ma bx mb yb B : Nat} {ha hx hb hy : Hv} {vx vy : Value} (s : PlS w n m ma bx mb yb B ha hx hb hy vx vy X) (b : Below X.heap.size X X') : PlS w n m ma bx mb yb B ha hx hb hy vx vy X' :=
  ⟨s.va.below b, s.rx.below b, fun e => ⟨(s.vb e).1.below b, (s.vb e).2⟩, s.ry.below b, s.sx, s.oa, s.na, s.se, s.bel.trans (b.mono s.bel.size), Nat.le_trans s.hB b.size⟩
theorem PlS.okx {w X : World} {n m : Int} {ma bx mb yb B : Nat} {ha hx hb hy : Hv} {vx vy : Value} (s : PlS w n m ma bx mb yb B ha hx hb hy vx vy X) : HvOk hx := s.oa.same s.sx.symm
theorem PlS.oky {w X : World} {n m : Int} {ma bx mb yb B : Nat} {ha hx hb hy : Hv} {vx vy : Value} (s : PlS w n m ma bx mb yb B ha hx hb hy vx vy X) (e : numB m = true) : HvOk hy := (s.vb e).2.1.same (s.vb e).2.2.2.symm
/-- Blocks from B on are none of the others. -/
theorem PlS.far {w X : World} {n m : Int} {ma bx mb yb B : Nat} {ha hx hb hy : Hv} {vx vy : Value} (s : PlS w n m ma bx mb yb B ha hx hb hy vx vy X) : (∀ q, vx.ownBlock = some q → B ≤ q ∧ q < X.heap.size) ∧ (∀ q, vy.ownBlock = some q → B ≤ q ∧ q < X.heap.size) := ⟨fun q hq => OwnN.block s.rx.own q hq, fun q hq => OwnN.block s.ry.own q hq⟩
/-- The program's part of a step with a and x. -/
theorem PlS.aPart {w X X1 : World} {n m : Int} {ma bx mb yb B : Nat} {ha hx hb hy ha' : Hv} {vx vy : Value} (s : PlS w n m ma bx mb yb B ha hx hb hy vx vy X) (o : Ord w m ma bx mb yb B) (h1 : HvAt X1 (ma + 1) ma ha') (t : Turn (fun i => i = ma + 1 ∨ i = ma) X X1) :
    RfAt X1 B bx hx vx ∧ (numB m = true → HvAt X1 (mb + 1) mb hb) ∧ RfAt X1 B yb hy vy ∧ Below w.heap.size w X1 ∧ B ≤ X1.heap.size := by
  have o1 := o.o1
  have o2 := o.o2
  have o3 := o.o3
  have o4 := o.o4
  refine ⟨s.rx.turn t (by omega) (fun q hq => by have := (s.far.1 q hq).1; omega), fun e => (s.vb e).1.turn t (by have := o.o5 e; omega) (by have := o.o5 e; omega), s.ry.turn t (by omega) (fun q hq => by have := (s.far.2 q hq).1; omega), t.below s.bel s.bel.size (fun i hi => by rcases hi with rfl | rfl <;> omega), Nat.le_trans s.hB t.size⟩
theorem PlS.stepA {w X X1 X2 : World} {n m : Int} {ma bx mb yb B : Nat} {ha hx hb hy ha' gx : Hv} {vx vy : Value} (s : PlS w n m ma bx mb yb B ha hx hb hy vx vy X) (o : Ord w m ma bx mb yb B) (h1 : HvAt X1 (ma + 1) ma ha') (t : Turn (fun i => i = ma + 1 ∨ i = ma) X X1) (h2 : RfP X1 B bx vx gx X2)
    (sg : SameH gx ha') (ok : HvOk ha') (na : ha'.n = n) : ∃ hx' vx', PlS w n m ma bx mb yb B ha' hx' hb hy vx' vy X2 := by
  obtain ⟨p1, p2, p3, p4, p5⟩ := s.aPart o h1 t
  obtain ⟨⟨hx', vx', q1, q2, q3⟩, q4⟩ := h2
  have o1 := o.o1
  have o2 := o.o2
  have o3 := o.o3
  have o4 := o.o4
  have hfx : ∀ q, vx.ownBlock = some q → B ≤ q := fun q hq => (s.far.1 q hq).1
  have hfy : ∀ q, vy.ownBlock = some q → q < X1.heap.size := fun q hq => (OwnN.block p3.own q hq).2
  refine ⟨hx', vx', h1.turn q4 (fun e => ?_) (fun e => ?_), q1, fun e => ⟨(p2 e).turn q4 (fun e2 => ?_) (fun e2 => ?_), (s.vb e).2⟩, p3.turn q4 (fun e => ?_) (fun q hq e => ?_), q2.trans sg, ok, na, fun q hq e => ?_, q4.below p4 p4.size (fun i hi => ?_), Nat.le_trans p5 q4.size⟩
  · rcases e with e | e
    · omega
    · have := hfx _ e; omega
  · rcases e with e | e
    · omega
    · have := hfx _ e; omega
  · have := o.o5 e
    rcases e2 with e2 | e2
    · omega
    · have := hfx _ e2; omega
  · have := o.o5 e
    rcases e2 with e2 | e2
    · omega
    · have := hfx _ e2; omega
  · rcases e with e | e
    · omega
    · have := hfx _ e; omega
  · have := (s.far.2 q hq).1
    rcases e with e | e
    · omega
    · exact s.se q e hq
  · rcases q3 with h | h
    · rw [h] at hq; exact s.se q hq e
    · have := h q hq; have := hfy q e; omega
  · rcases hi with rfl | hi
    · omega
    · have := hfx _ hi; omega
theorem PlS.stepB {w X X1 X2 : World} {n m : Int} {ma bx mb yb B : Nat} {ha hx hb hy hb' gy : Hv} {vx vy : Value} (s : PlS w n m ma bx mb yb B ha hx hb hy vx vy X) (o : Ord w m ma bx mb yb B) (hm : numB m = true) (h1 : HvAt X1 (mb + 1) mb hb') (t : Turn (fun i => i = mb + 1 ∨ i = mb) X X1) (h2 : RfP X1 B yb vy gy X2)
    (sg : SameH gy hb') (ok : HvOk hb') (nb : hb'.n = m) : ∃ hy' vy', PlS w n m ma bx mb yb B ha hx hb' hy' vx vy' X2 := by
  obtain ⟨⟨hy', vy', q1, q2, q3⟩, q4⟩ := h2
  have o1 := o.o1
  have o2 := o.o2
  have o3 := o.o3
  have o4 := o.o4
  have o5 := o.o5 hm
  have hfy : ∀ q, vy.ownBlock = some q → B ≤ q := fun q hq => (s.far.2 q hq).1
  have a1 : HvAt X1 (ma + 1) ma ha := s.va.turn t (by omega) (by omega)
  have r1 : RfAt X1 B bx hx vx := s.rx.turn t (by omega) (fun q hq => by have := (s.far.1 q hq).1; omega)
  have hfx : ∀ q, vx.ownBlock = some q → q < X1.heap.size := fun q hq => (OwnN.block r1.own q hq).2
  have b1 := t.below s.bel s.bel.size (fun i hi => by rcases hi with rfl | rfl <;> omega)
  refine ⟨hy', vy', a1.turn q4 (fun e => ?_) (fun e => ?_), r1.turn q4 (fun e => ?_) (fun q hq e => ?_), fun e => ⟨h1.turn q4 (fun e2 => ?_) (fun e2 => ?_), ok, nb, q2.trans sg⟩, q1, s.sx, s.oa, s.na, fun q hq e => ?_, q4.below b1 b1.size (fun i hi => ?_), Nat.le_trans (Nat.le_trans s.hB t.size) q4.size⟩
  · rcases e with e | e
    · omega
    · have := hfy _ e; omega
  · rcases e with e | e
    · omega
    · have := hfy _ e; omega
  · rcases e with e | e
    · omega
    · have := hfy _ e; omega
  · have := (s.far.1 q hq).1
    rcases e with e | e
    · omega
    · exact s.se q hq e
  · rcases e2 with e2 | e2
    · omega
    · have := hfy _ e2; omega
  · rcases e2 with e2 | e2
    · omega
    · have := hfy _ e2; omega
  · rcases q3 with h | h
    · rw [h] at e; exact s.se q hq e
    · have := h q e; have := hfx q hq; omega
  · rcases hi with rfl | hi
    · omega
    · have := hfy _ hi; omega
end Go.Proofs.YtchailjgikjhlaaDoor
