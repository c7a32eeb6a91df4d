/- The reference's pool (package portref2): where a name is found, and what a row of heaps and a pool become when one heap is new, set, or cut out. -/
import Derived.Test.YtgodjaffmojhlaaDoorRefPl3
import Derived.Test.YtgodjaffmojhlaaDoorPoolAdd3
namespace Go.Proofs.YtgodjaffmojhlaaDoor
open Go.RowKit
set_option linter.unusedVariables false
set_option maxRecDepth 4000

/-! ### where a name is -/
def FoundK (rs : List Rh) (nm : Nm) (i : Nat) (j : Int) : Prop :=
  (j = -1 ∧ ∀ r ∈ rs.take i, nmOf r.f ≠ nm) ∨ ∃ A r B, rs = A ++ r :: B ∧ j = (A.length : Int) ∧ nmOf r.f = nm ∧ A.length < i
theorem FoundK.zero (rs : List Rh) (nm : Nm) : FoundK rs nm 0 (-1) := .inl ⟨rfl, fun r hr => by simp at hr⟩
theorem FoundK.yes {rs : List Rh} {nm : Nm} {i : Nat} (hi : i < rs.length) (h : nmOf rs[i].f = nm) : FoundK rs nm (i + 1) (i : Int) :=
  .inr ⟨rs.take i, rs[i], rs.drop (i + 1), by simp, by simp; omega, h, by simp; omega⟩
theorem FoundK.no {rs : List Rh} {nm : Nm} {i : Nat} {j : Int} (h : FoundK rs nm i j) (hi : i < rs.length) (hn : nmOf rs[i].f ≠ nm) : FoundK rs nm (i + 1) j := by
  rcases h with ⟨e, h⟩ | ⟨A, r, B, h1, h2, h3, h4⟩
  · refine .inl ⟨e, fun r hr => ?_⟩
    rw [List.take_succ_eq_append_getElem hi] at hr
    rcases List.mem_append.1 hr with h' | h'
    · exact h r h'
    · rw [List.mem_singleton.1 h']; exact hn
  · exact .inr ⟨A, r, B, h1, h2, h3, by omega⟩
theorem FoundK.lo {rs : List Rh} {nm : Nm} {i : Nat} {j : Int} (h : FoundK rs nm i j) : -1 ≤ j := by
  rcases h with ⟨e, _⟩ | ⟨A, r, B, h1, h2, h3, h4⟩ <;> omega
theorem FoundK.hi {rs : List Rh} {nm : Nm} {i : Nat} {j : Int} (h : FoundK rs nm i j) : j < (i : Int) := by
  rcases h with ⟨e, _⟩ | ⟨A, r, B, h1, h2, h3, h4⟩ <;> omega
theorem getH_mid {l1 l2 : List Hp} {h : Hp} {n : Nm} (ha : (l1 ++ h :: l2).Pairwise (fun g k => g.name ≠ k.name)) (hn : h.name = n) : getH (l1 ++ h :: l2) n = some h := by
  rw [List.pairwise_append, List.pairwise_cons] at ha
  unfold getH
  rw [List.find?_append]
  have e : l1.find? (fun x => decide (x.name = n)) = none := List.find?_eq_none.2 (fun x hx => by simpa [← hn] using ha.2.2 x hx h List.mem_cons_self)
  rw [e, List.find?_cons_of_pos (by simpa using hn)]; rfl
theorem getH_not {l : List Hp} {n : Nm} (h : ∀ x ∈ l, x.name ≠ n) : getH l n = none := List.find?_eq_none.2 (fun x hx => by simpa using h x hx)
theorem delH_not {l : List Hp} {n : Nm} (h : ∀ x ∈ l, x.name ≠ n) : delH l n = l := List.filter_eq_self.2 (fun x hx => decide_eq_true (h x hx))

/-! ### a row of heaps -/
theorem OwnH.set {w : World} {base g n cap : Nat} {A B : List Rh} {r r' : Rh} (h : OwnH w base (.slice (some ⟨g, 0, none⟩) n cap) (A ++ r :: B)) (j : Nat) (h11 : j < 11) (u : Value) (hj : rhRow r' = (rhRow r).set j u) :
    OwnH (w.setCell ⟨g, A.length * 11 + j, none⟩ u) base (.slice (some ⟨g, 0, none⟩) n cap) (A ++ r' :: B) := by
  obtain ⟨h1, h2⟩ := h
  refine ⟨rhCells_len _, ?_⟩
  rcases h2 with ⟨h2, _⟩ | ⟨g', cap', cur, hv, hbg, hh, hl, hm, hc, ht⟩
  · cases h2
  · simp only [Value.slice.injEq, Option.some.injEq, Addr.mk.injEq] at hv
    obtain ⟨⟨rfl, _⟩, hn, rfl⟩ := hv
    have hs := heap_setCell_same w g (A.length * 11 + j) _ _ u hh
    refine .inr ⟨g, cap, cur.setIfInBounds (A.length * 11 + j) u, ?_, hbg, hs, ?_, hm, ?_, ?_⟩
    · rw [hn]; simp
    · simpa using hl
    · rw [Array.size_setIfInBounds]; exact hc
    · rw [Array.toList_setIfInBounds, List.take_set]
      have e : (A ++ r' :: B).length = (A ++ r :: B).length := by simp
      rw [e, ht, rhCells_append, rhCells_append, rhCells_cons, rhCells_cons, List.set_append_right _ _ (by rw [rhCells_len]; omega), rhCells_len]
      rw [show A.length * 11 + j - A.length * 11 = j by omega, hj]
      congr 1
      rw [List.set_append_left _ _ (by simp [rhRow]; exact h11)]
theorem hpsAdd (b off j : Nat) : Addr.add ⟨b, off, none⟩ j = ⟨b, off + j, none⟩ := by by_cases h0 : j = 0 <;> simp [Addr.add, h0]
/-- Heaps that lie in a slice. -/
def Hps (w : World) (v : Value) (qs : List Rh) : Prop :=
  (qs = [] ∧ ∃ a c, v = .slice a 0 c) ∨ ∃ b off cap, v = .slice (some ⟨b, off, none⟩) qs.length cap ∧ qs.length ≤ cap ∧ cap ≤ maxLen ∧ ∀ i (hi : i < qs.length), HpC w b (off + i * 11) qs[i]
theorem wpList_append_hps {w : World} {ops : Array Oper} {rest : List Oper} {o : Oper} {a : Act} {Q : Exit → Act → World → Prop} (hgd : o.guard = none) (s x : Operand)
    (ho : o.op = .call { callee := .builtin .append, args := #[s, x], argTypes := #[31, 31] })
    (base : Nat) (v : Value) (ps : List Rh) (hs : a.eval s = v) (hown : OwnH w base v ps) (vx : Value) (qs : List Rh) (hx : a.eval x = vx) (hsrc : Hps w vx qs) (hsl : ∀ r ∈ qs, SlV r.fv ∧ SlV r.av)
    (hlen : ps.length + qs.length ≤ 100000) (hbase : base ≤ w.heap.size)
    (h : ∀ v' w', OwnH w' base v' (ps ++ qs) → w.grownBy w' v.ownBlock → (v'.ownBlock = v.ownBlock ∨ v'.ownBlock = some w.heap.size) → wpList Tryd.prog ops Q rest (a.put o.dst v') w') :
    wpList Tryd.prog ops Q (o :: rest) a w := by
  obtain ⟨i0, hi, hz0, hz1, hz2⟩ := info_parts Tryd.infoHp
  rcases hsrc with ⟨rfl, ax, cx, rfl⟩ | ⟨b, off, cap, rfl, h2, h3, h6⟩
  · refine wpList_plain hgd fun K hK => ?_
    obtain ⟨av, cv, hv, hle⟩ : ∃ av cv, v = .slice av ps.length cv ∧ ps.length ≤ cv := by
      rcases Nat.eq_zero_or_pos ps.length with h0 | h0
      · obtain ⟨av, cv, hv⟩ := hown.len
        exact ⟨av, cv, hv, by omega⟩
      · obtain ⟨g, cap, hv, _, _, h7, _⟩ := hown.shape h0
        exact ⟨_, cap, hv, h7⟩
    have hsr : Src Tryd.prog i0.size 31 (.slice ax 0 cx) 0 [] w := by
      rcases ax with _ | ax
      · exact Src.ofNil w Tryd.underlying31 cx
      · exact Src.ofSlice w Tryd.underlying31 ax 0 cx [] (by simp) (fun j u hj => by simp at hj) (fun u hu => by cases hu)
    have hr := run_append_nothing (P := Tryd.prog) w 31 31 o.type 57 i0 Tryd.underlying31 hi av ps.length cv hle _ hsr
    unfold Oper.wp execOp
    rw [hv] at hs
    simp only [ho, resolve, invoke, builtin, Sem.run_bind, Sem.run_pure, Result.andThen_ok, List.map_toArray, List.map_cons, List.map_nil, hs, hx, hr]
    rw [← hv]
    exact hK _ _ (h v w (by rw [List.append_nil]; exact hown) (World.grownBy.refl _ _) (.inl rfl))
  · refine wpList_append_at hgd s x 31 ho base 57 i0 _ 11 120 Tryd.underlying31 hi hz0 hz1 hz2 rfl (by decide) v ps.length (rhCells ps) hs hown ⟨b, off, none⟩ qs.length cap (rhCells qs) hx (rhCells_len qs) ?_ (rhCells_one hsl) (by unfold maxLen; omega) (by omega) hbase ?_
    · intro j u hj
      have hjl : j < qs.length * 11 := by
        rcases Nat.lt_or_ge j (qs.length * 11) with h7 | h7
        · exact h7
        · rw [List.getElem?_eq_none (by rw [rhCells_len]; exact h7)] at hj; cases hj
      have hi' : j / 11 < qs.length := by omega
      have hc := h6 (j / 11) hi'
      have hg := rhCells_get qs (j / 11) hi'
      have e : j = j / 11 * 11 + j % 11 := by omega
      have h9 : (rhRow qs[j / 11])[j % 11]? = some u := by
        rw [e, ← List.getElem?_drop, hg, List.getElem?_append_left (by simp [rhRow]; omega)] at hj
        exact hj
      rw [hpsAdd]
      have := hc _ _ h9
      rw [show off + j / 11 * 11 + j % 11 = off + j by omega] at this
      exact this
    · intro v' w' h1 h2 h3
      refine h v' w' ?_ h2 h3
      unfold OwnH
      rw [List.length_append, rhCells_append]; exact h1
theorem Hps.head {w : World} {base g n cap : Nat} {L : List Rh} (h : OwnH w base (.slice (some ⟨g, 0, none⟩) n cap) L) (hz : 0 < L.length) {A B : List Rh} (hk : L = A ++ B) : Hps w (.slice (some ⟨g, 0, none⟩) A.length cap) A := by
  obtain ⟨g', cap', hv, _, h2, h3, h4⟩ := h.shape hz
  simp only [Value.slice.injEq, Option.some.injEq, Addr.mk.injEq] at hv
  obtain ⟨⟨rfl, _⟩, hn, rfl⟩ := hv
  have hl : L.length = A.length + B.length := by rw [hk]; simp
  refine .inr ⟨g, 0, cap, rfl, by omega, h4, fun i hi => ?_⟩
  rw [Nat.zero_add]
  have := h.cells i (by omega)
  have e : L[i]'(by omega) = A[i] := by subst hk; rw [List.getElem_append_left hi]
  rw [e] at this; exact this
theorem Hps.tail {w : World} {base g n cap c : Nat} {L : List Rh} (h : OwnH w base (.slice (some ⟨g, 0, none⟩) n cap) L) (hz : 0 < L.length) {A B : List Rh} {r : Rh} (hk : L = A ++ r :: B) (hc : B.length ≤ c) (hc2 : c ≤ maxLen) : Hps w (.slice (some ⟨g, (A.length + 1) * 11, none⟩) B.length c) B := by
  have hl : L.length = A.length + (B.length + 1) := by rw [hk]; simp
  refine .inr ⟨g, (A.length + 1) * 11, c, rfl, hc, hc2, fun i hi => ?_⟩
  rw [← Nat.add_mul]
  have := h.cells (A.length + 1 + i) (by omega)
  have e : L[A.length + 1 + i]'(by omega) = B[i] := by
    subst hk
    rw [List.getElem_append_right (by omega)]
    simp only [show A.length + 1 + i - A.length = i + 1 by omega, List.getElem_cons_succ]
  rw [e] at this; exact this

/-! ### a pool -/
structure Rok (w0 w : World) (F : Nat → Prop) (pb : Nat) (lv : Value) (r : Rh) : Prop where
  slv : SlV r.fv ∧ SlV r.av
  name : nmOf r.f = r.h.name
  all : r.h.bad = false → OwnK w 0 r.av (r.h.all.zip r.vs) ∧ r.vs.length = r.h.all.length
  body : r.h.bad = false → ∀ x ∈ r.h.all.zip r.vs, Bytes w0 x.2 x.1.body
  time : 0 ≤ r.h.began ∧ r.h.began ≤ 1000000
  fall : r.h.bad = false → ∀ k, r.av.ownBlock = some k → F k ∧ k ≠ pb ∧ lv.ownBlock ≠ some k
theorem RpIn.rok {w0 w : World} {F : Nat → Prop} {pb : Nat} {s : Po} {lv : Value} {rs : List Rh} (h : RpIn w0 w F pb s lv rs) {r : Rh} (hr : r ∈ rs) : Rok w0 w F pb lv r :=
  ⟨h.slv r hr, h.name r hr, h.all r hr, h.body r hr, h.times.2.2 r hr, h.fall r hr⟩
theorem RpIn.mono {w0 w : World} {F G : Nat → Prop} {pb : Nat} {s : Po} {lv : Value} {rs : List Rh} (h : RpIn w0 w F pb s lv rs) (hFG : ∀ k, F k → G k) (hG : ∀ k, G k → w0.heap.size ≤ k) : RpIn w0 w G pb s lv rs :=
  ⟨h.pool, h.row, h.list, h.slv, h.name, h.all, h.body, h.ok, h.times, hFG _ h.fpb, fun k e => ⟨hFG _ (h.frow k e).1, (h.frow k e).2⟩, fun r hr hx k e => ⟨hFG _ (h.fall r hr hx k e).1, (h.fall r hr hx k e).2⟩, h.apart, hG, h.bel⟩
theorem RpIn.rerow {w0 w W : World} {F G : Nat → Prop} {pb : Nat} {s : Po} {lv v' : Value} {rs rs' : List Rh} (h : RpIn w0 w F pb s lv rs)
    (hpool : W.heap[pb]? = some (.cells #[.int .i64 s.life, .int .i64 s.now, v'] 33 (0, 0))) (hrow : OwnH W 0 v' rs') (hok : OkP { life := s.life, now := s.now, l := rs'.map Rh.h })
    (hsz : w.heap.size ≤ W.heap.size) (hFl : ∀ k, F k → k < w.heap.size) (hFG : ∀ k, F k → G k) (hN : ∀ k, w.heap.size ≤ k → k < W.heap.size → G k) (hG : ∀ k, G k → w0.heap.size ≤ k) (hbel : Below w0.heap.size w0 W)
    (hv : v'.ownBlock = lv.ownBlock ∨ ∀ k, v'.ownBlock = some k → w.heap.size ≤ k)
    (each : ∀ r ∈ rs', (r ∈ rs ∧ (r.h.bad = false → ∀ k, r.av.ownBlock = some k → W.heap[k]? = w.heap[k]?)) ∨ Rok w0 W G pb v' r)
    (apart : rs'.Pairwise fun r q => r.h.bad = false → q.h.bad = false → ∀ k, r.av.ownBlock = some k → q.av.ownBlock ≠ some k) :
    RpIn w0 W G pb { life := s.life, now := s.now, l := rs'.map Rh.h } v' rs' := by
  have hpl : pb < w.heap.size := h.lt
  have each' : ∀ r ∈ rs', Rok w0 W G pb v' r := by
    intro r hr
    rcases each r hr with ⟨h1, h2⟩ | h1
    · have g := h.rok h1
      refine ⟨g.slv, g.name, fun hx => ⟨(g.all hx).1.blk (fun k e => h2 hx k e), (g.all hx).2⟩, g.body, g.time, fun hx k e => ?_⟩
      obtain ⟨f1, f2, f3⟩ := g.fall hx k e
      refine ⟨hFG _ f1, f2, fun e2 => ?_⟩
      rcases hv with hv | hv
      · exact f3 (hv ▸ e2)
      · have := hv k e2
        have := hFl k f1
        omega
    · exact h1
  refine ⟨hpool, hrow, rfl, fun r hr => (each' r hr).slv, fun r hr => (each' r hr).name, fun r hr => (each' r hr).all, fun r hr => (each' r hr).body, hok, ⟨h.times.1, h.times.2.1, fun r hr => (each' r hr).time⟩, hFG _ h.fpb, fun k e => ?_, fun r hr => (each' r hr).fall, apart, hG, hbel⟩
  rcases hv with hv | hv
  · have := h.frow k (hv ▸ e)
    exact ⟨hFG _ this.1, this.2⟩
  · have h1 := hv k e
    exact ⟨hN k h1 (hrow.block k e).2, by omega⟩
/-- F, and what has come behind the first two blocks. -/
def Plus2 (F : Nat → Prop) (w ww : World) (k : Nat) : Prop := F k ∨ (w.heap.size + 2 ≤ k ∧ k < ww.heap.size)
/-- Where Add stands, as soon as the heap is there. -/
structure AddSt (w0 : World) (F : Nat → Prop) (pb : Nat) (t : Po) (p : Pk) (bv : Value) (now : Int) (w : World) (A : List Rh) (r : Rh) (B : List Rh) (lv : Value) (ww : World) : Prop where
  pool : RpIn w0 ww (Plus2 F w ww) pb { life := t.life, now := t.now, l := (A ++ r :: B).map Rh.h } lv (A ++ r :: B)
  is : r.h = orNew (getH t.l (nmOf p)) (nmOf p) now
  set : ∀ h' : Hp, h'.name = r.h.name → setH t.l h' = A.map Rh.h ++ h' :: B.map Rh.h
  del : delH t.l r.h.name = A.map Rh.h ++ B.map Rh.h
  same : r.h.bad = true → (A ++ r :: B).map Rh.h = t.l
  px : PkAt ww w.heap.size p bv
  pz : PkAt ww (w.heap.size + 1) zeroK (.slice none 0 0)
  turn : Turn F w ww
theorem AddSt.old {w0 : World} {F : Nat → Prop} {pb : Nat} {t : Po} {p : Pk} {bv : Value} {now : Int} {w : World} {A : List Rh} {r : Rh} {B : List Rh} {lv : Value} {ww : World}
    (h : RpIn w0 ww (Plus2 F w ww) pb t lv (A ++ r :: B)) (hn : nmOf r.f = nmOf p) (hp : PkAt ww w.heap.size p bv) (hz : PkAt ww (w.heap.size + 1) zeroK (.slice none 0 0)) (ht : Turn F w ww) : AddSt w0 F pb t p bv now w A r B lv ww := by
  have hl := h.list
  have hrn := h.name r (List.mem_append_right _ List.mem_cons_self)
  have ha := h.ok.apart
  rw [← hl, List.map_append, List.map_cons] at ha
  have e : ({ life := t.life, now := t.now, l := (A ++ r :: B).map Rh.h } : Po) = t := by rw [hl]
  refine ⟨by rw [e]; exact h, ?_, fun h' hh => ?_, ?_, fun _ => hl, hp, hz, ht⟩
  · rw [← hl, List.map_append, List.map_cons, getH_mid ha (hrn.symm.trans hn)]; rfl
  · rw [← hl, List.map_append, List.map_cons]; exact setH_mid ha hh
  · rw [← hl, List.map_append, List.map_cons]; exact delH_mid ha
def newR (p : Pk) (bv : Value) (now : Int) : Rh := { h := { name := nmOf p, began := now, bad := false, all := [] }, f := p, fv := bv, av := .slice none 0 0, vs := [] }
theorem AddSt.new {w0 : World} {F : Nat → Prop} {pb : Nat} {t : Po} {p : Pk} {bv : Value} {now : Int} {w wa : World} {rs : List Rh} {lv v' : Value} {ww : World}
    (h : RpIn w0 wa (Plus2 F w wa) pb t lv rs) (hno : ∀ r ∈ rs, nmOf r.f ≠ nmOf p) (h8 : rs.length < 8) (hbv : SlV bv) (hnow : 0 ≤ now ∧ now ≤ 1000000) (hFl : ∀ k, F k → k < w.heap.size) (hw2 : w.heap.size + 2 ≤ wa.heap.size) (hw0 : w0.heap.size ≤ w.heap.size)
    (hpool : ww.heap[pb]? = some (.cells #[.int .i64 t.life, .int .i64 t.now, v'] 33 (0, 0))) (hrow : OwnH ww 0 v' (rs ++ [newR p bv now])) (hsz : wa.heap.size ≤ ww.heap.size)
    (hk : ∀ k, k < wa.heap.size → k ≠ pb → lv.ownBlock ≠ some k → ww.heap[k]? = wa.heap[k]?) (hv : v'.ownBlock = lv.ownBlock ∨ ∀ k, v'.ownBlock = some k → wa.heap.size ≤ k)
    (hbel : Below w0.heap.size w0 ww) (hp : PkAt ww w.heap.size p bv) (hz : PkAt ww (w.heap.size + 1) zeroK (.slice none 0 0)) (ht : Turn F w ww) : AddSt w0 F pb t p bv now w rs (newR p bv now) [] v' ww := by
  have hl := h.list
  have hno' : ∀ x ∈ t.l, x.name ≠ nmOf p := by
    intro x hx
    rw [← hl] at hx
    obtain ⟨r, hr, rfl⟩ := List.mem_map.1 hx
    rw [← h.name r hr]; exact hno r hr
  have hP2 : ∀ k, Plus2 F w wa k → k < wa.heap.size := fun k hk => by
    rcases hk with hk | hk
    · have := hFl k hk; omega
    · exact hk.2
  refine ⟨h.rerow hpool hrow ?_ hsz hP2 (fun k hk => ?_) (fun k h1 h2 => .inr ⟨by omega, h2⟩) (fun k hk => ?_) hbel hv (fun r hr => ?_) ?_, ?_, fun h' hh => ?_, ?_, fun hx => (by cases hx), hp, hz, ht⟩
  · refine ⟨fun x hx => ?_, ?_, ?_⟩
    · rw [List.map_append] at hx
      rcases List.mem_append.1 hx with h' | h'
      · exact h.ok.each x (hl ▸ h')
      · rw [List.mem_singleton.1 h']
        exact ⟨GoodP.nil, fun _ => rfl, fun x hx => (by cases hx)⟩
    · rw [List.map_append, List.pairwise_append]
      refine ⟨by rw [hl]; exact h.ok.apart, List.pairwise_singleton _ _, fun a ha b hb => ?_⟩
      rw [List.mem_singleton.1 hb]; exact hno' a (hl ▸ ha)
    · simp; omega
  · rcases hk with hk | hk
    · exact .inl hk
    · exact .inr ⟨hk.1, by omega⟩
  · rcases hk with hk | hk
    · exact h.new k (.inl hk)
    · omega
  · rcases List.mem_append.1 hr with h' | h'
    · refine .inl ⟨h', fun hx k e => ?_⟩
      obtain ⟨f1, f2, f3⟩ := h.fall r h' hx k e
      exact hk k (hP2 k f1) f2 f3
    · rw [List.mem_singleton.1 h']
      exact .inr ⟨⟨hbv, _, _, _, rfl⟩, rfl, fun _ => ⟨OwnK.nil _ _, rfl⟩, fun _ x hx => (by cases hx), hnow, fun _ k e => (by cases e)⟩
  · rw [List.pairwise_append]
    exact ⟨h.apart, List.pairwise_singleton _ _, fun a ha b hb _ _ k _ e => by rw [List.mem_singleton.1 hb] at e; cases e⟩
  · rw [getH_not hno']; rfl
  · have : getH t.l h'.name = none := by rw [hh]; exact getH_not hno'
    rw [setH_new this, ← hl]; simp
  · show delH t.l (nmOf p) = _
    rw [delH_not hno', ← hl]; simp
end Go.Proofs.YtgodjaffmojhlaaDoor
