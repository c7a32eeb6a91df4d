/- A map from numbers to numbers, told as a list of pairs ('CntAt'), and a range over it under way ('RngC'): a round may store at a key that is there, or delete it. -/
import Derived.Test.YtchailjgikjhlaaDoorMapL
import Derived.Test.YtchailjgikjhlaaDoorHvMath
import Derived.Test.YtchailjgikjhlaaDoorTurnT
namespace Go
open Go.ChangeMaps Go.MapKept Go.WideShapes
open Go.WideElems (Fit rd rg pl rd_key rd_val rg_of other_key)
open Go.Maps (Keyed)
set_option linter.unusedVariables false
section
variable {H : Type} {P : Program} {k : TypeId} {R : Value → Option (DataW H × List MemPlace)} {w : World} {b r n : Nat} {D : DataW H} {left : Lit → Bool} {cnt : Nat}
theorem YtchailjgikjhlaaDoor_list_set_self {α : Type} {l : List α} {j : Nat} {x : α} (h : l[j]? = some x) : l.set j x = l := by
  apply List.ext_getElem?
  intro i
  rw [List.getElem?_set]
  split
  · rename_i e; subst e
    have := (List.getElem?_eq_some_iff.1 h).1
    rw [if_pos this, h]
  · rfl
/-- A store at a key that is there, in the round. -/
theorem YtchailjgikjhlaaDoor_ranges_set {t e : TypeId} (h : w.ranges P k R b r n D left cnt) (K : Keyed P k) (ht : P.underlying t = some (.map k e)) (hn : n < maxLen) {key val : Value} {kl : Lit} {yv : DataW H × List MemPlace} (hkey : keyOf P k key = some kl) (hv : R val = some yv) (hin : Maps.has D kl = true) :
    ∃ w', (Instr.mapUpdate t (.map (some b)) key val).run P w = .ok () w' ∧ w'.ranges P k R b r n (D.put kl yv.1) left cnt ∧ w.grownBy w' (some b) := by
  have hne := h.ne
  obtain ⟨es, clock, since, seen, c0, hb, F, hs, rfl, hr, hold, rfl, hl1, hl2, hsc, hsk⟩ := h
  obtain ⟨es', clock', hrun, F', hput, _⟩ := Maps.fit_store (R' := R) K ht hb F (Nat.lt_of_le_of_lt hs hn) (fun _ _ _ _ hz => hz) hkey hv
  have hin' : ∃ x ∈ es.toList, x.key = key := by
    obtain ⟨p, hp, hpk⟩ := List.any_eq_true.1 hin
    obtain ⟨x, hx, rfl⟩ := List.mem_map.1 (mem_sorted.1 hp)
    refine ⟨x, hx, ?_⟩
    have e1 := WideAt.sameKey_eq hpk
    obtain ⟨y, hy⟩ := F.reads x hx
    rw [rg_of hy] at e1
    exact K.inj (e1 ▸ rd_key hy) hkey
  rcases K.find w hkey es.toList F.keys with ⟨h1, h2⟩ | ⟨j, e0, h1, h2, h3⟩
  · obtain ⟨x, hx, hxk⟩ := hin'
    exact absurd hxk (h2 x hx)
  · have hj : es[j]? = some e0 := by simpa using h2
    have hjl : j < es.toList.length := (List.getElem?_eq_some_iff.1 h2).1
    have hrun2 : (Instr.mapUpdate t (.map (some b)) key val).run P w = .ok () (setBlock w b (.map (es.modify j (fun e' => { e' with key := key, val := val })) clock)) := by
      simp [Instr.mapUpdate, run_underlying ht, MapKept.run_getObj_map hb, K.check w false hkey, h1, hj, h3, K.stays w hkey, MapKept.run_setObj_map _ hb, Result.andThen, setBlock]
    have heq : es' = es.modify j (fun e' => { e' with key := key, val := val }) ∧ clock' = clock := by
      rw [hrun] at hrun2
      injection hrun2 with _ hw
      have q1 := heap_setBlock_same hb (.map es' clock')
      have q2 := heap_setBlock_same hb (.map (es.modify j (fun e' => { e' with key := key, val := val })) clock)
      rw [hw, q2] at q1
      simp only [Option.some.injEq, Obj.map.injEq] at q1
      exact ⟨q1.1.symm, q1.2.symm⟩
    obtain ⟨rfl, rfl⟩ := heq
    have hlist : (es.modify j (fun e' => { e' with key := key, val := val })).toList = es.toList.set j { e0 with key := key, val := val } := by rw [Array.toList_modify, modify_eq_set _ _ _ _ h2]
    have hborn : (es.toList.set j { e0 with key := key, val := val }).map MapEntry.born = es.toList.map MapEntry.born := by
      rw [List.map_set]
      exact YtchailjgikjhlaaDoor_list_set_self (by rw [List.getElem?_map, h2]; rfl)
    have he0 : e0 ∈ es.toList := List.mem_of_getElem? h2
    have hk0 : (rg P k R e0).1 = kl := by
      obtain ⟨y, hy⟩ := F.reads e0 he0
      have m1 := rd_key hy
      rw [h3, hkey] at m1
      rw [rg_of hy]
      exact (Option.some.inj m1).symm
    have hnew : rg P k R { e0 with key := key, val := val } = (kl, yv.1) := rg_of (WideElems.rd_mk hkey hv)
    have who : ∀ x ∈ es.toList.set j { e0 with key := key, val := val }, x = { e0 with key := key, val := val } ∨ x ∈ es.toList := by
      intro x hx
      exact (List.mem_or_eq_of_mem_set hx).symm
    have hin2 : ({ e0 with key := key, val := val } : MapEntry) ∈ es.toList.set j { e0 with key := key, val := val } := List.mem_iff_getElem.2 ⟨j, by simpa using hjl, by simp⟩
    refine ⟨_, hrun, ⟨_, clock', since, seen, c0, heap_setBlock_same hb _, F', by simpa using hs, by rw [DataW.put_eq, hput], (heap_setBlock_other hb _ hne).trans hr, ?_, ?_, ?_, ?_, hsc, hsk⟩, ⟨rfl, rfl, rfl, by simp [setBlock], fun i _ hi => heap_setBlock_other hb _ (fun e => hi (by rw [e]))⟩⟩
    · intro x hx
      rw [hlist] at hx
      rcases who x hx with rfl | hx
      · exact hold e0 he0
      · exact hold x hx
    · have e1 : ∀ a : Array MapEntry, (leftOf a seen).size = ((a.toList.map MapEntry.born).filter fun q => !seen.contains q).length := fun a => by
        unfold leftOf
        rw [List.filter_map, List.length_map, ← Array.length_toList, Array.toList_filter]
        rfl
      rw [e1, e1, hlist, hborn]
    · intro x hx
      rw [hlist] at hx
      rcases who x hx with rfl | hx
      · rw [hnew]
        simp only
        rw [← hk0]
        exact hl1 e0 he0
      · exact hl1 x hx
    · intro x0 hx0
      obtain ⟨x, hx, hx1⟩ := hl2 x0 hx0
      by_cases hxk : x.key = key
      · refine ⟨{ e0 with key := key, val := val }, by rw [hlist]; exact hin2, ?_⟩
        rw [hnew, ← hx1]
        obtain ⟨y, hy⟩ := F.reads x hx
        have m1 := rd_key hy
        rw [hxk, hkey] at m1
        rw [rg_of hy]
        exact Option.some.inj m1
      · refine ⟨x, ?_, hx1⟩
        rw [hlist]
        obtain ⟨i, hi⟩ := List.getElem?_of_mem hx
        refine List.mem_of_getElem? (i := i) ?_
        rw [List.getElem?_set]
        split
        · rename_i e1; subst e1
          rw [h2] at hi
          cases hi
          exact absurd h3 hxk
        · exact hi
theorem YtchailjgikjhlaaDoor_ranges_exact {es : List (Lit × DataW H)} (h : w.ranges P k R b r n (.map es) left cnt) : w.ranges P k R b r es.length (.map es) left cnt := by
  obtain ⟨xs, clock, since, seen, c0, hb, F, hs, hD, rest⟩ := h
  refine ⟨xs, clock, since, seen, c0, hb, F, ?_, hD, rest⟩
  injection hD with hD
  rw [hD, length_sorted]; simp
end
end Go
namespace Go.Proofs.YtchailjgikjhlaaDoor
open Go.RowKit Go.Maps
set_option linter.unusedVariables false

theorem hidE {p : Prop} (h : p) : Hid p := h
theorem lawI : Keyed Tryd.prog 3 := int_keyed Tryd.underlying3
def WfK (k : Int) : Prop := -9223372036854775808 ≤ k ∧ k ≤ 9223372036854775807
theorem wfLit {k : Int} (h : WfK k) : (Lit.int .i64 k).wf = true := by
  have e1 : IntKind.i64.min = -9223372036854775808 := by decide
  have e2 : IntKind.i64.max = 9223372036854775807 := by decide
  obtain ⟨h1, h2⟩ := h
  simp [Lit.wf, e1, e2]
  omega
theorem wfOf {k : Int} (h : (Lit.int .i64 k).wf = true) : WfK k := by
  have e1 : IntKind.i64.min = -9223372036854775808 := by decide
  have e2 : IntKind.i64.max = 9223372036854775807 := by decide
  simp [Lit.wf, e1, e2] at h
  unfold WfK
  omega
theorem keyI {k : Int} (h : WfK k) : keyOf Tryd.prog 3 (.int .i64 k) = some (.int .i64 k) := keyOf_int_mk Tryd.underlying3 (wfLit h)
def litC (l : Cs) : List (Lit × Value) := l.map fun p => (.int .i64 p.1, .int .i64 p.2)
theorem litC_mem {l : Cs} {x : Lit × Value} : x ∈ litC l ↔ ∃ p ∈ l, x = (.int .i64 p.1, .int .i64 p.2) := by
  unfold litC
  rw [List.mem_map]
  exact ⟨fun ⟨f, hf, e⟩ => ⟨f, hf, e.symm⟩, fun ⟨f, hf, e⟩ => ⟨f, hf, e.symm⟩⟩
theorem litC_len (l : Cs) : (litC l).length = l.length := by unfold litC; rw [List.length_map]
theorem same_int (a b : Int) : (Lit.int .i64 a).sameKey (Lit.int .i64 b) = decide (a = b) := by
  by_cases h : a = b
  · simp [Lit.sameKey, h]
  · simp [Lit.sameKey, h]
theorem litC_filter (l : Cs) (k : Int) : (litC l).filter (fun x => !x.1.sameKey (.int .i64 k)) = litC (l.filter (neC k)) := by
  unfold litC
  rw [List.filter_map]
  congr 1
  exact List.filter_congr (fun p _ => by simp only [Function.comp]; rw [same_int]; rfl)
theorem litC_perm {l l' : Cs} (h : l.Perm l') : (litC l).Perm (litC l') := h.map _
/-- Block m is a map with these counts. -/
def CntAt (w : World) (m : Nat) (l : Cs) : Prop := MapIs Tryd.prog 3 w m (litC l)
theorem CntAt.new (w : World) : CntAt (w.alloc (.map #[] 0)) w.heap.size [] := MapIs.made _ _ _
theorem CntAt.lt {w : World} {m : Nat} {l : Cs} (h : CntAt w m l) : m < w.heap.size := MapIs.lt h
theorem CntAt.block {w w' : World} {m : Nat} {l : Cs} (h : CntAt w m l) (hb : w'.heap[m]? = w.heap[m]?) : CntAt w' m l := MapIs.block h hb
theorem CntAt.perm {w : World} {m : Nat} {l l' : Cs} (h : CntAt w m l) (hp : l.Perm l') : CntAt w m l' := MapIs.perm h (litC_perm hp)
theorem CntAt.ap {w : World} {m : Nat} {l : Cs} (h : CntAt w m l) : ApC l := by
  have := MapIs.apart h lawI
  unfold litC at this
  rw [List.pairwise_map] at this
  exact this.imp (fun {a b} hab e => hab (by rw [e]))
theorem zeroI (w : World) : (zeroValue 3).run Tryd.prog w = .ok (.int .i64 0) w := by
  have h : (Tryd.prog.info? 3).map (fun i => i.zero) = some (some (.int .i64 0)) := by kernel_rfl
  obtain ⟨i0, hi, hz0⟩ := Option.map_eq_some_iff.1 h
  simp [zeroValue, typeInfo, hi, hz0]
theorem CntAt.look {w : World} {m : Nat} {l : Cs} (h : CntAt w m l) {k : Int} (hk : WfK k) :
    (Instr.lookup 48 (.map (some m)) (.int .i64 k) false).run Tryd.prog w = .ok (.int .i64 (getC l k)) w := by
  by_cases h0 : ∃ p ∈ l, p.1 = k
  · obtain ⟨p, hp, rfl⟩ := h0
    rw [getC_mem (v := p.2) h.ap hp]
    exact MapIs.look h lawI Tryd.underlying48 (zeroI w) (keyI hk) (litC_mem.2 ⟨p, hp, rfl⟩)
  · have h1 : ∀ p ∈ l, p.1 ≠ k := fun p hp e => h0 ⟨p, hp, e⟩
    rw [getC_not h1]
    refine MapIs.look_no h lawI Tryd.underlying48 (zeroI w) (keyI hk) (fun x hx e => ?_)
    obtain ⟨p, hp, rfl⟩ := litC_mem.1 hx
    simp only [Lit.int.injEq, true_and] at e
    exact h1 p hp e
theorem CntAt.len {w : World} {m : Nat} {l : Cs} (h : CntAt w m l) (ty : TypeId) : (Builtin.len_ #[48] ty #[.map (some m)]).run Tryd.prog w = .ok (.int .i64 l.length) w := by
  have := MapIs.len h Tryd.underlying48 ty
  rw [litC_len] at this
  exact this
theorem CntAt.put {w : World} {m : Nat} {l : Cs} (h : CntAt w m l) {k : Int} (hk : WfK k) (hl : l.length ≤ 1000000) (v : Int) :
    ∃ w', (Instr.mapUpdate 48 (.map (some m)) (.int .i64 k) (.int .i64 v)).run Tryd.prog w = .ok () w' ∧ CntAt w' m (putC l k v) ∧ w.grownBy w' (some m) := by
  obtain ⟨w', h1, h2, h3⟩ := MapIs.store h lawI Tryd.underlying48 (by rw [litC_len]; unfold maxLen; omega) (keyI hk) (.int .i64 v)
  refine ⟨w', h1, ?_, h3⟩
  rw [litC_filter] at h2
  exact h2
/-- A range over the counts under way: those of 'todo' are still to come. -/
def RngC (w : World) (b r : Nat) (l : Cs) (todo : Int → Bool) (cnt : Nat) : Prop :=
  ∃ es left, w.ranges Tryd.prog 3 rawR b r l.length (.map es) left cnt ∧ es.Perm (heldL (litC l)) ∧ ∀ z, left (.int .i64 z) = todo z
theorem RngC.owns {w : World} {b r : Nat} {l : Cs} {todo : Int → Bool} {cnt : Nat} (h : RngC w b r l todo cnt) : CntAt w b l := by
  obtain ⟨es, left, h1, h2, h3⟩ := h
  exact mapIs_of h1.owns h2
theorem RngC.left_eq {w : World} {b r : Nat} {l : Cs} {todo : Int → Bool} {cnt : Nat} (h : RngC w b r l todo cnt) : w.rangeLeft b r = cnt := by
  obtain ⟨es, left, h1, h2, h3⟩ := h
  exact h1.left_eq
theorem RngC.kept {w w' : World} {b r : Nat} {l : Cs} {todo : Int → Bool} {cnt : Nat} {row : Option Nat} (h : RngC w b r l todo cnt) (hg : w.grownBy w' row) (hb : some b ≠ row) (hr : some r ≠ row) : RngC w' b r l todo cnt := by
  obtain ⟨es, left, h1, h2, h3⟩ := h
  exact ⟨es, left, h1.kept hg hb hr, h2, h3⟩
theorem RngC.lt {w : World} {b r : Nat} {l : Cs} {todo : Int → Bool} {cnt : Nat} (h : RngC w b r l todo cnt) : r < w.heap.size ∧ b < w.heap.size ∧ r ≠ b := by
  obtain ⟨es, left, h1, h2, h3⟩ := h
  exact ⟨h1.lt, h1.owns.lt, h1.ne⟩
theorem set_perm {l : Cs} (ha : ApC l) {k c v : Int} (h : (k, c) ∈ l) : ((k, v) :: l.filter (neC k)).Perm (l.map (setC k v)) := by
  have h1 := (filter_one ha h).map (setC k v)
  refine (List.Perm.symm (h1.trans ?_))
  rw [List.map_cons]
  have e1 : setC k v (k, c) = (k, v) := by simp [setC]
  have e2 : (l.filter (neC k)).map (setC k v) = l.filter (neC k) := by
    conv => rhs; rw [← List.map_id (l.filter (neC k))]
    exact List.map_congr_left (fun p hp => by
      have := neC_iff.1 (List.mem_filter.1 hp).2
      simp [setC, this])
  rw [e1, e2]
theorem at_memC {es : List (Lit × DataW Value)} {l : List (Lit × Value)} {kl : Lit} {c : Value} (hp : es.Perm (heldL l)) (hat : ∀ zd, (DataW.map es).atKey kl zd = .held c) : (kl, c) ∈ l := by
  have h2 := hat .nil
  unfold DataW.atKey at h2
  simp only at h2
  rcases hf : List.find? (fun p : Lit × DataW Value => p.1.sameKey kl) es with _ | z
  · rw [hf] at h2; cases h2
  · rw [hf] at h2
    simp only at h2
    have hz := List.mem_of_find?_eq_some hf
    have hs := List.find?_some hf
    have hz1 := WideAt.sameKey_eq hs
    have h3 : (kl, DataW.held c) ∈ es := by rw [← hz1, ← h2]; exact hz
    exact heldL_mem.1 (hp.mem_iff.1 h3)
section
variable (w : World) {ops : Array Oper} {rest : List Oper} {o : Oper} {a : Act} {Q : Exit → Act → World → Prop}
theorem wpList_range_c (hg : o.guard = none) (m : Operand) (hop : o.op = Op.range 48 m) (b : Nat) (l : Cs) (hm : a.eval m = .map (some b)) (h : CntAt w b l)
    (hK : ∀ w' todo cnt, RngC w' b w.heap.size l todo cnt → (∀ p ∈ l, todo p.1 = true) → w.grownBy w' none → w'.heap.size = w.heap.size + 1 → wpList Tryd.prog ops Q rest (a.put o.dst (.pointer (some ⟨w.heap.size, 0, none⟩))) w') :
    wpList Tryd.prog ops Q (o :: rest) a w := by
  obtain ⟨es, hown, hp⟩ := h
  refine wpList_range_own w hg m 48 hop 3 3 lawI Tryd.underlying48 rawR b _ _ hm hown (fun w' h1 h2 h3 => ?_)
  refine hK w' (fun z => Maps.has (.map es) (.int .i64 z)) (Maps.size (.map es)) ⟨es, _, ?_, hp, fun z => rfl⟩ ?_ h2 h3
  · rw [← litC_len]; exact h1
  · intro p hpm
    have : ((Lit.int .i64 p.1), DataW.held (Value.int .i64 p.2)) ∈ es := hp.mem_iff.2 (heldL_mem (x := (Lit.int .i64 p.1, Value.int .i64 p.2)).2 (litC_mem.2 ⟨p, hpm, rfl⟩))
    exact List.any_eq_true.2 ⟨_, this, by rw [same_int]; simp⟩
theorem wpList_next_c (hg : o.guard = none) (it : Operand) (hop : o.op = Op.next it false) (b r : Nat) (l : Cs) (todo : Int → Bool) (cnt : Nat) (hit : a.eval it = .pointer (some ⟨r, 0, none⟩)) (h : RngC w b r l todo cnt)
    (hDone : (∀ p ∈ l, todo p.1 = false) → wpList Tryd.prog ops Q rest (a.put o.dst (.tuple #[.bool false])) w)
    (hMore : ∀ (x c : Int) (w' : World) (cnt' : Nat), WfK x → (x, c) ∈ l → todo x = true → RngC w' b r l (strike todo x) cnt' → cnt' < cnt → w.grownBy w' (some r) → w'.heap.size = w.heap.size →
      (Instr.entry (.pointer (some ⟨r, 0, none⟩))).run Tryd.prog w' = .ok (.tuple #[.int .i64 x, .int .i64 c]) w' → wpList Tryd.prog ops Q rest (a.put o.dst (.tuple #[.bool true, .int .i64 x, .int .i64 c])) w') :
    wpList Tryd.prog ops Q (o :: rest) a w := by
  obtain ⟨es, left, h1, h2, h3⟩ := h
  refine wpList_next_ranges w hg it hop 3 lawI rawR id id (fun key _ _ => ⟨key, rfl⟩) (fun v _ _ => ⟨v, rfl⟩) b r _ _ left cnt hit h1 (fun _ hl => hDone (fun p _ => by rw [← h3]; exact hl _)) ?_
  intro x c kl y w' cnt' hkx hlx hv hat hrg hlt hgr hsz hen
  obtain ⟨yd, yp⟩ := y
  obtain ⟨rfl, rfl⟩ : yd = DataW.held c ∧ yp = [] := by
    have h1 : rawR c = some (DataW.held c, []) := rfl
    simp only [id] at hv
    rw [h1] at hv
    simp only [Option.some.injEq, Prod.mk.injEq] at hv
    exact ⟨hv.1.symm, hv.2.symm⟩
  have hml := at_memC h2 hat
  obtain ⟨p, hp, e⟩ := litC_mem.1 hml
  simp only [Prod.mk.injEq] at e
  obtain ⟨rfl, rfl⟩ := e
  obtain ⟨q, hq0, hq, hwf⟩ := Maps.keyOf_int_inv Tryd.underlying3 hkx
  simp only [id] at hq0
  simp only [Lit.int.injEq, true_and] at hq
  subst hq
  subst hq0
  simp only [id] at hen ⊢
  refine hMore p.1 p.2 w' cnt' (wfOf hwf) hp (by rw [← h3]; exact hlx) ⟨es, _, hrg, h2, fun z => ?_⟩ hlt hgr hsz hen
  rw [h3, same_int]
  rfl
theorem wpList_set_c (hg : o.guard = none) (m x v : Operand) (hop : o.op = Op.mapUpdate 48 m x v) (b r : Nat) (l : Cs) (todo : Int → Bool) (cnt : Nat) (hm : a.eval m = .map (some b)) (h : RngC w b r l todo cnt) (hl : l.length ≤ 1000000) (k c z : Int) (hx : a.eval x = .int .i64 k) (hv : a.eval v = .int .i64 z) (hk : WfK k) (hin : (k, c) ∈ l)
    (hK : ∀ w', RngC w' b r (l.map (setC k z)) todo cnt → w.grownBy w' (some b) → wpList Tryd.prog ops Q rest (a.put o.dst undef) w') :
    wpList Tryd.prog ops Q (o :: rest) a w := by
  have hap := h.owns.ap
  obtain ⟨es, left, h1, h2, h3⟩ := h
  have hhas : Maps.has (DataW.map es) (.int .i64 k) = true := by
    have : ((Lit.int .i64 k), DataW.held (Value.int .i64 c)) ∈ es := h2.mem_iff.2 (heldL_mem (x := (Lit.int .i64 k, Value.int .i64 c)).2 (litC_mem.2 ⟨_, hin, rfl⟩))
    exact List.any_eq_true.2 ⟨_, this, by rw [same_int]; simp⟩
  obtain ⟨w', hrun, r1, r2⟩ := YtchailjgikjhlaaDoor_ranges_set h1 lawI Tryd.underlying48 (by unfold maxLen; omega) (keyI hk) (val := .int .i64 z) (yv := (.held (.int .i64 z), [])) rfl hhas
  refine wpList_plain hg fun K' hK' => ?_
  unfold Oper.wp
  simp [execOp, hop, hm, hx, hv, hrun, Result.andThen]
  have hput : (DataW.map es).put (.int .i64 k) (.held (.int .i64 z)) = .map (DataW.insert (.int .i64 k, .held (.int .i64 z)) (es.filter fun p => !p.1.sameKey (.int .i64 k))) := rfl
  have hperm : (DataW.insert (Lit.int .i64 k, DataW.held (.int .i64 z)) (es.filter fun p => !p.1.sameKey (.int .i64 k))).Perm (heldL (litC (l.map (setC k z)))) := by
    refine (WideShapes.insert_perm _ _).trans ?_
    have q1 : (heldL (litC ((k, z) :: l.filter (neC k)))).Perm (heldL (litC (l.map (setC k z)))) := (litC_perm (set_perm hap hin (v := z))).map _
    refine List.Perm.trans ?_ q1
    show List.Perm _ ((Lit.int .i64 k, DataW.held (.int .i64 z)) :: heldL (litC (l.filter (neC k))))
    refine List.Perm.cons _ ((h2.filter _).trans ?_)
    rw [heldL_filter (fun x => !x.sameKey (.int .i64 k)), litC_filter]
  have e : (DataW.insert (Lit.int .i64 k, DataW.held (.int .i64 z)) (es.filter fun p => !p.1.sameKey (.int .i64 k))).length = (l.map (setC k z)).length := by
    rw [hperm.length_eq]
    unfold heldL
    rw [List.length_map, litC_len]
  rw [hput] at r1
  have r3 := YtchailjgikjhlaaDoor_ranges_exact r1
  rw [e] at r3
  exact hK' _ _ (hK w' ⟨_, left, r3, hperm, h3⟩ r2)
theorem wpList_del_c (hg : o.guard = none) (m x : Operand) (hop : o.op = Op.call { callee := Callee.builtin Builtin.delete, args := #[m, x], argTypes := #[48, 3] }) (b r : Nat) (l : Cs) (todo : Int → Bool) (cnt : Nat) (hm : a.eval m = .map (some b)) (h : RngC w b r l todo cnt) (k : Int) (hx : a.eval x = .int .i64 k) (hk : WfK k)
    (hK : ∀ w' cnt', RngC w' b r (l.filter (neC k)) (strike todo k) cnt' → cnt' ≤ cnt → w.grownBy w' (some b) → wpList Tryd.prog ops Q rest (a.put o.dst (.tuple #[])) w') :
    wpList Tryd.prog ops Q (o :: rest) a w := by
  obtain ⟨es, left, h1, h2, h3⟩ := h
  refine wpList_delete_ranges w hg m x 48 3 hop 3 lawI Tryd.underlying48 rawR b r _ _ left cnt hm h1 _ (.int .i64 k) hx (keyI hk) (fun w' cnt' r1 r2 r3 => ?_)
  have hdel : (DataW.map es).del (.int .i64 k) = .map (es.filter fun p => !p.1.sameKey (.int .i64 k)) := rfl
  rw [hdel] at r1
  have hperm : (es.filter fun p => !p.1.sameKey (.int .i64 k)).Perm (heldL (litC (l.filter (neC k)))) := by
    refine (h2.filter _).trans ?_
    rw [heldL_filter (fun x => !x.sameKey (.int .i64 k)), litC_filter]
  have e : (es.filter fun p => !p.1.sameKey (.int .i64 k)).length = (l.filter (neC k)).length := by
    rw [hperm.length_eq]
    unfold heldL
    rw [List.length_map, litC_len]
  have r4 := YtchailjgikjhlaaDoor_ranges_exact r1
  rw [e] at r4
  refine hK w' cnt' ⟨_, _, r4, hperm, fun z => ?_⟩ r2 r3.grown
  rw [h3, same_int]
  rfl
end
end Go.Proofs.YtchailjgikjhlaaDoor
