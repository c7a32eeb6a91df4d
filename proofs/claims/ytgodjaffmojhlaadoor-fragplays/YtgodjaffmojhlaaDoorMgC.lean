/- Where a row of the call's own lies behind an append: where it lay, or in the newest block. A law on the walk's append that says so beside what the library's says. -/
import Derived.Test.YtgodjaffmojhlaaDoorProg
import Derived.Laws.AppendOwn
import Derived.Laws.OwnMore
import Derived.OneCell
import Derived.WalkKit
import Derived.Below
import Derived.WalkSmall
import Derived.Test.YtgodjaffmojhlaaDoorMgA
import Derived.Test.YtgodjaffmojhlaaDoorWirePk
import Derived.Test.YtgodjaffmojhlaaDoorOpenPk
import Derived.Test.YtgodjaffmojhlaaDoorOpen
namespace Go.Proofs.YtgodjaffmojhlaaDoor
open Go.RowKit
set_option linter.unusedVariables false

theorem run_append_where {P : Program} (w : World) (base : Nat) (t ty e : TypeId) (i : TypeInfo) (z : Value) (ht : P.underlying t = some (.slice e)) (hi : P.info? e = some i) (hz : i.zero = some z)
    (v : Value) (n : Nat) (xs : List Value) (hown : w.ownsRow base e i.size v n xs)
    (a : Addr) (m c : Nat) (news : List Value) (hl : news.length = m * i.size) (hnews : ∀ j u, news[j]? = some u → w.cell? (a.add j) = some u) (h1 : ∀ u ∈ news, u.oneCell' = true)
    (h63 : n + m ≤ maxLen) (hbytes : (n + m) * i.bytes ≤ 140737488355328) {v' : Value} {w' : World} (hr' : (Builtin.append_ #[t, t] ty #[v, .slice (some a) m c]).run P w = .ok v' w') :
    v'.ownBlock = v.ownBlock ∨ v'.ownBlock = some w.heap.size := by
  have hsmall : n + m ≤ 9223372036854775807 := by simp only [maxLen] at h63; omega
  rcases hown.2 with ⟨rfl, rfl⟩ | ⟨g, cap, cur, rfl, hbg, hg, hnc, hcm, hcs, htake⟩
  · by_cases hm : m = 0
    · subst hm
      have hn : news = [] := List.eq_nil_of_length_eq_zero (by simpa using hl)
      subst hn
      have hr : (Builtin.append_ #[t, t] ty #[.slice none 0 0, .slice (some a) 0 c]).run P w = .ok (.slice none 0 0) w := by
        simp [Builtin.append_, run_underlying ht, sizeOf, typeInfo, hi, Builtin.lenOf, Builtin.firstCells, loadCells, loadCellsFrom]
      rw [hr] at hr'
      injection hr' with e1 e2
      subst e1; exact .inl rfl
    · have hr := run_append_nil (P := P) w t ty e i z ht hi hz a m c news hl hnews (by omega) (by omega) (by have hb := hbytes; simp only [Nat.zero_add] at hb; omega)
      rw [hr] at hr'
      injection hr' with e1 e2
      subst e1; exact .inr rfl
  · by_cases hroom : n + m ≤ cap
    · have hfit : n * i.size + news.length ≤ cur.size := by rw [hl, hcs, ← Nat.add_mul]; exact Nat.mul_le_mul_right _ hroom
      have hr := run_append_room (P := P) w t ty e i ht hi g n cap cur hg a m c news hl hnews h1 hroom hfit
      rw [hr] at hr'
      injection hr' with e1 e2
      subst e1; exact .inl rfl
    · have holds : ∀ j u, xs[j]? = some u → w.cell? ((⟨g, 0, none⟩ : Addr).add j) = some u := hown.cells (g := g) rfl
      have hr := run_append_grow (P := P) w t ty e i z ht hi hz ⟨g, 0, none⟩ n cap xs hown.1 holds a m c news hl hnews (by omega) (by omega) (growslice_fits (by omega) hbytes)
      rw [hr] at hr'
      injection hr' with e1 e2
      subst e1; exact .inr rfl

theorem wpList_append_at {P : Program} {w : World} {ops : Array Oper} {rest : List Oper} {o : Oper} {a : Act} {Q : Exit → Act → World → Prop} (hgd : o.guard = none) (s x : Operand) (t : TypeId)
    (ho : o.op = .call { callee := .builtin .append, args := #[s, x], argTypes := #[t, t] })
    (base : Nat) (e : TypeId) (i : TypeInfo) (z : Value) (size bytes : Nat) (ht : P.underlying t = some (.slice e)) (hi : P.info? e = some i) (hz : i.zero = some z)
    (hsize : i.size = size) (hby : i.bytes = bytes) (hzs : z.cells.size = size) (hsz : 0 < size)
    (v : Value) (n : Nat) (xs : List Value) (hs : a.eval s = v) (hown : w.ownsRow base e size v n xs)
    (ad : Addr) (m c : Nat) (news : List Value) (hx : a.eval x = .slice (some ad) m c) (hl : news.length = m * size) (hnews : ∀ j u, news[j]? = some u → w.cell? (ad.add j) = some u) (h1 : ∀ u ∈ news, u.oneCell' = true)
    (h63 : n + m ≤ maxLen) (hbytes : (n + m) * bytes ≤ 140737488355328) (hbase : base ≤ w.heap.size)
    (h : ∀ v' w', w'.ownsRow base e size v' (n + m) (xs ++ news) → w.grownBy w' v.ownBlock → (v'.ownBlock = v.ownBlock ∨ v'.ownBlock = some w.heap.size) → wpList P ops Q rest (a.put o.dst v') w') : wpList P ops Q (o :: rest) a w := by
  refine wpList_plain hgd fun K hK => ?_
  obtain ⟨v', w', hr, h2, h3, _⟩ := run_append_own (P := P) w base t o.type e i z size bytes ht hi hz hsize hby hzs hsz v n xs hown ad m c news hl hnews h1 h63 hbytes hbase
  have h4 := run_append_where w base t o.type e i z ht hi hz v n xs (by rw [hsize]; exact hown) ad m c news (by rw [hsize]; exact hl) hnews h1 h63 (by rw [hby]; exact hbytes) hr
  unfold Oper.wp execOp
  simp only [ho, resolve, invoke, builtin, Sem.run_bind, Sem.run_pure, Result.andThen_ok, List.map_toArray, List.map_cons, List.map_nil, hs, hx, hr]
  exact hK _ _ (h v' w' h2 h3 h4)
end Go.Proofs.YtgodjaffmojhlaaDoor

namespace Go.Proofs.YtgodjaffmojhlaaDoor
open Go.RowKit
set_option linter.unusedVariables false

/-- A row v of the call's own has become v': of what was there nothing else has turned. -/
def Grew (v v' : Value) (w w' : World) : Prop := w.grownBy w' v.ownBlock ∧ (v'.ownBlock = v.ownBlock ∨ ∃ k, v'.ownBlock = some k ∧ w.heap.size ≤ k)
theorem Grew.refl (v : Value) (w : World) : Grew v v w w := ⟨⟨rfl, rfl, rfl, Nat.le_refl _, fun _ _ _ => rfl⟩, .inl rfl⟩
theorem Grew.trans {v v' v'' : Value} {w w' w'' : World} (h : Grew v v' w w') (k : Grew v' v'' w' w'') : Grew v v'' w w'' := by
  obtain ⟨g1, e1⟩ := h
  obtain ⟨g2, e2⟩ := k
  refine ⟨⟨g2.os.trans g1.os, g2.tape.trans g1.tape, g2.output.trans g1.output, Nat.le_trans g1.size g2.size, fun i hi hne => ?_⟩, ?_⟩
  · rw [g2.block i (Nat.lt_of_lt_of_le hi g1.size) (fun he => ?_), g1.block i hi hne]
    rcases e1 with e1 | ⟨k, e1, hk⟩
    · rw [e1] at he; exact hne he
    · rw [e1] at he; simp only [Option.some.injEq] at he; omega
  · rcases e2 with e2 | ⟨k, e2, hk⟩
    · rw [e2]; exact e1
    · exact .inr ⟨k, e2, Nat.le_trans g1.size hk⟩
theorem Grew.below {v v' : Value} {w w' w0 : World} {B : Nat} (h : Grew v v' w w') (hb : Below B w0 w) (hB : B ≤ w.heap.size) (hv : ∀ k, v.ownBlock = some k → B ≤ k) : Below B w0 w' := hb.grown h.1 hB hv
/-- 'append' of one byte onto a row of the call's own. -/
theorem wpList_append_byte {w : World} {ops : Array Oper} {rest : List Oper} {o : Oper} {a : Act} {Q : Exit → Act → World → Prop} (hgd : o.guard = none) (s x : Operand)
    (ho : o.op = .call { callee := .builtin .append, args := #[s, x], argTypes := #[38, 38] })
    (base : Nat) (v : Value) (cur : List Int) (hs : a.eval s = v) (hown : OwnB w base v cur) (y : Int) (hy : 0 ≤ y ∧ y ≤ 255) (hx : a.eval x = .slice (some ⟨w.heap.size, 0, none⟩) 1 1)
    (hlen : cur.length ≤ 1000000) (hbase : base ≤ w.heap.size)
    (h : ∀ v' w', OwnB w' base v' (cur ++ [y]) → Grew v v' w w' → wpList Tryd.prog ops Q rest (a.put o.dst v') w') :
    wpList Tryd.prog ops Q (o :: rest) a (w.alloc (.cells #[.int .u8 y] 5)) := by
  obtain ⟨i0, hi, hz0, hz1, hz2⟩ := info_parts Tryd.infoU8
  refine wpList_append_at hgd s x 38 ho base 5 i0 (.int .u8 0) 1 1 Tryd.underlying38 hi hz0 hz1 hz2 rfl (by decide) v cur.length (cur.map (Value.int .u8)) hs (hown.alloc _).1 ⟨w.heap.size, 0, none⟩ 1 1 [.int .u8 y] hx rfl ?_ ?_ (by unfold maxLen; omega) (by omega) (by simp; omega) ?_
  · intro j u hj
    match j, hj with
    | 0, hj => simp at hj; subst hj; simp [Addr.add]
  · intro u hu; simp at hu; subst hu; rfl
  · intro v' w' h1 h2 h3
    refine h v' w' ⟨?_, ?_⟩ ⟨⟨h2.os, h2.tape, h2.output, Nat.le_trans (by simp) h2.size, fun i hi hne => ?_⟩, ?_⟩
    · rw [List.length_append, List.map_append]; exact h1
    · intro z hz
      rcases List.mem_append.1 hz with h' | h'
      · exact hown.2 z h'
      · rw [List.mem_singleton.1 h']; exact hy
    · rw [h2.block i (by simp; omega) hne]
      exact Below.heap_alloc w _ i hi
    · rcases h3 with h3 | h3
      · exact .inl h3
      · exact .inr ⟨_, h3, by simp⟩

/-- A row beside one that grows. -/
theorem OwnB.beside {w w' : World} {base b' : Nat} {t v v' : Value} {zs ys : List Int} (h : OwnB w base t zs) (hv : OwnB w b' v ys) (hlt : ∀ k, v.ownBlock = some k → k < base) (hg : w.grownBy w' v.ownBlock) : OwnB w' base t zs := by
  refine ⟨h.1.kept hg ?_, h.2⟩
  rcases ht : t.ownBlock with _ | k
  · exact .inl rfl
  · refine .inr (fun he => ?_)
    have h1 := (h.1.lt k ht).1
    have h2 := hlt k (by rw [← he])
    omega
theorem OwnB.block_lt {w : World} {base : Nat} {v : Value} {zs : List Int} (h : OwnB w base v zs) : ∀ k, v.ownBlock = some k → k < w.heap.size := fun k hk => (h.1.lt k hk).2
theorem OwnB.block_ge {w : World} {base : Nat} {v : Value} {zs : List Int} (h : OwnB w base v zs) : ∀ k, v.ownBlock = some k → base ≤ k := fun k hk => (h.1.lt k hk).1

theorem OwnB.apart {w w' : World} {base : Nat} {t : Value} {zs : List Int} {row : Option Nat} (h : OwnB w base t zs) (hg : w.grownBy w' row) (hne : ∀ k, t.ownBlock = some k → row = some k → False) : OwnB w' base t zs := by
  refine ⟨h.1.kept hg ?_, h.2⟩
  rcases ht : t.ownBlock with _ | k
  · exact .inl rfl
  · exact .inr (fun he => hne k ht he.symm)
end Go.Proofs.YtgodjaffmojhlaaDoor

namespace Go.Proofs.YtgodjaffmojhlaaDoor
open Go.RowKit
set_option linter.unusedVariables false

/-- Packets that lie one behind the other in memory. -/
def PkCells (w : World) (b o : Nat) (p : Pk) (bv : Value) : Prop :=
  (w.cell? ⟨b, o, none⟩ = some (.int .i64 p.kind) ∧ w.cell? ⟨b, o + 1, none⟩ = some (.int .i64 p.ttl) ∧ w.cell? ⟨b, o + 2, none⟩ = some (.int .i64 p.ident) ∧ w.cell? ⟨b, o + 3, none⟩ = some (.int .i64 p.src) ∧
    w.cell? ⟨b, o + 4, none⟩ = some (.int .i64 p.dst) ∧ w.cell? ⟨b, o + 5, none⟩ = some (.int .i64 p.pos) ∧ w.cell? ⟨b, o + 6, none⟩ = some (.bool p.more) ∧ w.cell? ⟨b, o + 7, none⟩ = some bv) ∧ Bytes w bv p.body
def Packs (w : World) (v : Value) (ps : List (Pk × Value)) : Prop :=
  (ps = [] ∧ ∃ a cap, v = .slice a 0 cap) ∨
  ∃ b off len cap, v = .slice (some ⟨b, off, none⟩) len cap ∧ len ≤ cap ∧ cap ≤ maxLen ∧ ps.length = len ∧ ∀ i (h : i < ps.length), PkCells w b (off + i * 8) ps[i].1 ps[i].2
theorem PkCells.lt {w : World} {b o : Nat} {p : Pk} {bv : Value} (h : PkCells w b o p bv) : b < w.heap.size := by
  rcases Nat.lt_or_ge b w.heap.size with h1 | h1
  · exact h1
  · have := h.1.1; simp [World.cell?, Array.getElem?_eq_none h1] at this
theorem PkCells.below {w w' : World} {b o : Nat} {p : Pk} {bv : Value} (h : PkCells w b o p bv) (hb : Below w.heap.size w w') : PkCells w' b o p bv := by
  have hl := h.lt
  obtain ⟨⟨h0, h1, h2, h3, h4, h5, h6, h7⟩, h8⟩ := h
  refine ⟨⟨?_, ?_, ?_, ?_, ?_, ?_, ?_, ?_⟩, h8.below (Nat.le_refl _) hb⟩
  · rw [hb.cell (p := ⟨b, o, none⟩) hl]; exact h0
  · rw [hb.cell (p := ⟨b, o + 1, none⟩) hl]; exact h1
  · rw [hb.cell (p := ⟨b, o + 2, none⟩) hl]; exact h2
  · rw [hb.cell (p := ⟨b, o + 3, none⟩) hl]; exact h3
  · rw [hb.cell (p := ⟨b, o + 4, none⟩) hl]; exact h4
  · rw [hb.cell (p := ⟨b, o + 5, none⟩) hl]; exact h5
  · rw [hb.cell (p := ⟨b, o + 6, none⟩) hl]; exact h6
  · rw [hb.cell (p := ⟨b, o + 7, none⟩) hl]; exact h7
theorem OwnB.below {w w' : World} {base : Nat} {v : Value} {zs : List Int} (h : OwnB w base v zs) (hb : Below w.heap.size w w') : OwnB w' base v zs := by
  refine ⟨⟨h.1.1, ?_⟩, h.2⟩
  rcases h.1.2 with h2 | ⟨g, cap, cur, hv, hg, hh, hr⟩
  · exact .inl h2
  · refine .inr ⟨g, cap, cur, hv, hg, ?_, hr⟩
    have hlt : g < w.heap.size := by
      rcases Nat.lt_or_ge g w.heap.size with h1 | h1
      · exact h1
      · simp [Array.getElem?_eq_none h1] at hh
    rw [hb.block g hlt]; exact hh

theorem bytes_rest {w : World} {b off len cap : Nat} {zs : List Int} (n : Nat) (h : Row w b off zs) (hl : len ≤ cap) (hm : cap ≤ maxLen) (h62 : len < 2 ^ 62) (hz : zs.length = len) (hn : n ≤ len) {ad : Option Addr}
    (ha : (if cap = n then some ⟨b, off, none⟩ else some ⟨b, off + n, none⟩) = ad) : Bytes w (.slice ad (len - n) (cap - n)) (zs.drop n) := by
  by_cases hc : n = len
  · subst hc
    refine .inl ⟨List.drop_eq_nil_of_le (by omega), ad, cap - n, by simp, fun h => ?_⟩
    subst h; split at ha <;> cases ha
  · rw [if_neg (by omega)] at ha
    subst ha
    have e : (zs.drop n).take (len - n) = zs.drop n := List.take_of_length_le (by simp; omega)
    exact .inr ⟨b, off + n, len - n, cap - n, rfl, by omega, by unfold maxLen at *; omega, by omega, by simp; omega, e ▸ h.part n (len - n) (by omega)⟩

theorem bel4R (w : World) {w' : World} (h : Below w.drew.heap.size w.drew w') : Below w.heap.size w w' := ⟨h.os, h.tape, h.output, h.size, h.block⟩

/-- The cells of packets, one behind the other. -/
def pkCells (qs : List (Pk × Value)) : List Value := qs.flatMap fun q => [.int .i64 q.1.kind, .int .i64 q.1.ttl, .int .i64 q.1.ident, .int .i64 q.1.src, .int .i64 q.1.dst, .int .i64 q.1.pos, .bool q.1.more, q.2]
/-- The value v is a slice of the call's own, from block 'base' on, that holds the packets qs. -/
def OwnK (w : World) (base : Nat) (v : Value) (qs : List (Pk × Value)) : Prop := w.ownsRow base 40 8 v qs.length (pkCells qs)
theorem pkCells_append (a b : List (Pk × Value)) : pkCells (a ++ b) = pkCells a ++ pkCells b := by simp [pkCells]
theorem pkCells_len (qs : List (Pk × Value)) : (pkCells qs).length = qs.length * 8 := by
  induction qs with
  | nil => rfl
  | cons q r ih => simp only [pkCells, List.flatMap_cons, List.length_append] at ih ⊢; simp at ih ⊢; omega
theorem Tryd.infoPk : (Tryd.prog.info? 40).map (fun i => (i.zero, i.size, i.bytes)) = some (some (.agg #[.int .i64 0, .int .i64 0, .int .i64 0, .int .i64 0, .int .i64 0, .int .i64 0, .bool false, .slice none 0 0]), 8, 80) := by kernel_rfl
theorem OwnK.nil (w : World) (base : Nat) : OwnK w base (.slice none 0 0) [] := World.ownsRow_nil _ _ _ _
theorem OwnK.alloc {w : World} {base : Nat} {v : Value} {qs : List (Pk × Value)} (h : OwnK w base v qs) (o : Obj) : OwnK (w.alloc o) base v qs := World.ownsRow.alloc h o
theorem OwnK.drewN {w : World} {base : Nat} {v : Value} {qs : List (Pk × Value)} (h : OwnK w base v qs) (n : Nat) : OwnK (w.drewN n) base v qs := ownsRow_drewN h n
theorem OwnK.same {w w' : World} {base : Nat} {v : Value} {qs : List (Pk × Value)} (h : OwnK w base v qs) (hs : Same w w') : OwnK w' base v qs := by
  obtain ⟨n, rfl⟩ := hs; exact h.drewN n
theorem OwnK.base {w : World} {b b' : Nat} {v : Value} {qs : List (Pk × Value)} (h : OwnK w b v qs) (hb : b' ≤ b) : OwnK w b' v qs := by
  obtain ⟨h1, h2⟩ := h
  refine ⟨h1, ?_⟩
  rcases h2 with h2 | ⟨g, cap, cur, hv, hbg, rest⟩
  · exact .inl h2
  · exact .inr ⟨g, cap, cur, hv, Nat.le_trans hb hbg, rest⟩
theorem OwnK.below {w w' : World} {base : Nat} {v : Value} {qs : List (Pk × Value)} (h : OwnK w base v qs) (hb : Below w.heap.size w w') : OwnK w' base v qs := by
  obtain ⟨h1, h2⟩ := h
  refine ⟨h1, ?_⟩
  rcases h2 with h2 | ⟨g, cap, cur, hv, hbg, hh, rest⟩
  · exact .inl h2
  · refine .inr ⟨g, cap, cur, hv, hbg, ?_, rest⟩
    have hlt : g < w.heap.size := by
      rcases Nat.lt_or_ge g w.heap.size with h | h
      · exact h
      · simp [Array.getElem?_eq_none h] at hh
    rw [hb.block g hlt]; exact hh
theorem OwnK.block {w : World} {base : Nat} {v : Value} {qs : List (Pk × Value)} (h : OwnK w base v qs) : ∀ k, v.ownBlock = some k → base ≤ k ∧ k < w.heap.size := fun k hk => World.ownsRow.lt h k hk
theorem OwnK.only {w w' : World} {base g : Nat} {v : Value} {qs : List (Pk × Value)} (h : OwnK w base v qs) (hne : v.ownBlock ≠ some g) (ho : Only g w w') : OwnK w' base v qs := by
  obtain ⟨h1, h2⟩ := h
  refine ⟨h1, ?_⟩
  rcases h2 with h2 | ⟨k, cap, cur, hv, hbg, hh, rest⟩
  · exact .inl h2
  · refine .inr ⟨k, cap, cur, hv, hbg, ?_, rest⟩
    rw [ho.block k (fun e => hne (by rw [hv, ← e]; rfl))]; exact hh
theorem OwnK.shape {w : World} {base : Nat} {v : Value} {qs : List (Pk × Value)} (h : OwnK w base v qs) (hz : 0 < qs.length) :
    ∃ g cap, v = .slice (some ⟨g, 0, none⟩) qs.length cap ∧ base ≤ g ∧ g < w.heap.size ∧ qs.length ≤ cap ∧ cap ≤ maxLen := by
  obtain ⟨_, h2⟩ := h
  rcases h2 with ⟨_, h0⟩ | ⟨g, cap, cur, rfl, hb, hh, hl, hm, _, _⟩
  · omega
  · refine ⟨g, cap, rfl, hb, ?_, hl, hm⟩
    rcases Nat.lt_or_ge g w.heap.size with h1 | h1
    · exact h1
    · simp [Array.getElem?_eq_none h1] at hh
theorem OwnK.len {w : World} {base : Nat} {v : Value} {qs : List (Pk × Value)} (h : OwnK w base v qs) : ∃ a c, v = .slice a qs.length c := by
  obtain ⟨_, h2⟩ := h
  rcases h2 with ⟨rfl, h0⟩ | ⟨g, cap, cur, rfl, hb, hh, hl, hm, _, _⟩
  · rw [h0]; exact ⟨_, _, rfl⟩
  · exact ⟨_, _, rfl⟩
theorem pkCells_get (qs : List (Pk × Value)) : ∀ (i : Nat) (h : i < qs.length), (pkCells qs).drop (i * 8) = [.int .i64 qs[i].1.kind, .int .i64 qs[i].1.ttl, .int .i64 qs[i].1.ident, .int .i64 qs[i].1.src, .int .i64 qs[i].1.dst, .int .i64 qs[i].1.pos, .bool qs[i].1.more, qs[i].2] ++ pkCells (qs.drop (i + 1)) := by
  induction qs with
  | nil => intro i h; simp at h
  | cons q r ih =>
    intro i h
    match i with
    | 0 => simp [pkCells]
    | i + 1 =>
      have e := ih i (by simpa using h)
      rw [show (i + 1) * 8 = 8 + i * 8 by omega, ← List.drop_drop]
      have e2 : (pkCells (q :: r)).drop 8 = pkCells r := by simp [pkCells]
      rw [e2, e]; simp
theorem add_off0 (g m : Nat) : Addr.add ⟨g, 0, none⟩ m = ⟨g, m, none⟩ := by by_cases h0 : m = 0 <;> simp [Addr.add, h0]
theorem OwnK.cells {w : World} {base g n cap : Nat} {qs : List (Pk × Value)} (h : OwnK w base (.slice (some ⟨g, 0, none⟩) n cap) qs) (i : Nat) (hi : i < qs.length) (hb : Bytes w qs[i].2 qs[i].1.body) : PkCells w g (i * 8) qs[i].1 qs[i].2 := by
  have hc := World.ownsRow.cells h (g := g) rfl
  have e := pkCells_get qs i hi
  have get : ∀ j u, ([.int .i64 qs[i].1.kind, .int .i64 qs[i].1.ttl, .int .i64 qs[i].1.ident, .int .i64 qs[i].1.src, .int .i64 qs[i].1.dst, .int .i64 qs[i].1.pos, .bool qs[i].1.more, qs[i].2] : List Value)[j]? = some u → w.cell? ⟨g, i * 8 + j, none⟩ = some u := by
    intro j u hu
    have h2 : (pkCells qs)[i * 8 + j]? = some u := by
      rw [← List.getElem?_drop, e, List.getElem?_append_left]
      · exact hu
      · rcases Nat.lt_or_ge j 8 with h8 | h8
        · simpa using h8
        · simp [List.getElem?_eq_none (show ([.int .i64 qs[i].1.kind, .int .i64 qs[i].1.ttl, .int .i64 qs[i].1.ident, .int .i64 qs[i].1.src, .int .i64 qs[i].1.dst, .int .i64 qs[i].1.pos, .bool qs[i].1.more, qs[i].2] : List Value).length ≤ j by simpa using h8)] at hu
    have h3 := hc _ _ h2
    have ea : Addr.add ⟨g, 0, none⟩ (i * 8 + j) = ⟨g, i * 8 + j, none⟩ := add_off0 g _
    rw [ea] at h3; exact h3
  exact ⟨⟨get 0 _ rfl, get 1 _ rfl, get 2 _ rfl, get 3 _ rfl, get 4 _ rfl, get 5 _ rfl, get 6 _ rfl, get 7 _ rfl⟩, hb⟩

/-- 'append' of one packet onto a row of the call's own. -/
theorem wpList_append_pk {w : World} {ops : Array Oper} {rest : List Oper} {o : Oper} {a : Act} {Q : Exit → Act → World → Prop} (hgd : o.guard = none) (s x : Operand)
    (ho : o.op = .call { callee := .builtin .append, args := #[s, x], argTypes := #[22, 22] })
    (base : Nat) (v : Value) (qs : List (Pk × Value)) (hs : a.eval s = v) (hown : OwnK w base v qs) (b : Nat) (p : Pk) (ab : Option Addr) (lb cb : Nat) (hx : a.eval x = .slice (some ⟨b, 0, none⟩) 1 1) (hp : PkAt w b p (.slice ab lb cb))
    (hlen : qs.length ≤ 100000) (hbase : base ≤ w.heap.size)
    (h : ∀ v' w', OwnK w' base v' (qs ++ [(p, .slice ab lb cb)]) → w.grownBy w' v.ownBlock → (v'.ownBlock = v.ownBlock ∨ v'.ownBlock = some w.heap.size) → wpList Tryd.prog ops Q rest (a.put o.dst v') w') :
    wpList Tryd.prog ops Q (o :: rest) a w := by
  obtain ⟨i0, hi, hz0, hz1, hz2⟩ := info_parts Tryd.infoPk
  obtain ⟨c0, c1, c2, c3, c4, c5, c6, c7⟩ := hp.cells
  refine wpList_append_at hgd s x 22 ho base 40 i0 _ 8 80 Tryd.underlying22 hi hz0 hz1 hz2 rfl (by decide) v qs.length (pkCells qs) hs hown ⟨b, 0, none⟩ 1 1 [.int .i64 p.kind, .int .i64 p.ttl, .int .i64 p.ident, .int .i64 p.src, .int .i64 p.dst, .int .i64 p.pos, .bool p.more, .slice ab lb cb] hx rfl ?_ ?_ (by unfold maxLen; omega) (by omega) hbase ?_
  · intro j u hj
    have ea : Addr.add ⟨b, 0, none⟩ j = ⟨b, j, none⟩ := by by_cases h0 : j = 0 <;> simp [Addr.add, h0]
    rw [ea]
    match j, hj with
    | 0, hj => simp at hj; subst hj; exact c0
    | 1, hj => simp at hj; subst hj; exact c1
    | 2, hj => simp at hj; subst hj; exact c2
    | 3, hj => simp at hj; subst hj; exact c3
    | 4, hj => simp at hj; subst hj; exact c4
    | 5, hj => simp at hj; subst hj; exact c5
    | 6, hj => simp at hj; subst hj; exact c6
    | 7, hj => simp at hj; subst hj; exact c7
  · intro u hu
    simp only [List.mem_cons, List.not_mem_nil, or_false] at hu
    rcases hu with rfl | rfl | rfl | rfl | rfl | rfl | rfl | rfl <;> rfl
  · intro v' w' h1 h2 h3
    refine h v' w' ?_ h2 h3
    unfold OwnK
    rw [List.length_append, pkCells_append]; exact h1
theorem OwnB.baseLe {w : World} {v : Value} {zs : List Int} {base b' : Nat} (hv : OwnB w base v zs) (hb : b' ≤ base) : OwnB w b' v zs := by
  refine ⟨⟨hv.1.1, ?_⟩, hv.2⟩
  rcases hv.1.2 with h2 | ⟨g, cap, cur, e, hg, hh, hr⟩
  · exact .inl h2
  · exact .inr ⟨g, cap, cur, e, Nat.le_trans hb hg, hh, hr⟩
/-- The bodies of packets, in rows of the call's own, apart from the row v. -/
def Bods (w : World) (base : Nat) (v : Value) (qs : List (Pk × Value)) : Prop := ∀ q ∈ qs, OwnB w base q.2 q.1.body ∧ ∀ k, q.2.ownBlock = some k → v.ownBlock ≠ some k
theorem Bods.nil (w : World) (base : Nat) (v : Value) : Bods w base v [] := fun q hq => by cases hq
theorem Bods.below {w w' : World} {base : Nat} {v : Value} {qs : List (Pk × Value)} (h : Bods w base v qs) (hb : Below w.heap.size w w') : Bods w' base v qs := fun q hq => ⟨(h q hq).1.below hb, (h q hq).2⟩
theorem Bods.base {w : World} {b b' : Nat} {v : Value} {qs : List (Pk × Value)} (h : Bods w b v qs) (hb : b' ≤ b) : Bods w b' v qs := fun q hq => ⟨by
  have h1 := (h q hq).1
  refine ⟨⟨h1.1.1, ?_⟩, h1.2⟩
  rcases h1.1.2 with h2 | ⟨g, cap, cur, e, hg, hr⟩
  · exact .inl h2
  · exact .inr ⟨g, cap, cur, e, Nat.le_trans hb hg, hr⟩, (h q hq).2⟩
theorem OwnB.only {w w' : World} {base g : Nat} {v : Value} {zs : List Int} (h : OwnB w base v zs) (hne : v.ownBlock ≠ some g) (ho : Only g w w') : OwnB w' base v zs := by
  refine ⟨⟨h.1.1, ?_⟩, h.2⟩
  rcases h.1.2 with h2 | ⟨k, cap, cur, hv, hbg, hh, rest⟩
  · exact .inl h2
  · refine .inr ⟨k, cap, cur, hv, hbg, ?_, rest⟩
    rw [ho.block k (fun e => hne (by rw [hv, ← e]; rfl))]; exact hh
theorem Bods.only {w w' : World} {base g : Nat} {v : Value} {qs : List (Pk × Value)} (h : Bods w base v qs) (hg : g < base) (ho : Only g w w') : Bods w' base v qs :=
  fun q hq => ⟨(h q hq).1.only (fun e => by have := ((h q hq).1.1.lt g e).1; omega) ho, (h q hq).2⟩
/-- The row has grown by one packet, whose body lies in a row of its own. -/
theorem Bods.snoc {w w' : World} {base : Nat} {v v' : Value} {qs : List (Pk × Value)} {q : Pk × Value} (h : Bods w base v qs) (hv : OwnK w base v qs) (hq : OwnB w base q.2 q.1.body) (ha : ∀ k, q.2.ownBlock = some k → v.ownBlock ≠ some k)
    (hg : w.grownBy w' v.ownBlock) (hn : v'.ownBlock = v.ownBlock ∨ v'.ownBlock = some w.heap.size) : Bods w' base v' (qs ++ [q]) := by
  have one : ∀ x : Pk × Value, OwnB w base x.2 x.1.body → (∀ k, x.2.ownBlock = some k → v.ownBlock ≠ some k) → OwnB w' base x.2 x.1.body ∧ ∀ k, x.2.ownBlock = some k → v'.ownBlock ≠ some k := by
    intro x hx hx2
    refine ⟨hx.apart hg (fun k hk hk2 => hx2 k hk hk2), fun k hk e => ?_⟩
    rcases hn with hn | hn
    · exact hx2 k hk (hn ▸ e)
    · have := (hx.1.lt k hk).2
      rw [hn] at e; cases e; omega
  intro x hx
  rcases List.mem_append.1 hx with h' | h'
  · exact one x (h x h').1 (h x h').2
  · rw [List.mem_singleton.1 h']; exact one q hq ha
theorem pkCells_nobyte {qs : List (Pk × Value)} (h : ∀ q ∈ qs, ∃ a n c, q.2 = .slice a n c) : ∀ u ∈ pkCells qs, ∀ z, u ≠ .int .u8 z := by
  intro u hu z
  obtain ⟨q, hq, hx⟩ := List.mem_flatMap.1 hu
  obtain ⟨a, n, c, e⟩ := h q hq
  simp only [List.mem_cons, List.not_mem_nil, or_false] at hx
  rcases hx with rfl | rfl | rfl | rfl | rfl | rfl | rfl | rfl <;> simp [e]
end Go.Proofs.YtgodjaffmojhlaaDoor

namespace Go.Proofs.YtgodjaffmojhlaaDoor
open Go.ChangeShapes Go.WideShapes Go.ChangeAt Go.RowKit Go.Joins Go.Deep
set_option linter.unusedVariables false

theorem choose_list {α : Type} {P : Nat → α → Prop} : ∀ (n : Nat), (∀ i, i < n → ∃ a, P i a) → ∃ l : List α, l.length = n ∧ ∀ i (h : i < l.length), P i l[i]
  | 0, _ => ⟨[], rfl, fun i h => by simp at h⟩
  | n + 1, H => by
      obtain ⟨l, hl, hp⟩ := choose_list n (fun i hi => H i (by omega))
      obtain ⟨a, ha⟩ := H n (by omega)
      refine ⟨l ++ [a], by simp [hl], fun i hi => ?_⟩
      by_cases h : i < l.length
      · rw [List.getElem_append_left h]; exact hp i h
      · have e : i = n := by simp at hi; omega
        subst e
        subst hl
        simpa using ha
theorem add_lit8 (b off i : Nat) : Addr.add ⟨b, off, none⟩ i = ⟨b, off + i, none⟩ := by by_cases hi0 : i = 0 <;> simp [Addr.add, hi0]

set_option maxRecDepth 100000 in
theorem open_packs {H : Type} {enc : TypeId × Value → H} {W : World} {a : Option Addr} {len cap : Nat} {d : DataW H} {p : List MemPlace} {ts : List TypeId} {ds : List (DataW H)} {j : Nat}
    (h : DataW.Trod enc Tryd.prog W 0 (fun _ => true) true 22 (Value.slice a len cap) d p)
    (hsz : (DataW.weightsEach Tryd.prog ts ds).all (· ≤ reachBytes) = true) (ht : ts[j]? = some 22) (hd : ds[j]? = some d) : ∃ ps, Packs W (.slice a len cap) ps := by
  obtain ⟨fuel, hf⟩ := h
  rcases open_slice Tryd.underlying22 hf with ⟨hcs, _⟩ | ⟨x, l, c, m, n, D, Pl, hcs, _, hl, hm, hmm, hx, hall⟩
  · simp [Value.cells] at hcs
    obtain ⟨rfl, rfl, rfl⟩ := hcs
    exact ⟨[], .inl ⟨rfl, _, _, rfl⟩⟩
  · simp [Value.cells] at hcs
    obtain ⟨rfl, rfl, rfl⟩ := hcs
    have hmc : m = cap := by simpa using hmm
    subst hmc
    simp only [Prod.mk.injEq] at hx
    obtain ⟨rfl, _⟩ := hx
    by_cases h0 : len = 0
    · subst h0
      exact ⟨[], .inl ⟨rfl, _, _, rfl⟩⟩
    have hw : ∀ i, i < len → ∀ n ∈ (D i).weights Tryd.prog 40, n ≤ reachBytes := by
      intro i hi n hn
      have h1 : n ∈ DataW.weightsAll Tryd.prog 40 ((List.range len).map D) := mem_weightsAll (List.mem_map.2 ⟨i, by simpa using hi, rfl⟩) n hn
      have h2 : n ∈ (DataW.slice ((List.range len).map D) ((List.range (m - len)).map fun j => D (len + j))).weights Tryd.prog 22 := by
        simp only [DataW.weights, Tryd.underlying22]
        exact List.mem_cons_of_mem _ (List.mem_append_left _ h1)
      have := List.all_eq_true.1 hsz _ (DataW.weights_mem_each ht hd n h2)
      simpa using this
    obtain ⟨b, off, spot⟩ := x
    have hspot : spot = none := by
      obtain ⟨cs', h1, _⟩ := hall 0 (by omega)
      rw [Tryd.cellsPk] at h1
      obtain ⟨_, hlen, hc⟩ := World.cells?_some h1
      have := hc 0 (by omega)
      rw [List.getElem?_eq_getElem (by omega)] at this
      simpa [Addr.add] using World.cell?_spot this
    subst hspot
    have hone : ∀ i, i < len → ∃ q : Pk × Value, PkCells W b (off + i * 8) q.1 q.2 := by
      intro i hi
      obtain ⟨cs', h1, h2⟩ := hall i (by omega)
      rw [Tryd.cellsPk] at h1
      obtain ⟨_, hlen, hc⟩ := World.cells?_some h1
      obtain ⟨q, bv, e, hb⟩ := open_pkcells h2 (hw i hi)
      subst e
      refine ⟨(q, bv), ⟨?_, ?_, ?_, ?_, ?_, ?_, ?_, ?_⟩, hb⟩
      · have := hc 0 (by omega); rw [add_lit8, add_lit8] at this; exact this
      · have := hc 1 (by omega); rw [add_lit8, add_lit8] at this; exact this
      · have := hc 2 (by omega); rw [add_lit8, add_lit8] at this; exact this
      · have := hc 3 (by omega); rw [add_lit8, add_lit8] at this; exact this
      · have := hc 4 (by omega); rw [add_lit8, add_lit8] at this; exact this
      · have := hc 5 (by omega); rw [add_lit8, add_lit8] at this; exact this
      · have := hc 6 (by omega); rw [add_lit8, add_lit8] at this; exact this
      · have := hc 7 (by omega); rw [add_lit8, add_lit8] at this; exact this
    obtain ⟨ps, hps, hp⟩ := choose_list len hone
    exact ⟨ps, .inr ⟨b, off, len, m, rfl, hl, hm, hps, hp⟩⟩

end Go.Proofs.YtgodjaffmojhlaaDoor

namespace Go.Proofs.YtgodjaffmojhlaaDoor
open Go.ChangeShapes Go.WideShapes Go.ChangeAt Go.RowKit
set_option linter.unusedVariables false

/-- The value v is a slice of these numbers. -/
def Nums (w : World) (v : Value) (zs : List Int) : Prop :=
  (zs = [] ∧ ∃ a cap, v = .slice a 0 cap) ∨
  ∃ b off len cap, v = .slice (some ⟨b, off, none⟩) len cap ∧ len ≤ cap ∧ cap ≤ maxLen ∧ zs.length = len ∧ b < w.heap.size ∧ ∀ i, i < zs.length → w.cell? ⟨b, off + i, none⟩ = some (.int .i64 (zs.getD i 0))
theorem open_nums {H : Type} {enc : TypeId × Value → H} {W : World} {a : Option Addr} {len cap : Nat} {d : DataW H} {p : List MemPlace} {ts : List TypeId} {ds : List (DataW H)} {j : Nat}
    (h : DataW.Trod enc Tryd.prog W 0 (fun _ => true) true 23 (Value.slice a len cap) d p)
    (hsz : (DataW.weightsEach Tryd.prog ts ds).all (· ≤ reachBytes) = true) (ht : ts[j]? = some 23) (hd : ds[j]? = some d) :
    ∃ zs, Nums W (.slice a len cap) zs ∧ zs.length ≤ 140737488355328 := by
  obtain ⟨fuel, hf⟩ := h
  rcases open_ints Tryd.underlying23 Tryd.underlying3 (by kernel_rfl) hf with ⟨hcs, _⟩ | ⟨x, l, c, zs, hcs, _, hl, hm, hz, hx, hcell, hwz⟩
  · simp [Value.cells] at hcs
    obtain ⟨rfl, rfl, rfl⟩ := hcs
    exact ⟨[], .inl ⟨rfl, _, _, rfl⟩, by simp⟩
  · simp [Value.cells] at hcs
    obtain ⟨rfl, rfl, rfl⟩ := hcs
    have hz' : zs.length = cap := by simpa using hz
    simp only [Prod.mk.injEq] at hx
    obtain ⟨rfl, _⟩ := hx
    have hb := sized_slice hsz ht hd Tryd.underlying23
    rw [show Tryd.prog.bytesOf 3 = 8 by kernel_rfl] at hb
    have hcap : cap * 8 ≤ reachBytes := by simpa [lits, hz', Nat.min_eq_left hl, Nat.add_sub_cancel' hl] using hb
    have hcb : reachBytes < 2 ^ 47 := reachBytes_lt
    refine ⟨zs.take len, ?_, by simp; omega⟩
    by_cases h0 : len = 0
    · subst h0
      exact .inl ⟨by simp, _, _, rfl⟩
    · obtain ⟨b, off, spot⟩ := x
      have hc := hcell 0 (by omega)
      have hspot : spot = none := by simpa [Addr.add] using World.cell?_spot hc
      subst hspot
      have hlt : b < W.heap.size := by
        rcases Nat.lt_or_ge b W.heap.size with h1 | h1
        · exact h1
        · simp [World.cell?, Addr.add, Array.getElem?_eq_none h1] at hc
      refine .inr ⟨b, off, len, cap, rfl, hl, hm, by simp; omega, hlt, fun i hi => ?_⟩
      have hi' : i < len := by simp at hi; omega
      have := hcell i (by omega)
      have ea : Addr.add ⟨b, off, none⟩ i = ⟨b, off + i, none⟩ := by by_cases hi0 : i = 0 <;> simp [Addr.add, hi0]
      rw [ea] at this
      rw [this]
      congr 2
      simp [List.getD, hi']
end Go.Proofs.YtgodjaffmojhlaaDoor
