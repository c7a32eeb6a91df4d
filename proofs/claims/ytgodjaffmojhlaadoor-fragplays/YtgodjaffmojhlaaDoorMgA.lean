/- Plain facts on sums of 16 bits and on lists of bytes: what is proved here speaks of no Go text and asks no condition of a program. -/
import Derived.WalkKit
import Derived.Laws.BitsLemmas
import Derived.Test.YtgodjaffmojhlaaDoorProg
import Derived.Deep.QuietTactic
import Derived.BigQuiet
import Derived.Test.YtgodjaffmojhlaaDoorOpen
import Derived.Laws.AppendOwnNone
import Derived.Laws.OwnMore
import Derived.OneCell
import Derived.Below
import Derived.WalkSmall
import Derived.Laws.AppendOwn
namespace Go.Proofs.YtgodjaffmojhlaaDoor

def addS (a b : Int) : Int := if 65535 < a + b then a + b - 65535 else a + b
def tot : Int → List Int → Int
  | t, [] => t
  | t, [a] => addS t (a * 256)
  | t, a :: b :: r => tot (addS t (a * 256 + b)) r
def word (n : Int) : Bool := decide (0 ≤ n ∧ n ≤ 65535)
theorem addS_range {a b : Int} (ha : 0 ≤ a) (ha' : a ≤ 65535) (hb : 0 ≤ b) (hb' : b ≤ 65535) : 0 ≤ addS a b ∧ addS a b ≤ 65535 := by
  unfold addS; split <;> omega
theorem tot_range : ∀ (l : List Int) (t : Int), (∀ x ∈ l, 0 ≤ x ∧ x ≤ 255) → 0 ≤ t → t ≤ 65535 → 0 ≤ tot t l ∧ tot t l ≤ 65535
  | [], t, _, h0, h1 => by simp [tot]; omega
  | [a], t, h, h0, h1 => by
      have := h a (by simp)
      exact addS_range h0 h1 (by omega) (by omega)
  | a :: b :: r, t, h, h0, h1 => by
      have ha := h a (by simp)
      have hb := h b (by simp)
      have hs := addS_range h0 h1 (b := a * 256 + b) (by omega) (by omega)
      exact tot_range r _ (fun x hx => h x (by simp [hx])) hs.1 hs.2
theorem tot_drop2 (l : List Int) (k : Nat) (t : Int) (h : k + 1 < l.length) :
    tot t (l.drop k) = tot (addS t (l.getD k 0 * 256 + l.getD (k + 1) 0)) (l.drop (k + 2)) := by
  rw [List.drop_eq_getElem_cons (by omega : k < l.length), List.drop_eq_getElem_cons (by omega : k + 1 < l.length)]
  simp [tot, List.getD, List.getElem?_eq_getElem (by omega : k < l.length), List.getElem?_eq_getElem (by omega : k + 1 < l.length)]
theorem tot_drop1 (l : List Int) (k : Nat) (t : Int) (h : k + 1 = l.length) :
    tot t (l.drop k) = addS t (l.getD k 0 * 256) := by
  rw [List.drop_eq_getElem_cons (by omega : k < l.length), List.drop_eq_nil_of_le (by omega : l.length ≤ k + 1)]
  simp [tot, List.getD, List.getElem?_eq_getElem (by omega : k < l.length)]
theorem tot_drop0 (l : List Int) (k : Nat) (t : Int) (h : l.length ≤ k) : tot t (l.drop k) = t := by
  rw [List.drop_eq_nil_of_le h, tot]
theorem getD_byte {l : List Int} {k : Nat} (h : k < l.length) (hb : ∀ x ∈ l, 0 ≤ x ∧ x ≤ 255) : 0 ≤ l.getD k 0 ∧ l.getD k 0 ≤ 255 := by
  have e : l.getD k 0 = l[k] := by simp [List.getD, h]
  rw [e]; exact hb _ (List.getElem_mem _)
theorem wraps_i64 (n : Int) (h₀ : 0 ≤ n) (h₁ : n < 2 ^ 16) : IntKind.i64.wrap n = n := by rw [IntKind.wrap_i64]; omega
theorem or8 (x y : Int) (h0 : 0 ≤ x) (h1 : x ≤ 255) (h2 : 0 ≤ y) (h3 : y ≤ 255) : bits .or .i64 (x * 256) y = x * 256 + y :=
  bits_join .i64 16 (by decide) wraps_i64 8 _ _ (by omega) (by omega) (by omega) (by omega) (by omega) (by omega)
theorem ret_int {k : IntKind} {a b : Int} (h : a = b) : Ending.returned (.int k a) = .returned (.int k b) := by rw [h]
theorem slice_eq {b o o' l l' c c' : Nat} (h1 : o = o') (h2 : l = l') (h3 : c = c') : Value.slice (some ⟨b, o, none⟩) l c = .slice (some ⟨b, o', none⟩) l' c' := by rw [h1, h2, h3]
theorem slice_if {p : Prop} [Decidable p] {b o1 o2 o' l l' c c' : Nat} (h1 : o' = if p then o1 else o2) (h2 : l = l') (h3 : c = c') :
    Value.slice (if p then some ⟨b, o1, none⟩ else some ⟨b, o2, none⟩) l c = .slice (some ⟨b, o', none⟩) l' c' := by
  subst h1 h2 h3; split <;> rfl
end Go.Proofs.YtgodjaffmojhlaaDoor

namespace Go.Proofs.YtgodjaffmojhlaaDoor
open Go.RowKit
set_option linter.unusedVariables false


/-- A row of bytes in memory, written out. -/
def Row (w : World) (b off : Nat) (zs : List Int) : Prop :=
  (∀ i, i < zs.length → w.cell? ⟨b, off + i, none⟩ = some (.int .u8 (zs.getD i 0))) ∧ ∀ x ∈ zs, 0 ≤ x ∧ x ≤ 255


/-- A value that is a slice of these bytes. -/
def Bytes (w : World) (v : Value) (zs : List Int) : Prop :=
  (zs = [] ∧ ∃ a cap, v = .slice a 0 cap ∧ (a = none → cap = 0)) ∨
  ∃ b off len cap, v = .slice (some ⟨b, off, none⟩) len cap ∧ len ≤ cap ∧ cap ≤ maxLen ∧ len < 2 ^ 62 ∧ zs.length = len ∧ Row w b off zs

theorem Row.drewN {w : World} {b off : Nat} {zs : List Int} (h : Row w b off zs) (n : Nat) : Row (w.drewN n) b off zs := by
  refine ⟨fun i hi => ?_, h.2⟩
  have := h.1 i hi
  simpa using this
theorem Bytes.drewN {w : World} {v : Value} {zs : List Int} (h : Bytes w v zs) (n : Nat) : Bytes (w.drewN n) v zs := by
  rcases h with h | ⟨b, off, len, cap, h1, h2, h3, h4, h5, h6⟩
  · exact .inl h
  · exact .inr ⟨b, off, len, cap, h1, h2, h3, h4, h5, h6.drewN n⟩
theorem Bytes.byte {w : World} {v : Value} {zs : List Int} (h : Bytes w v zs) : ∀ x ∈ zs, 0 ≤ x ∧ x ≤ 255 := by
  rcases h with ⟨rfl, _⟩ | ⟨_, _, _, _, _, _, _, _, _, h⟩
  · intro x hx; cases hx
  · exact h.2
theorem Bytes.tot {w : World} {v : Value} {zs : List Int} (h : Bytes w v zs) : 0 ≤ tot 0 zs ∧ Go.Proofs.YtgodjaffmojhlaaDoor.tot 0 zs ≤ 65535 :=
  tot_range zs 0 h.byte (by omega) (by omega)

end Go.Proofs.YtgodjaffmojhlaaDoor

namespace Go.Proofs.YtgodjaffmojhlaaDoor
open Go.ChangeShapes Go.WideShapes Go.ChangeAt Go.RowKit
set_option linter.unusedVariables false

theorem u8_wf {n : Int} (h : (Lit.int .u8 n).wf = true) : 0 ≤ n ∧ n ≤ 255 := by
  have := bounds_u8 h; omega

/-- Bytes that came in. -/
theorem open_bytes {H : Type} {enc : TypeId × Value → H} {W : World} {a : Option Addr} {len cap : Nat} {d : DataW H} {p : List MemPlace} {ts : List TypeId} {ds : List (DataW H)} {j : Nat}
    (h : DataW.Trod enc Tryd.prog W 0 (fun _ => true) true 38 (Value.slice a len cap) d p)
    (hsz : (DataW.weightsEach Tryd.prog ts ds).all (· ≤ reachBytes) = true) (ht : ts[j]? = some 38) (hd : ds[j]? = some d) :
    ∃ zs, Bytes W (.slice a len cap) zs ∧ cap ≤ reachBytes ∧ zs.length ≤ cap := by
  obtain ⟨fuel, hf⟩ := h
  rcases open_ints Tryd.underlying38 Tryd.underlying5 (by kernel_rfl) hf with ⟨hcs, _⟩ | ⟨x, l, c, zs, hcs, _, hl, hm, hz, hx, hcell, hwz⟩
  · simp [Value.cells] at hcs
    obtain ⟨rfl, rfl, rfl⟩ := hcs
    exact ⟨[], .inl ⟨rfl, _, _, rfl, fun _ => rfl⟩, by decide, by simp⟩
  · simp [Value.cells] at hcs
    obtain ⟨rfl, rfl, rfl⟩ := hcs
    have hz' : zs.length = cap := by simpa using hz
    simp only [Prod.mk.injEq] at hx
    obtain ⟨rfl, _⟩ := hx
    have hb := sized_slice hsz ht hd Tryd.underlying38
    rw [show Tryd.prog.bytesOf 5 = 1 by kernel_rfl] at hb
    have hcap : cap ≤ reachBytes := by simpa [lits, hz', Nat.min_eq_left hl, Nat.add_sub_cancel' hl] using hb
    have hcb : reachBytes < 2 ^ 47 := reachBytes_lt
    refine ⟨zs.take len, ?_, hcap, by simp; omega⟩
    by_cases h0 : len = 0
    · subst h0
      exact .inl ⟨by simp, _, _, rfl, fun h => by cases h⟩
    · obtain ⟨b, off, spot⟩ := x
      have hc := hcell 0 (by omega)
      have hspot : spot = none := by simpa [Addr.add] using World.cell?_spot hc
      subst hspot
      refine .inr ⟨b, off, len, cap, rfl, hl, hm, by omega, by simp; omega, fun i hi => ?_, fun n hn => u8_wf (hwz n (List.mem_of_mem_take hn))⟩
      have hi' : i < len := by simp at hi; omega
      have := hcell i (by omega)
      have ea : Addr.add ⟨b, off, none⟩ i = ⟨b, off + i, none⟩ := by by_cases hi0 : i = 0 <;> simp [Addr.add, hi0]
      rw [ea] at this
      rw [this]
      congr 2
      simp [List.getD, hi']
end Go.Proofs.YtgodjaffmojhlaaDoor

namespace Go.Proofs.YtgodjaffmojhlaaDoor
open Go.RowKit
set_option linter.unusedVariables false

/-- The value v is a slice of the call's own, from block 'base' on, that holds the bytes zs. -/
def OwnB (w : World) (base : Nat) (v : Value) (zs : List Int) : Prop :=
  w.ownsRow base 5 1 v zs.length (zs.map (Value.int .u8)) ∧ ∀ x ∈ zs, 0 ≤ x ∧ x ≤ 255

theorem Tryd.infoU8 : (Tryd.prog.info? 5).map (fun i => (i.zero, i.size, i.bytes)) = some (some (.int .u8 0), 1, 1) := by kernel_rfl

theorem OwnB.nil (w : World) (base : Nat) : OwnB w base (.slice none 0 0) [] := ⟨World.ownsRow_nil _ _ _ _, fun x hx => by cases hx⟩
theorem OwnB.alloc {w : World} {base : Nat} {v : Value} {zs : List Int} (h : OwnB w base v zs) (o : Obj) : OwnB (w.alloc o) base v zs := ⟨h.1.alloc o, h.2⟩
theorem ownsRow_drewN {w : World} {base : Nat} {e : TypeId} {size : Nat} {v : Value} {n : Nat} {xs : List Value} (h : w.ownsRow base e size v n xs) (k : Nat) : (w.drewN k).ownsRow base e size v n xs := by
  obtain ⟨h1, h2⟩ := h
  exact ⟨h1, h2⟩
theorem OwnB.drewN {w : World} {base : Nat} {v : Value} {zs : List Int} (h : OwnB w base v zs) (n : Nat) : OwnB (w.drewN n) base v zs := ⟨ownsRow_drewN h.1 n, h.2⟩

theorem OwnB.shape {w : World} {base : Nat} {v : Value} {zs : List Int} (h : OwnB w base v zs) (hz : 0 < zs.length) :
    ∃ g cap, v = .slice (some ⟨g, 0, none⟩) zs.length cap ∧ base ≤ g ∧ g < w.heap.size ∧ zs.length ≤ cap ∧ cap ≤ maxLen := by
  obtain ⟨⟨_, h2⟩, _⟩ := h
  rcases h2 with ⟨_, h0⟩ | ⟨g, cap, cur, rfl, hb, hh, hl, hm, _, _⟩
  · omega
  · refine ⟨g, cap, rfl, hb, ?_, hl, hm⟩
    rcases Nat.lt_or_ge g w.heap.size with h1 | h1
    · exact h1
    · simp [Array.getElem?_eq_none h1] at hh

theorem OwnB.bytes {w : World} {base : Nat} {v : Value} {zs : List Int} (h : OwnB w base v zs) (hs : zs.length < 2 ^ 62) : Bytes w v zs := by
  rcases Nat.eq_zero_or_pos zs.length with h0 | h0
  · have hz : zs = [] := List.length_eq_zero_iff.1 h0
    subst hz
    obtain ⟨⟨_, h2⟩, _⟩ := h
    rcases h2 with ⟨rfl, _⟩ | ⟨g, cap, cur, rfl, _⟩
    · exact .inl ⟨rfl, _, _, rfl, fun _ => rfl⟩
    · exact .inl ⟨rfl, _, _, rfl, fun h => by cases h⟩
  · obtain ⟨g, cap, rfl, hb, hg, hl, hm⟩ := h.shape h0
    refine .inr ⟨g, 0, zs.length, cap, rfl, hl, hm, hs, rfl, fun i hi => ?_, h.2⟩
    have e := h.1.cellAt i (by omega)
    rw [Nat.zero_add, e]
    simp [List.getD, hi]

theorem OwnB.cell {w : World} {base g cap n : Nat} {zs : List Int} (h : OwnB w base (.slice (some ⟨g, 0, none⟩) n cap) zs) (hn : n = zs.length) (j : Nat) (hj : j < zs.length) :
    w.cell? ⟨g, j, none⟩ = some (.int .u8 (zs.getD j 0)) := by
  subst hn
  rw [h.1.cellAt j (by omega)]
  simp [List.getD, hj]
theorem OwnB.free {w : World} {base g cap n : Nat} {zs : List Int} (h : OwnB w base (.slice (some ⟨g, 0, none⟩) n cap) zs) (hn : n = zs.length) (j : Nat) :
    w.frozen? ⟨g, j, none⟩ = false := by
  subst hn; exact h.1.frozenAt j
theorem OwnB.store {w : World} {base g cap n : Nat} {zs : List Int} (h : OwnB w base (.slice (some ⟨g, 0, none⟩) n cap) zs) (hn : n = zs.length) (j : Nat) (u : Int) (h0 : 0 ≤ u) (h1 : u ≤ 255) :
    OwnB (w.setCell ⟨g, j, none⟩ (.int .u8 u)) base (.slice (some ⟨g, 0, none⟩) n cap) (zs.set j u) := by
  subst hn
  have e := (h.1.stored j (.int .u8 u)).1
  refine ⟨?_, ?_⟩
  · rw [List.map_set, List.length_set]; exact e
  · intro x hx
    rcases List.mem_or_eq_of_mem_set hx with h' | rfl
    · exact h.2 x h'
    · exact ⟨h0, h1⟩
theorem OwnB.other {w : World} {base g g' cap n off : Nat} {zs : List Int} (h : OwnB w base (.slice (some ⟨g, 0, none⟩) n cap) zs) (hne : g ≠ g') (u : Value) :
    OwnB (w.setCell ⟨g', off, none⟩ u) base (.slice (some ⟨g, 0, none⟩) n cap) zs :=
  ⟨ownsRow_setCell_other h.1 (by simp [Value.ownBlock]; exact hne) u, h.2⟩

theorem Bytes.below {w w' : World} {v : Value} {zs : List Int} {B : Nat} (h : Bytes w v zs) (hB : w.heap.size ≤ B) (hb : Below B w w') : Bytes w' v zs := by
  rcases h with h | ⟨b, off, len, cap, h1, h2, h3, h4, h5, h6⟩
  · exact .inl h
  · refine .inr ⟨b, off, len, cap, h1, h2, h3, h4, h5, fun i hi => ?_, h6.2⟩
    have hc := h6.1 i hi
    have hlt : b < w.heap.size := by
      rcases Nat.lt_or_ge b w.heap.size with h | h
      · exact h
      · simp [World.cell?, Array.getElem?_eq_none h] at hc
    rw [hb.cell (p := ⟨b, off + i, none⟩) (Nat.lt_of_lt_of_le hlt hB)]
    exact hc

theorem Bytes.alloc {w : World} {v : Value} {zs : List Int} (h : Bytes w v zs) (o : Obj) : Bytes (w.alloc o) v zs := h.below (Nat.le_refl _) ((Below.refl _ _).alloc (Nat.le_refl _) _)
theorem OwnB.kept {w w' : World} {base : Nat} {v : Value} {zs : List Int} {row : Option Nat} (h : OwnB w base v zs) (hg : w.grownBy w' row) (hne : v.ownBlock ≠ row) : OwnB w' base v zs :=
  ⟨h.1.kept hg (.inr hne), h.2⟩
theorem OwnB.lt {w : World} {base g n cap : Nat} {zs : List Int} (h : OwnB w base (.slice (some ⟨g, 0, none⟩) n cap) zs) : base ≤ g ∧ g < w.heap.size := h.1.lt g rfl
/-- A store into one of two rows of the call's own. -/
theorem step_store {w wy : World} {B By g gy len cap ny capy : Nat} {xs ys : List Int} (oy : OwnB wy By (.slice (some ⟨gy, 0, none⟩) ny capy) ys) (hn : ny = ys.length)
    (ox : OwnB wy B (.slice (some ⟨g, 0, none⟩) len cap) xs) (hne : g ≠ gy) (be : Below B w wy) (hB : B ≤ gy) (j : Nat) (u : Int) (h0 : 0 ≤ u) (h1 : u ≤ 255) :
    ∃ w', wy.setCell ⟨gy, j, none⟩ (.int .u8 u) = w' ∧ OwnB w' By (.slice (some ⟨gy, 0, none⟩) ny capy) (ys.set j u) ∧ OwnB w' B (.slice (some ⟨g, 0, none⟩) len cap) xs ∧ Below B w w' :=
  ⟨_, rfl, oy.store hn j u h0 h1, ox.other hne _, be.setCell hB _⟩

/-- The same world, but for what was drawn. -/
def Same (w w' : World) : Prop := ∃ n, w' = w.drewN n
theorem OwnB.same {w w' : World} {base : Nat} {v : Value} {zs : List Int} (h : OwnB w base v zs) (hs : Same w w') : OwnB w' base v zs := by
  obtain ⟨n, rfl⟩ := hs; exact h.drewN n
theorem Bytes.same {w w' : World} {v : Value} {zs : List Int} (h : Bytes w v zs) (hs : Same w w') : Bytes w' v zs := by
  obtain ⟨n, rfl⟩ := hs; exact h.drewN n
theorem below_same {B : Nat} {w w' w'' : World} (h : Below B w w') (hs : Same w' w'') : Below B w w'' := by
  obtain ⟨n, rfl⟩ := hs; exact below_drewN h n
/-- 'append' of bytes onto a row of the call's own. -/
theorem wpList_append_bytes {w : World} {ops : Array Oper} {rest : List Oper} {o : Oper} {a : Act} {Q : Exit → Act → World → Prop} (hgd : o.guard = none) (s x : Operand)
    (ho : o.op = .call { callee := .builtin .append, args := #[s, x], argTypes := #[38, 38] })
    (base : Nat) (v : Value) (zs : List Int) (hs : a.eval s = v) (hown : OwnB w base v zs) (vx : Value) (bs : List Int) (hx : a.eval x = vx) (hb : Bytes w vx bs)
    (hbytes : zs.length + bs.length ≤ 140737488355328) (hbase : base ≤ w.heap.size)
    (h : ∀ v' w', OwnB w' base v' (zs ++ bs) → w.grownBy w' v.ownBlock → wpList Tryd.prog ops Q rest (a.put o.dst v') w') : wpList Tryd.prog ops Q (o :: rest) a w := by
  obtain ⟨i0, hi, hz0, hz1, hz2⟩ := info_parts Tryd.infoU8
  have hmax : zs.length + bs.length ≤ maxLen := by unfold maxLen; omega
  have step : ∀ (ad : Addr) (m c : Nat), a.eval x = .slice (some ad) m c → m = bs.length → (∀ j u, (bs.map (Value.int .u8))[j]? = some u → w.cell? (ad.add j) = some u) → (∀ y ∈ bs, 0 ≤ y ∧ y ≤ 255) → wpList Tryd.prog ops Q (o :: rest) a w := by
    intro ad m c hx' hm hc hby
    subst hm
    refine wpList_append_own _ hgd s x 38 ho base 5 i0 (.int .u8 0) 1 1 Tryd.underlying38 hi hz0 hz1 hz2 rfl (by decide) v zs.length (zs.map (Value.int .u8)) hs hown.1 ad bs.length c (bs.map (Value.int .u8)) hx' (by simp) hc ?_ hmax (by omega) hbase ?_
    · intro u hu
      obtain ⟨y, _, rfl⟩ := List.mem_map.1 hu
      rfl
    · intro v' w' h1 h2 _
      refine h v' w' ⟨?_, ?_⟩ h2
      · rw [List.length_append, List.map_append]; exact h1
      · intro y hy
        rcases List.mem_append.1 hy with h' | h'
        · exact hown.2 y h'
        · exact hby y h'
  rcases hb with ⟨rfl, ad, cap, rfl, hn⟩ | ⟨b, off, len, cap, rfl, h2, h3, h4, h5, h6⟩
  · rcases ad with _ | ad
    · obtain rfl := hn rfl
      refine wpList_append_own_none hgd s x 38 ho base 5 i0 1 Tryd.underlying38 hi v zs.length (zs.map (Value.int .u8)) hs hown.1 hx ?_
      refine h v w (by simpa using hown) ⟨rfl, rfl, rfl, Nat.le_refl _, fun _ _ _ => rfl⟩
    · exact step ad 0 cap hx rfl (fun j u hj => by simp at hj) (fun y hy => by cases hy)
  · refine step ⟨b, off, none⟩ len cap hx h5.symm ?_ h6.2
    intro j u hj
    obtain ⟨y, hy, rfl⟩ := by simpa using hj
    have hj' : j < bs.length := by
      rcases Nat.lt_or_ge j bs.length with h | h
      · exact h
      · simp [List.getElem?_eq_none h] at hy
    have ea : Addr.add ⟨b, off, none⟩ j = ⟨b, off + j, none⟩ := by by_cases hi0 : j = 0 <;> simp [Addr.add, hi0]
    rw [ea, h6.1 j hj']
    simp [List.getD, hy]
end Go.Proofs.YtgodjaffmojhlaaDoor

namespace Go.Proofs.YtgodjaffmojhlaaDoor
set_option linter.unusedVariables false

def wsum : List Int → Int
  | [] => 0
  | [a] => a * 256
  | a :: b :: r => a * 256 + b + wsum r
def norm (s : Int) : Int := if s = 0 then 0 else (s - 1) % 65535 + 1
def place (j : Nat) : Int := if j % 2 = 0 then 256 else 1

theorem norm_add (t x : Int) (h0 : 0 ≤ t) (h1 : t ≤ 65535) (h2 : 0 ≤ x) (h3 : x ≤ 65535) (s : Int) (hs : 0 ≤ s) : norm (addS t x + s) = norm (t + x + s) := by
  unfold norm addS
  split <;> (repeat' split) <;> omega
theorem norm_self (t : Int) (h0 : 0 ≤ t) (h1 : t ≤ 65535) : norm t = t := by
  unfold norm; split <;> omega
theorem wsum_nonneg : ∀ (l : List Int), (∀ x ∈ l, 0 ≤ x ∧ x ≤ 255) → 0 ≤ wsum l
  | [], _ => by simp [wsum]
  | [a], h => by have := h a (by simp); simp only [wsum]; omega
  | a :: b :: r, h => by
      have ha := h a (by simp)
      have hb := h b (by simp)
      have hr := wsum_nonneg r (fun x hx => h x (by simp [hx]))
      simp only [wsum]; omega
theorem tot_norm : ∀ (l : List Int) (t : Int), (∀ x ∈ l, 0 ≤ x ∧ x ≤ 255) → 0 ≤ t → t ≤ 65535 → tot t l = norm (t + wsum l)
  | [], t, _, h0, h1 => by simp only [tot, wsum, Int.add_zero]; exact (norm_self t h0 h1).symm
  | [a], t, h, h0, h1 => by
      have ha := h a (by simp)
      have hr := addS_range (a := t) (b := a * 256) h0 h1 (by omega) (by omega)
      have e := norm_add t (a * 256) h0 h1 (by omega) (by omega) 0 (by omega)
      simp only [tot, wsum]
      simp only [Int.add_zero] at e
      rw [← e, norm_self _ hr.1 hr.2]
  | a :: b :: r, t, h, h0, h1 => by
      have ha := h a (by simp)
      have hb := h b (by simp)
      have hr : ∀ x ∈ r, 0 ≤ x ∧ x ≤ 255 := fun x hx => h x (by simp [hx])
      have hs := addS_range (a := t) (b := a * 256 + b) h0 h1 (by omega) (by omega)
      have e := norm_add t (a * 256 + b) h0 h1 (by omega) (by omega) (wsum r) (wsum_nonneg r hr)
      simp only [tot, wsum]
      rw [tot_norm r _ hr hs.1 hs.2, e]
      congr 1; omega
theorem wsum_set : ∀ (l : List Int) (j : Nat) (v : Int), j < l.length → wsum (l.set j v) = wsum l + (v - l.getD j 0) * place j
  | [], j, v, h => by simp at h
  | [a], j, v, h => by
      have : j = 0 := by simpa using h
      subst this
      simp [wsum, place, List.getD]; omega
  | a :: b :: r, 0, v, h => by simp [wsum, place, List.getD]; omega
  | a :: b :: r, 1, v, h => by simp [wsum, place, List.getD]; omega
  | a :: b :: r, j + 2, v, h => by
      have hj : j < r.length := by simp at h; omega
      have e := wsum_set r j v hj
      have hp : place (j + 2) = place j := by unfold place; rw [Nat.add_mod_right]
      have hg : (a :: b :: r).getD (j + 2) 0 = r.getD j 0 := by simp [List.getD]
      rw [hg, hp]
      simp only [List.set_cons_succ, wsum]
      rw [e]; omega
theorem byte_set {l : List Int} {j : Nat} {v : Int} (h : ∀ x ∈ l, 0 ≤ x ∧ x ≤ 255) (h0 : 0 ≤ v) (h1 : v ≤ 255) : ∀ x ∈ l.set j v, 0 ≤ x ∧ x ≤ 255 := by
  intro x hx
  rcases List.mem_or_eq_of_mem_set hx with h' | rfl
  · exact h x h'
  · exact ⟨h0, h1⟩
theorem getD_set_ne {l : List Int} {i j : Nat} {v : Int} (h : i ≠ j) : (l.set i v).getD j 0 = l.getD j 0 := by
  simp [List.getD, List.getElem?_set_ne h]
theorem getD_set_self {l : List Int} {i : Nat} {v : Int} (h : i < l.length) : (l.set i v).getD i 0 = v := by
  simp [List.getD, h]

/-- With its sum in its place it is valid. -/
theorem valid_sum {s n : Int} (hs : 0 ≤ s) (hn : n = 65535 - norm s) : norm (s + n) = 65535 := by
  subst hn; unfold norm; split <;> (repeat' split) <;> omega
theorem sum_range {s : Int} (hs : 0 ≤ s) : 0 ≤ 65535 - norm s ∧ 65535 - norm s ≤ 65535 := by
  unfold norm; split <;> omega
/-- A change that is no multiple of 65535 spoils it. -/
theorem spoilt {s d : Int} (h0 : norm s = 65535) (hd : ¬ d = 0) (h1 : -65535 < d) (h2 : d < 65535) (hs : 0 ≤ s + d) : norm (s + d) ≠ 65535 := by
  unfold norm at *
  split at h0 <;> split <;> omega
/-- Brought up to date it is valid again, or all is 0. -/
theorem mended {s n old now d : Int} (hs : 0 ≤ s) (hn : n = 65535 - norm s) (hd : d = now - old) (ho : 0 ≤ old) (ho' : old ≤ 65535) (hw : 0 ≤ now) (hw' : now ≤ 65535) (hsd : 0 ≤ s + d) :
    norm (s + d + (65535 - addS (addS (65535 - n) (65535 - old)) now)) = 65535 ∨
    (65535 - addS (addS (65535 - n) (65535 - old)) now = 0 ∧ norm (s + d + (65535 - addS (addS (65535 - n) (65535 - old)) now)) = 0) := by
  subst hn hd
  unfold norm addS
  repeat' split
  all_goals omega
/-- Two words that change their places. -/
theorem wsum_swap (l : List Int) (i k : Nat) (hi : 2 * i + 1 < l.length) (hk : 2 * k + 1 < l.length) :
    wsum ((((l.set (2 * i) (l.getD (2 * k) 0)).set (2 * i + 1) (l.getD (2 * k + 1) 0)).set (2 * k) (l.getD (2 * i) 0)).set (2 * k + 1) (l.getD (2 * i + 1) 0)) = wsum l := by
  have p0 : place (2 * i) = 256 := by unfold place; rw [if_pos (by omega)]
  have p1 : place (2 * i + 1) = 1 := by unfold place; rw [if_neg (by omega)]
  have p2 : place (2 * k) = 256 := by unfold place; rw [if_pos (by omega)]
  have p3 : place (2 * k + 1) = 1 := by unfold place; rw [if_neg (by omega)]
  rw [wsum_set _ _ _ (by simp; omega), wsum_set _ _ _ (by simp; omega), wsum_set _ _ _ (by simp; omega), wsum_set _ _ _ (by omega), p0, p1, p2, p3]
  rw [getD_set_ne (by omega : 2 * k ≠ 2 * k + 1), getD_set_ne (by omega : 2 * i ≠ 2 * i + 1), getD_set_ne (by omega : 2 * i + 1 ≠ 2 * k)]
  by_cases h : i = k
  · subst h
    rw [getD_set_self (by omega), getD_set_self (by simp; omega)]
    omega
  · rw [getD_set_ne (by omega : 2 * i + 1 ≠ 2 * k + 1), getD_set_ne (by omega : 2 * i ≠ 2 * k + 1), getD_set_ne (by omega : 2 * i ≠ 2 * k)]
    omega
theorem wsum_head (n : Int) (bs : List Int) : wsum (n / 256 :: n % 256 :: bs) = wsum bs + n := by
  simp only [wsum]; omega
theorem wsum_changed (bs : List Int) (p : Nat) (n tb : Int) (hp : p < bs.length) :
    wsum ((n / 256 :: n % 256 :: bs).set (p + 2) tb) = wsum bs + n + (tb - bs.getD p 0) * place p := by
  have hpl : place (p + 2) = place p := by unfold place; rw [Nat.add_mod_right]
  have hg : (n / 256 :: n % 256 :: bs).getD (p + 2) 0 = bs.getD p 0 := by simp [List.getD]
  rw [wsum_set _ _ _ (by simp; omega), wsum_head, hg, hpl]
theorem place_cases (p : Nat) : place p = 256 ∨ place p = 1 := by unfold place; split <;> simp
/-- One byte that changes makes it not so. -/
theorem spoilt_byte (bs : List Int) (p : Nat) (n tb : Int) (hby : ∀ x ∈ bs, 0 ≤ x ∧ x ≤ 255) (hp : p < bs.length) (hn : n = 65535 - norm (wsum bs)) (ht : 0 ≤ tb ∧ tb ≤ 255) (hne : ¬ bs.getD p 0 = tb)
    (hx : ∀ x ∈ (n / 256 :: n % 256 :: bs).set (p + 2) tb, 0 ≤ x ∧ x ≤ 255) : (tot 0 ((n / 256 :: n % 256 :: bs).set (p + 2) tb) == 65535) = false := by
  have h0 := wsum_nonneg bs hby
  have hb := getD_byte hp hby
  have e := valid_sum h0 hn
  have hnn := wsum_nonneg _ hx
  rw [wsum_changed bs p n tb hp] at hnn
  rw [tot_norm _ 0 hx (by omega) (by omega), wsum_changed bs p n tb hp, Int.zero_add]
  have := spoilt (d := (tb - bs.getD p 0) * place p) e (by rcases place_cases p with h | h <;> rw [h] <;> omega) (by rcases place_cases p with h | h <;> rw [h] <;> omega) (by rcases place_cases p with h | h <;> rw [h] <;> omega) hnn
  simpa using this
/-- Changed, with the sum brought up to date, it is valid again, or all of it is 0. -/
theorem mended_byte (bs : List Int) (p : Nat) (n tb old now m : Int) (hby : ∀ x ∈ bs, 0 ≤ x ∧ x ≤ 255) (hp : p < bs.length) (hn : n = 65535 - norm (wsum bs)) (ht : 0 ≤ tb ∧ tb ≤ 255)
    (ho : 0 ≤ old ∧ old ≤ 65535) (hw : 0 ≤ now ∧ now ≤ 65535) (hd : now - old = (tb - bs.getD p 0) * place p) (hm : m = 65535 - addS (addS (65535 - n) (65535 - old)) now)
    (hx : ∀ x ∈ (((n / 256 :: n % 256 :: bs).set (p + 2) tb).set 0 (m / 256)).set 1 (m % 256), 0 ≤ x ∧ x ≤ 255) :
    tot 0 ((((n / 256 :: n % 256 :: bs).set (p + 2) tb).set 0 (m / 256)).set 1 (m % 256)) = 65535 ∨ (m = 0 ∧ tot 0 ((((n / 256 :: n % 256 :: bs).set (p + 2) tb).set 0 (m / 256)).set 1 (m % 256)) = 0) := by
  have h0 := wsum_nonneg bs hby
  have hnn : 0 ≤ wsum bs + (now - old) := by
    have := wsum_nonneg _ (byte_set (j := p) hby ht.1 ht.2)
    rw [wsum_set _ _ _ hp] at this; rw [hd]; exact this
  have e : wsum ((((n / 256 :: n % 256 :: bs).set (p + 2) tb).set 0 (m / 256)).set 1 (m % 256)) = wsum bs + (now - old) + m := by
    rw [wsum_set _ _ _ (by simp), wsum_set _ _ _ (by simp), wsum_changed bs p n tb hp, hd]
    have g0 : ((n / 256 :: n % 256 :: bs).set (p + 2) tb).getD 0 0 = n / 256 := by simp [List.getD]
    have g1 : (((n / 256 :: n % 256 :: bs).set (p + 2) tb).set 0 (m / 256)).getD 1 0 = n % 256 := by simp [List.getD]
    rw [g0, g1]
    have q0 : place 0 = 256 := rfl
    have q1 : place 1 = 1 := rfl
    rw [q0, q1]
    omega
  rw [tot_norm _ 0 hx (by omega) (by omega), e, Int.zero_add, hm]
  exact mended h0 hn rfl ho.1 ho.2 hw.1 hw.2 hnn
end Go.Proofs.YtgodjaffmojhlaaDoor

namespace Go.Proofs.YtgodjaffmojhlaaDoor
open Go.RowKit
set_option linter.unusedVariables false

/-- Nothing but block g has turned. -/
structure Only (g : Nat) (w w' : World) : Prop where
  os : w'.os = w.os
  tape : w'.tape = w.tape
  output : w'.output = w.output
  size : w'.heap.size = w.heap.size
  block : ∀ k, k ≠ g → w'.heap[k]? = w.heap[k]?
theorem Only.refl (g : Nat) (w : World) : Only g w w := ⟨rfl, rfl, rfl, rfl, fun _ _ => rfl⟩
theorem Only.trans {g : Nat} {a b c : World} (h : Only g a b) (k : Only g b c) : Only g a c :=
  ⟨k.os.trans h.os, k.tape.trans h.tape, k.output.trans h.output, k.size.trans h.size, fun i hi => (k.block i hi).trans (h.block i hi)⟩
theorem Only.setCell {g : Nat} {a w : World} (h : Only g a w) (o : Nat) (u : Value) : Only g a (w.setCell ⟨g, o, none⟩ u) :=
  h.trans ⟨rfl, rfl, rfl, by simp [World.setCell], fun k hk => heap_setCell_other w ⟨g, o, none⟩ k u hk⟩
theorem Only.drewN {g : Nat} {a w : World} (h : Only g a w) (n : Nat) : Only g a (w.drewN n) := ⟨h.os, h.tape, h.output, h.size, h.block⟩
theorem Only.below {g B : Nat} {w0 w w' : World} (h : Only g w w') (hB : B ≤ g) (hb : Below B w0 w) : Below B w0 w' :=
  hb.trans ⟨h.os, h.tape, h.output, Nat.le_of_eq h.size.symm, fun k hk => h.block k (by omega)⟩
theorem Only.cell {g : Nat} {w w' : World} (h : Only g w w') {p : Addr} (hp : p.block ≠ g) : w'.cell? p = w.cell? p := World.cell?_of_block (w := w) (h.block p.block hp)
theorem Only.frozen {g : Nat} {w w' : World} (h : Only g w w') {p : Addr} (hp : p.block ≠ g) : w'.frozen? p = w.frozen? p := World.frozen?_of_block (w := w) (h.block p.block hp)

/-- Of what was there nothing but blocks of F has turned. -/
structure Turn (F : Nat → Prop) (w w' : World) : Prop where
  os : w'.os = w.os
  tape : w'.tape = w.tape
  output : w'.output = w.output
  size : w.heap.size ≤ w'.heap.size
  block : ∀ k, k < w.heap.size → ¬ F k → w'.heap[k]? = w.heap[k]?
/-- F, and what has come since. -/
def Plus (F : Nat → Prop) (w w' : World) (k : Nat) : Prop := F k ∨ (w.heap.size ≤ k ∧ k < w'.heap.size)
def NoF (k : Nat) : Prop := False
section
variable {F G : Nat → Prop} {w w' w'' : World}
theorem Turn.refl (F : Nat → Prop) (w : World) : Turn F w w := ⟨rfl, rfl, rfl, Nat.le_refl _, fun _ _ _ => rfl⟩
theorem Turn.andThen (h : Turn F w w') (k : Turn G w' w'') (hG : ∀ i, G i → F i ∨ w.heap.size ≤ i) : Turn F w w'' :=
  ⟨k.os.trans h.os, k.tape.trans h.tape, k.output.trans h.output, Nat.le_trans h.size k.size, fun i hi hf =>
    (k.block i (Nat.lt_of_lt_of_le hi h.size) (fun hg => Or.elim (hG i hg) hf (fun h1 => by omega))).trans (h.block i hi hf)⟩
theorem Turn.trans (h : Turn F w w') (k : Turn F w' w'') : Turn F w w'' := h.andThen k (fun _ hi => .inl hi)
theorem Turn.plus (h : Turn F w w') (k : Turn (Plus F w w') w' w'') : Turn F w w'' := h.andThen k (fun i hi => Or.elim hi .inl (fun h => .inr h.1))
theorem Turn.mono (h : Turn F w w') (hFG : ∀ i, i < w.heap.size → F i → G i) : Turn G w w' := ⟨h.os, h.tape, h.output, h.size, fun k hk hg => h.block k hk (fun hf => hg (hFG k hk hf))⟩
theorem Turn.of_below (h : Below w.heap.size w w') (F : Nat → Prop) : Turn F w w' := ⟨h.os, h.tape, h.output, h.size, fun k hk _ => h.block k hk⟩
theorem Turn.of_grown {row : Option Nat} (h : w.grownBy w' row) (hF : ∀ g, row = some g → F g) : Turn F w w' := ⟨h.os, h.tape, h.output, h.size, fun k hk hf => h.block k hk (fun e => hf (hF k e.symm))⟩
theorem Turn.of_only {g : Nat} (h : Only g w w') (hF : F g) : Turn F w w' := ⟨h.os, h.tape, h.output, Nat.le_of_eq h.size.symm, fun k hk hf => h.block k (fun e => hf (e ▸ hF))⟩
theorem Turn.alloc (h : Turn F w w') (o : Obj) : Turn F w (w'.alloc o) := h.trans (Turn.of_below ((Below.refl _ _).alloc (Nat.le_refl _) _) F)
theorem Turn.drewN (h : Turn F w w') (n : Nat) : Turn F w (w'.drewN n) := ⟨h.os, h.tape, h.output, h.size, h.block⟩
theorem Turn.drewN' (h : Turn F w.drew w') : Turn F w w' := ⟨h.os, h.tape, h.output, h.size, h.block⟩
theorem Turn.below {B : Nat} {w0 : World} (hb : Below B w0 w) (hB : B ≤ w.heap.size) (h : Turn F w w') (hF : ∀ k, F k → B ≤ k) : Below B w0 w' :=
  hb.trans ⟨h.os, h.tape, h.output, h.size, fun k hk => by
    rcases Nat.lt_or_ge k w.heap.size with h1 | h1
    · exact h.block k h1 (fun hf => by have := hF k hf; omega)
    · omega⟩
theorem Turn.belowNo (h : Turn NoF w w') : Below w.heap.size w w' := ⟨h.os, h.tape, h.output, h.size, fun k hk => h.block k hk id⟩
end
end Go.Proofs.YtgodjaffmojhlaaDoor
