/- What find of package frag returns of a pool and a name: its group, which begins now if there is none, or why there is none. -/
import Derived.Test.YtgodjaffmojhlaaDoorPoolKeep
import Derived.Test.YtgodjaffmojhlaaDoorPoolBack
namespace Go.Proofs.YtgodjaffmojhlaaDoor
open Go.RowKit Go.Maps
set_option linter.unusedVariables false

theorem find_mem {w : World} {F : Nat → Prop} {pb : Nat} {s : Po} {mb : Nat} {gs : List Gb} (h : PoolIn w F pb s mb gs) {n : Nm} {x : Hp} (hx : getH s.l n = some x) : ∃ g ∈ gs, g.h = x ∧ g.h.name = n := by
  obtain ⟨h1, h2⟩ := getH_some hx
  rw [← h.list] at h1
  obtain ⟨g, hg, rfl⟩ := List.mem_map.1 h1
  exact ⟨g, hg, rfl, h2⟩
set_option maxRecDepth 100000 in
theorem find_no {w : World} {F : Nat → Prop} {pb : Nat} {s : Po} {mb : Nat} {gs : List Gb} (h : PoolIn w F pb s mb gs) {n : Nm} (hn : NmOk n) (hx : getH s.l n = none) : ∀ x ∈ grpsL gs, x.1 ≠ litN n := by
  intro x hxm e
  obtain ⟨g, hg, rfl⟩ := List.mem_map.1 hxm
  have h1 : g.h ∈ s.l := by rw [← h.list]; exact List.mem_map.2 ⟨g, hg, rfl⟩
  simp only at e
  have hq := litN_inj (h.names g hg) hn e
  exact getH_none hx g.h h1 hq
set_option maxRecDepth 100000 in
theorem nil_ptr (w : World) : (zeroValue 62).run Tryd.prog w = .ok (.pointer none) w := by kernel_rfl
theorem box_facts {w : World} {F : Nat → Prop} {pb : Nat} {s : Po} {mb : Nat} {gs : List Gb} (h : PoolIn w F pb s mb gs) (hF : ∀ k, F k → k < w.heap.size) (n : Nm) :
    Below w.heap.size w (w.alloc (.cells #[.int .i64 n.kind, .int .i64 n.src, .int .i64 n.dst, .int .i64 n.ident] 61)) ∧ PoolIn (w.alloc (.cells #[.int .i64 n.kind, .int .i64 n.src, .int .i64 n.dst, .int .i64 n.ident] 61)) F pb s mb gs ∧ (w.alloc (.cells #[.int .i64 n.kind, .int .i64 n.src, .int .i64 n.dst, .int .i64 n.ident] 61)).cell? ⟨w.heap.size, 0, none⟩ = some (.int .i64 n.kind) ∧ (w.alloc (.cells #[.int .i64 n.kind, .int .i64 n.src, .int .i64 n.dst, .int .i64 n.ident] 61)).cell? ⟨w.heap.size, 1, none⟩ = some (.int .i64 n.src) ∧ (w.alloc (.cells #[.int .i64 n.kind, .int .i64 n.src, .int .i64 n.dst, .int .i64 n.ident] 61)).cell? ⟨w.heap.size, 2, none⟩ = some (.int .i64 n.dst) ∧ (w.alloc (.cells #[.int .i64 n.kind, .int .i64 n.src, .int .i64 n.dst, .int .i64 n.ident] 61)).cell? ⟨w.heap.size, 3, none⟩ = some (.int .i64 n.ident) := by
  have hB : Below w.heap.size w (w.alloc (.cells #[.int .i64 n.kind, .int .i64 n.src, .int .i64 n.dst, .int .i64 n.ident] 61)) := (Below.refl _ _).alloc (Nat.le_refl _) _
  have hN := heap_alloc_new w (.cells #[.int .i64 n.kind, .int .i64 n.src, .int .i64 n.dst, .int .i64 n.ident] 61)
  refine ⟨hB, h.below hF hB, ?_, ?_, ?_, ?_⟩ <;> (rw [cell_of_row _ _ _ _ _ _ hN]; rfl)
set_option maxRecDepth 100000 in
set_option maxHeartbeats 8000000 in
theorem find_bad (F : Nat → Prop) (pb mb : Nat) (s : Po) (gs : List Gb) (g : Gb) (n : Nm) (now : Int) (w : World) (h : PoolIn w F pb s mb gs) (hF : ∀ k, F k → k < w.heap.size) (hn : NmOk n) (hg : g ∈ gs) (hgn : g.h.name = n) (hb : g.h.bad = true) :
    Calls Tryd.prog 22 #[ptrV pb, nmV n, .int .i64 now] w fun e w' => e = .returned (.tuple #[.pointer none, .iface 48 (.int .i64 6)]) ∧ Below w.heap.size w w' := by
  obtain ⟨B1, hin, n0, n1, n2, n3⟩ := box_facts h hF n
  have hlk : ∀ W, W.heap[mb]? = (w.alloc (.cells #[.int .i64 n.kind, .int .i64 n.src, .int .i64 n.dst, .int .i64 n.ident] 61)).heap[mb]? → (Instr.lookup 49 (.map (some mb)) (nmV n) false).run Tryd.prog W = .ok (ptrV g.b) W := fun W hW =>
    (hin.map.block hW).look lawN Tryd.underlying49 (nil_ptr W) (keyN hn) (List.mem_map.2 ⟨g, hg, by rw [hgn]⟩)
  have c1 : (w.alloc (.cells #[.int .i64 n.kind, .int .i64 n.src, .int .i64 n.dst, .int .i64 n.ident] 61)).cell? ⟨g.b, 1, none⟩ = some (.bool true) := by
    rw [cell_of_row _ _ 1 _ _ _ ((hin.each g hg).bad hb)]; rfl
  obtain ⟨p0, p1, p2, f1⟩ := pool_cells hin
  have HB1 : Hid (Below w.heap.size w (w.alloc (.cells #[.int .i64 n.kind, .int .i64 n.src, .int .i64 n.dst, .int .i64 n.ident] 61))) := B1
  unfold nmV ptrV at *
  clear B1 hin p0 p1 f1
  go_enter Tryd.func22, Tryd.ntmps22
  go_upto_region 1 with fail
  obtain ⟨W1, hW1⟩ : ∃ W1, w.alloc (.cells #[.int .i64 n.kind, .int .i64 n.src, .int .i64 n.dst, .int .i64 n.ident] 61) = W1 := ⟨_, rfl⟩
  rw [hW1] at n0 n1 n2 n3 c1 p2 HB1 ⊢
  simp only [hW1] at hlk
  have l1 := hlk W1 rfl
  have l2 := hlk W1.drew rfl
  have hS : W1.cell? ⟨pb, 2, none⟩ = some (.map (some mb)) ∧ W1.cell? ⟨w.heap.size, 0, none⟩ = some (.int .i64 n.kind) ∧ W1.cell? ⟨w.heap.size, 1, none⟩ = some (.int .i64 n.src) ∧ W1.cell? ⟨w.heap.size, 2, none⟩ = some (.int .i64 n.dst) ∧ W1.cell? ⟨w.heap.size, 3, none⟩ = some (.int .i64 n.ident) := ⟨p2, n0, n1, n2, n3⟩
  clear hlk hW1 h hF hg hb
  go_region_held3 (fun X => X.cell? ⟨pb, 2, none⟩ = some (.map (some mb)) ∧ X.cell? ⟨w.heap.size, 0, none⟩ = some (.int .i64 n.kind) ∧ X.cell? ⟨w.heap.size, 1, none⟩ = some (.int .i64 n.src) ∧ X.cell? ⟨w.heap.size, 2, none⟩ = some (.int .i64 n.dst) ∧ X.cell? ⟨w.heap.size, 3, none⟩ = some (.int .i64 n.ident)) (with_reducible first | assumption | go_keep) (fail)
  have HB2 : Hid (Below w.heap.size w W1.drew) := below_drewN HB1.out 1
  go_wp2_with fail
  go_ret2
  exact ⟨rfl, HB2.out⟩
set_option maxRecDepth 100000 in
set_option maxHeartbeats 8000000 in
theorem find_good (F : Nat → Prop) (pb mb : Nat) (s : Po) (gs : List Gb) (g : Gb) (n : Nm) (now : Int) (w : World) (h : PoolIn w F pb s mb gs) (hF : ∀ k, F k → k < w.heap.size) (hn : NmOk n) (hg : g ∈ gs) (hgn : g.h.name = n) (hb : g.h.bad = false) :
    Calls Tryd.prog 22 #[ptrV pb, nmV n, .int .i64 now] w fun e w' => e = .returned (.tuple #[ptrV g.b, .nilIface]) ∧ Below w.heap.size w w' := by
  obtain ⟨B1, hin, n0, n1, n2, n3⟩ := box_facts h hF n
  have hlk : ∀ W, W.heap[mb]? = (w.alloc (.cells #[.int .i64 n.kind, .int .i64 n.src, .int .i64 n.dst, .int .i64 n.ident] 61)).heap[mb]? → (Instr.lookup 49 (.map (some mb)) (nmV n) false).run Tryd.prog W = .ok (ptrV g.b) W := fun W hW =>
    (hin.map.block hW).look lawN Tryd.underlying49 (nil_ptr W) (keyN hn) (List.mem_map.2 ⟨g, hg, by rw [hgn]⟩)
  have c1 : (w.alloc (.cells #[.int .i64 n.kind, .int .i64 n.src, .int .i64 n.dst, .int .i64 n.ident] 61)).cell? ⟨g.b, 1, none⟩ = some (.bool false) := by
    rw [cell_of_row _ _ 1 _ _ _ ((hin.each g hg).good hb)]; rfl
  obtain ⟨p0, p1, p2, f1⟩ := pool_cells hin
  have HB1 : Hid (Below w.heap.size w (w.alloc (.cells #[.int .i64 n.kind, .int .i64 n.src, .int .i64 n.dst, .int .i64 n.ident] 61))) := B1
  unfold nmV ptrV at *
  clear B1 hin p0 p1 f1
  go_enter Tryd.func22, Tryd.ntmps22
  go_upto_region 1 with fail
  obtain ⟨W1, hW1⟩ : ∃ W1, w.alloc (.cells #[.int .i64 n.kind, .int .i64 n.src, .int .i64 n.dst, .int .i64 n.ident] 61) = W1 := ⟨_, rfl⟩
  rw [hW1] at n0 n1 n2 n3 c1 p2 HB1 ⊢
  simp only [hW1] at hlk
  have l1 := hlk W1 rfl
  have l2 := hlk W1.drew rfl
  have hS : W1.cell? ⟨pb, 2, none⟩ = some (.map (some mb)) ∧ W1.cell? ⟨w.heap.size, 0, none⟩ = some (.int .i64 n.kind) ∧ W1.cell? ⟨w.heap.size, 1, none⟩ = some (.int .i64 n.src) ∧ W1.cell? ⟨w.heap.size, 2, none⟩ = some (.int .i64 n.dst) ∧ W1.cell? ⟨w.heap.size, 3, none⟩ = some (.int .i64 n.ident) := ⟨p2, n0, n1, n2, n3⟩
  clear hlk hW1 h hF hg hb
  go_region_held3 (fun X => X.cell? ⟨pb, 2, none⟩ = some (.map (some mb)) ∧ X.cell? ⟨w.heap.size, 0, none⟩ = some (.int .i64 n.kind) ∧ X.cell? ⟨w.heap.size, 1, none⟩ = some (.int .i64 n.src) ∧ X.cell? ⟨w.heap.size, 2, none⟩ = some (.int .i64 n.dst) ∧ X.cell? ⟨w.heap.size, 3, none⟩ = some (.int .i64 n.ident)) (with_reducible first | assumption | go_keep) (fail)
  have HB2 : Hid (Below w.heap.size w W1.drew) := below_drewN HB1.out 1
  go_wp2_with fail
  go_ret2
  exact ⟨rfl, HB2.out⟩
set_option maxRecDepth 100000 in
set_option maxHeartbeats 8000000 in
theorem find_full (F : Nat → Prop) (pb mb : Nat) (s : Po) (gs : List Gb) (n : Nm) (now : Int) (w : World) (h : PoolIn w F pb s mb gs) (hF : ∀ k, F k → k < w.heap.size) (hn : NmOk n) (hx : getH s.l n = none) (h8 : 8 ≤ s.l.length) :
    Calls Tryd.prog 22 #[ptrV pb, nmV n, .int .i64 now] w fun e w' => e = .returned (.tuple #[.pointer none, .iface 48 (.int .i64 4)]) ∧ Below w.heap.size w w' := by
  obtain ⟨B1, hin, n0, n1, n2, n3⟩ := box_facts h hF n
  have hlk : ∀ W, W.heap[mb]? = (w.alloc (.cells #[.int .i64 n.kind, .int .i64 n.src, .int .i64 n.dst, .int .i64 n.ident] 61)).heap[mb]? → (Instr.lookup 49 (.map (some mb)) (nmV n) false).run Tryd.prog W = .ok (.pointer none) W := fun W hW =>
    (hin.map.block hW).look_no lawN Tryd.underlying49 (nil_ptr W) (keyN hn) (find_no hin hn hx)
  have hln : (grpsL gs).length = s.l.length := by rw [len_grps, ← hin.list, List.length_map]
  have hl8 : (8 : Int) ≤ ((grpsL gs).length : Int) := by omega
  have hle : ∀ W, W.heap[mb]? = (w.alloc (.cells #[.int .i64 n.kind, .int .i64 n.src, .int .i64 n.dst, .int .i64 n.ident] 61)).heap[mb]? → ∀ ty, (Builtin.len_ #[49] ty #[.map (some mb)]).run Tryd.prog W = .ok (.int .i64 ((grpsL gs).length : Int)) W := fun W hW ty => (hin.map.block hW).len Tryd.underlying49 ty
  obtain ⟨p0, p1, p2, f1⟩ := pool_cells hin
  have HB1 : Hid (Below w.heap.size w (w.alloc (.cells #[.int .i64 n.kind, .int .i64 n.src, .int .i64 n.dst, .int .i64 n.ident] 61))) := B1
  unfold nmV ptrV at *
  clear B1 hin p0 p1 f1
  go_enter Tryd.func22, Tryd.ntmps22
  go_upto_region 1 with fail
  obtain ⟨W1, hW1⟩ : ∃ W1, w.alloc (.cells #[.int .i64 n.kind, .int .i64 n.src, .int .i64 n.dst, .int .i64 n.ident] 61) = W1 := ⟨_, rfl⟩
  rw [hW1] at n0 n1 n2 n3 p2 HB1 ⊢
  simp only [hW1] at hlk hle
  have e2 := hle W1.drew rfl
  generalize ((grpsL gs).length : Int) = N at hl8 e2
  have l1 := hlk W1 rfl
  have l2 := hlk W1.drew rfl
  have hS : W1.cell? ⟨pb, 2, none⟩ = some (.map (some mb)) ∧ W1.cell? ⟨w.heap.size, 0, none⟩ = some (.int .i64 n.kind) ∧ W1.cell? ⟨w.heap.size, 1, none⟩ = some (.int .i64 n.src) ∧ W1.cell? ⟨w.heap.size, 2, none⟩ = some (.int .i64 n.dst) ∧ W1.cell? ⟨w.heap.size, 3, none⟩ = some (.int .i64 n.ident) := ⟨p2, n0, n1, n2, n3⟩
  clear hlk hle hW1 h hF hln hx h8
  go_region_held3 (fun X => X.cell? ⟨pb, 2, none⟩ = some (.map (some mb)) ∧ X.cell? ⟨w.heap.size, 0, none⟩ = some (.int .i64 n.kind) ∧ X.cell? ⟨w.heap.size, 1, none⟩ = some (.int .i64 n.src) ∧ X.cell? ⟨w.heap.size, 2, none⟩ = some (.int .i64 n.dst) ∧ X.cell? ⟨w.heap.size, 3, none⟩ = some (.int .i64 n.ident)) (with_reducible first | assumption | go_keep) (fail)
  have HB2 : Hid (Below w.heap.size w W1.drew) := below_drewN HB1.out 1
  go_wp2_with fail
  go_ret2
  exact ⟨rfl, HB2.out⟩
/-- A group that begins. -/
def newGb (n : Nm) (now : Int) (b m : Nat) : Gb := { h := { name := n, began := now, bad := false, all := [] }, b := b, m := m, vs := [] }
set_option maxRecDepth 100000 in
theorem PoolIn.begin {w w1 w' : World} {F : Nat → Prop} {pb : Nat} {s : Po} {mb : Nat} {gs : List Gb} {n : Nm} {now : Int} {b m : Nat} (h : PoolIn w F pb s mb gs) (hF : ∀ k, F k → k < w.heap.size) (hn : NmOk n) (hx : getH s.l n = none) (h8 : ¬ 8 ≤ s.l.length) (hnow : 0 ≤ now ∧ now ≤ 1000000)
    (hb : w.heap.size ≤ b) (hm : w.heap.size ≤ m) (hbl : b < w1.heap.size) (hml : m < w1.heap.size) (hbw : Below w.heap.size w w1)
    (hg : w1.heap[b]? = some (.cells (grpCells { name := n, began := now, bad := false, all := [] } m) 65 (0, 0))) (hmm : MapIs Tryd.prog 3 w1 m []) (hmb : MapIs Tryd.prog 61 w' mb ((litN n, ptrV b) :: (grpsL gs).filter fun x => !x.1.sameKey (litN n))) (hg2 : w1.grownBy w' (some mb)) :
    PoolIn w' (Plus F w w') pb { s with l := s.l ++ [{ name := n, began := now, bad := false, all := [] }] } mb (gs ++ [newGb n now b m]) := by
  have hmbl := hF mb h.fmb
  have keep1 : ∀ k, k < w1.heap.size → k ≠ mb → w'.heap[k]? = w1.heap[k]? := fun k hk hne => hg2.block k hk (by simpa using hne)
  have keep : ∀ k, F k → k ≠ mb → w'.heap[k]? = w.heap[k]? := fun k hk hne => (keep1 k (Nat.lt_of_lt_of_le (hF k hk) hbw.size) hne).trans (hbw.block k (hF k hk))
  have hpm : pb ≠ mb := by
    intro e
    have h1 := h.pool
    rw [e] at h1
    exact h.map.not_cells h1
  have hne := find_no h hn hx
  have hfil : (grpsL gs).filter (fun x => !x.1.sameKey (litN n)) = grpsL gs := by
    refine List.filter_eq_self.2 (fun x hxm => ?_)
    have := hne x hxm
    simp only [Bool.not_eq_true', ← Bool.not_eq_true]
    exact fun hc => this (WideAt.sameKey_eq hc)
  rw [hfil] at hmb
  have hgl : ∀ g ∈ gs, g.b < w.heap.size ∧ (g.h.bad = false → g.m < w.heap.size) := fun g hgm => ⟨hF _ (h.fgs g hgm).1, fun hx => hF _ ((h.fgs g hgm).2 hx).1⟩
  have hgb : ∀ g ∈ gs, g.b ≠ mb := by
    intro g hgm e
    rcases hbd : g.h.bad with _ | _
    · exact (e ▸ h.map).not_cells ((h.each g hgm).good hbd)
    · exact (e ▸ h.map).not_cells ((h.each g hgm).bad hbd)
  have hbody : ∀ g ∈ gs, g.h.bad = false → ∀ v ∈ g.vs, ∀ k, v.ownBlock = some k → k ≠ mb := by
    intro g hgm hx v hv k hvk e
    have hlen := (h.each g hgm).len hx
    obtain ⟨i, hi, rfl⟩ := List.getElem_of_mem hv
    have hz : ((g.h.all)[i]'(by omega), g.vs[i]) ∈ g.h.all.zip g.vs := by
      rw [← List.getElem_zip (h := by simp; omega)]; exact List.getElem_mem _
    have ho := (h.each g hgm).body hx _ hz
    rcases ho.1.2 with ⟨h1, _⟩ | ⟨q, cap, cur, h1, _, hh, _⟩
    · simp only at h1; rw [h1] at hvk; cases hvk
    · simp only at h1; rw [h1] at hvk
      have : q = k := by simpa [Value.ownBlock] using hvk
      subst this
      exact (e ▸ h.map).not_cells hh
  have hnewb : w'.heap[b]? = some (.cells (grpCells { name := n, began := now, bad := false, all := [] } m) 65 (0, 0)) := (keep1 b hbl (by omega)).trans hg
  refine ⟨(keep pb h.fpb hpm).trans h.pool, ?_, by rw [List.map_append, h.list]; rfl, fun g hgm => ?_, ⟨fun x hxm => ?_, ?_, ?_⟩, fun g hgm => ?_, ⟨h.times.1, h.times.2.1, fun g hgm => ?_⟩, .inl h.fpb, .inl h.fmb, fun g hgm => ?_, ?_, ?_, fun g hgm hx => ?_⟩
  · have eg : grpsL (gs ++ [newGb n now b m]) = grpsL gs ++ [(litN n, ptrV b)] := by simp only [grpsL, newGb, List.map_append, List.map_cons, List.map_nil]
    rw [eg]
    exact hmb.perm (List.perm_append_singleton _ _).symm
  · rcases List.mem_append.1 hgm with h' | h'
    · exact (h.each g h').keep (keep _ (h.fgs g h').1 (hgb g h')) (fun hx => ⟨keep _ ((h.fgs g h').2 hx).1 (h.mm g h' hx), fun v hv k hk => keep _ (((h.fgs g h').2 hx).2 v hv k hk) (hbody g h' hx v hv k hk)⟩)
    · rw [List.mem_singleton.1 h']
      exact ⟨fun hc => (by cases hc), fun _ => hnewb, fun _ => rfl, fun _ => hmm.block (keep1 m hml (by omega)), fun _ x hx => (by cases hx)⟩
  · rcases List.mem_append.1 hxm with h' | h'
    · exact h.ok.each x h'
    · rw [List.mem_singleton.1 h']; exact ⟨GoodP.nil, fun _ => rfl, fun y hy => (by cases hy)⟩
  · rw [List.pairwise_append]
    refine ⟨h.ok.apart, List.pairwise_singleton _ _, fun x hxm y hy => ?_⟩
    rw [List.mem_singleton.1 hy]; exact getH_none hx x hxm
  · show (s.l ++ [_]).length ≤ 8
    rw [List.length_append, List.length_singleton]; omega
  · rcases List.mem_append.1 hgm with h' | h'
    · exact h.names g h'
    · rw [List.mem_singleton.1 h']; exact hn
  · rcases List.mem_append.1 hgm with h' | h'
    · exact h.times.2.2 g h'
    · rw [List.mem_singleton.1 h']; exact hnow
  · rcases List.mem_append.1 hgm with h' | h'
    · exact ⟨.inl (h.fgs g h').1, fun hx => ⟨.inl ((h.fgs g h').2 hx).1, fun v hv k hk => .inl (((h.fgs g h').2 hx).2 v hv k hk)⟩⟩
    · rw [List.mem_singleton.1 h']
      exact ⟨.inr ⟨hb, Nat.lt_of_lt_of_le hbl hg2.size⟩, fun _ => ⟨.inr ⟨hm, Nat.lt_of_lt_of_le hml hg2.size⟩, fun v hv => (by cases hv)⟩⟩
  · rw [List.pairwise_append]
    refine ⟨h.bs, List.pairwise_singleton _ _, fun g hgm y hy => ?_⟩
    rw [List.mem_singleton.1 hy]
    have h1 := (hgl g hgm).1
    show g.b ≠ b
    omega
  · rw [List.pairwise_append]
    refine ⟨h.ms, List.pairwise_singleton _ _, fun g hgm y hy hx _ => ?_⟩
    rw [List.mem_singleton.1 hy]
    have h1 := (hgl g hgm).2 hx
    show g.m ≠ m
    omega
  · rcases List.mem_append.1 hgm with h' | h'
    · exact h.mm g h' hx
    · rw [List.mem_singleton.1 h']
      show m ≠ mb
      omega
set_option maxRecDepth 100000 in
set_option maxHeartbeats 8000000 in
theorem find_new (F : Nat → Prop) (pb mb : Nat) (s : Po) (gs : List Gb) (n : Nm) (now : Int) (w : World) (h : PoolIn w F pb s mb gs) (hF : ∀ k, F k → k < w.heap.size) (hn : NmOk n) (hx : getH s.l n = none) (h8 : ¬ 8 ≤ s.l.length) (hnow : 0 ≤ now ∧ now ≤ 1000000) :
    Calls Tryd.prog 22 #[ptrV pb, nmV n, .int .i64 now] w fun e w' => ∃ b m, e = .returned (.tuple #[ptrV b, .nilIface]) ∧ PoolIn w' (Plus F w w') pb { s with l := s.l ++ [{ name := n, began := now, bad := false, all := [] }] } mb (gs ++ [newGb n now b m]) ∧ Turn F w w' := by
  obtain ⟨B1, hin, n0, n1, n2, n3⟩ := box_facts h hF n
  have hlk : ∀ W, W.heap[mb]? = (w.alloc (.cells #[.int .i64 n.kind, .int .i64 n.src, .int .i64 n.dst, .int .i64 n.ident] 61)).heap[mb]? → (Instr.lookup 49 (.map (some mb)) (nmV n) false).run Tryd.prog W = .ok (.pointer none) W := fun W hW =>
    (hin.map.block hW).look_no lawN Tryd.underlying49 (nil_ptr W) (keyN hn) (find_no hin hn hx)
  have hln : (grpsL gs).length = s.l.length := by rw [len_grps, ← hin.list, List.length_map]
  have hl8 : ¬ (8 : Int) ≤ ((grpsL gs).length : Int) := by omega
  have hle : ∀ W, W.heap[mb]? = (w.alloc (.cells #[.int .i64 n.kind, .int .i64 n.src, .int .i64 n.dst, .int .i64 n.ident] 61)).heap[mb]? → ∀ ty, (Builtin.len_ #[49] ty #[.map (some mb)]).run Tryd.prog W = .ok (.int .i64 ((grpsL gs).length : Int)) W := fun W hW ty => (hin.map.block hW).len Tryd.underlying49 ty
  obtain ⟨p0, p1, p2, f1⟩ := pool_cells hin
  have HB1 : Hid (Below w.heap.size w (w.alloc (.cells #[.int .i64 n.kind, .int .i64 n.src, .int .i64 n.dst, .int .i64 n.ident] 61))) := B1
  have HIN : Hid (PoolIn w F pb s mb gs) := h
  have HX : Hid (getH s.l n = none) := hx
  have H8 : Hid (¬ 8 ≤ s.l.length) := h8
  have HM : Hid (MapIs Tryd.prog 61 (w.alloc (.cells #[.int .i64 n.kind, .int .i64 n.src, .int .i64 n.dst, .int .i64 n.ident] 61)) mb (grpsL gs)) := hin.map
  have hlp := hF pb h.fpb
  have hlm := hF mb h.fmb
  have hs1 : w.heap.size < (w.alloc (.cells #[.int .i64 n.kind, .int .i64 n.src, .int .i64 n.dst, .int .i64 n.ident] 61)).heap.size := by simp
  have hmm := @run_makeMap Tryd.prog
  have HLN : Hid ((grpsL gs).length < maxLen) := by show (grpsL gs).length < maxLen; unfold maxLen; omega
  unfold nmV ptrV at *
  clear B1 hin p0 p1 f1 hx h8 h
  go_enter Tryd.func22, Tryd.ntmps22
  go_upto_region 1 with fail
  obtain ⟨W1, hW1⟩ : ∃ W1, w.alloc (.cells #[.int .i64 n.kind, .int .i64 n.src, .int .i64 n.dst, .int .i64 n.ident] 61) = W1 := ⟨_, rfl⟩
  rw [hW1] at n0 n1 n2 n3 p2 HB1 HM hs1 ⊢
  simp only [hW1] at hlk hle
  have l1 := hlk W1 rfl
  have l2 := hlk W1.drew rfl
  have e2 := hle W1.drew rfl
  generalize ((grpsL gs).length : Int) = N at hl8 e2
  have hS : W1.cell? ⟨pb, 2, none⟩ = some (.map (some mb)) ∧ W1.cell? ⟨w.heap.size, 0, none⟩ = some (.int .i64 n.kind) ∧ W1.cell? ⟨w.heap.size, 1, none⟩ = some (.int .i64 n.src) ∧ W1.cell? ⟨w.heap.size, 2, none⟩ = some (.int .i64 n.dst) ∧ W1.cell? ⟨w.heap.size, 3, none⟩ = some (.int .i64 n.ident) := ⟨p2, n0, n1, n2, n3⟩
  clear hlk hle hW1 hln
  go_region_held3 (fun X => X.cell? ⟨pb, 2, none⟩ = some (.map (some mb)) ∧ X.cell? ⟨w.heap.size, 0, none⟩ = some (.int .i64 n.kind) ∧ X.cell? ⟨w.heap.size, 1, none⟩ = some (.int .i64 n.src) ∧ X.cell? ⟨w.heap.size, 2, none⟩ = some (.int .i64 n.dst) ∧ X.cell? ⟨w.heap.size, 3, none⟩ = some (.int .i64 n.ident)) (with_reducible first | assumption | go_keep) (fail)
  go_upto_region 6 with fail
  have b3 : Below W1.heap.size W1 ((W1.alloc (.map #[] 0)).alloc (.cells #[.int .i64 now, .bool false, .map (some W1.heap.size), .int .i64 0, .int .i64 0, .int .i64 0, .int .i64 0] 65)) := ((Below.refl _ _).alloc (Nat.le_refl _) _).alloc (by simp) _
  have g3 : ((W1.alloc (.map #[] 0)).alloc (.cells #[.int .i64 now, .bool false, .map (some W1.heap.size), .int .i64 0, .int .i64 0, .int .i64 0, .int .i64 0] 65)).heap[W1.heap.size + 1]? = some (.cells #[.int .i64 now, .bool false, .map (some W1.heap.size), .int .i64 0, .int .i64 0, .int .i64 0, .int .i64 0] 65 (0, 0)) := by
    have h1 := heap_alloc_new (W1.alloc (.map #[] 0)) (.cells #[.int .i64 now, .bool false, .map (some W1.heap.size), .int .i64 0, .int .i64 0, .int .i64 0, .int .i64 0] 65)
    simpa using h1
  have m3 : MapIs Tryd.prog 3 ((W1.alloc (.map #[] 0)).alloc (.cells #[.int .i64 now, .bool false, .map (some W1.heap.size), .int .i64 0, .int .i64 0, .int .i64 0, .int .i64 0] 65)) W1.heap.size [] := (MapIs.made Tryd.prog 3 W1).block (Below.heap_alloc _ _ _ (by simp))
  have s3 : ((W1.alloc (.map #[] 0)).alloc (.cells #[.int .i64 now, .bool false, .map (some W1.heap.size), .int .i64 0, .int .i64 0, .int .i64 0, .int .i64 0] 65)).heap.size = W1.heap.size + 2 := by simp
  obtain ⟨W4, hW4⟩ : ∃ W4, ((W1.alloc (.map #[] 0)).alloc (.cells #[.int .i64 now, .bool false, .map (some W1.heap.size), .int .i64 0, .int .i64 0, .int .i64 0, .int .i64 0] 65)).drew = W4 := ⟨_, rfl⟩
  have hW4' : ((W1.alloc (.map #[] 0)).alloc (.cells #[.int .i64 now, .bool false, .map (some W1.heap.size), .int .i64 0, .int .i64 0, .int .i64 0, .int .i64 0] 65)) = ((W1.alloc (.map #[] 0)).alloc (.cells #[.int .i64 now, .bool false, .map (some W1.heap.size), .int .i64 0, .int .i64 0, .int .i64 0, .int .i64 0] 65)) := rfl
  have b4 : Below W1.heap.size W1 W4 := by rw [← hW4]; exact below_drewN b3 1
  have g4 : W4.heap[W1.heap.size + 1]? = some (.cells #[.int .i64 now, .bool false, .map (some W1.heap.size), .int .i64 0, .int .i64 0, .int .i64 0, .int .i64 0] 65 (0, 0)) := by rw [← hW4]; exact g3
  have m4 : MapIs Tryd.prog 3 W4 W1.heap.size [] := by rw [← hW4]; exact m3.block rfl
  have s4 : W4.heap.size = W1.heap.size + 2 := by rw [← hW4]; exact s3
  rw [hW4]
  have mm4 : MapIs Tryd.prog 61 W4.drew mb (grpsL gs) := HM.out.block (b4.block mb (by omega))
  obtain ⟨w5, hrun, hm5, hg5⟩ := mm4.store lawN Tryd.underlying49 HLN.out (keyN hn) (.pointer (some ⟨W1.heap.size + 1, 0, none⟩))
  unfold nmV at hrun
  have hS4 : W4.cell? ⟨pb, 2, none⟩ = some (.map (some mb)) ∧ W4.cell? ⟨w.heap.size, 0, none⟩ = some (.int .i64 n.kind) ∧ W4.cell? ⟨w.heap.size, 1, none⟩ = some (.int .i64 n.src) ∧ W4.cell? ⟨w.heap.size, 2, none⟩ = some (.int .i64 n.dst) ∧ W4.cell? ⟨w.heap.size, 3, none⟩ = some (.int .i64 n.ident) := ⟨(b4.cell (p := ⟨pb, 2, none⟩) (show pb < W1.heap.size by omega)).trans p2, (b4.cell (p := ⟨w.heap.size, 0, none⟩) hs1).trans n0, (b4.cell (p := ⟨w.heap.size, 1, none⟩) hs1).trans n1, (b4.cell (p := ⟨w.heap.size, 2, none⟩) hs1).trans n2, (b4.cell (p := ⟨w.heap.size, 3, none⟩) hs1).trans n3⟩
  have hmne : mb ≠ pb := by
    intro e
    have h1 := HIN.out.map
    rw [e] at h1
    exact h1.not_cells HIN.out.pool
  have cell5 : ∀ (q j : Nat) (v : Value), q < W4.heap.size → q ≠ mb → W4.cell? ⟨q, j, none⟩ = some v → w5.cell? ⟨q, j, none⟩ = some v := fun q j v h1 h2 h3 => by
    rw [World.cell?_of_block (w := W4) (hg5.block q h1 (by simpa using h2))]; exact h3
  have hS5 : w5.cell? ⟨pb, 2, none⟩ = some (.map (some mb)) ∧ w5.cell? ⟨w.heap.size, 0, none⟩ = some (.int .i64 n.kind) ∧ w5.cell? ⟨w.heap.size, 1, none⟩ = some (.int .i64 n.src) ∧ w5.cell? ⟨w.heap.size, 2, none⟩ = some (.int .i64 n.dst) ∧ w5.cell? ⟨w.heap.size, 3, none⟩ = some (.int .i64 n.ident) := ⟨cell5 _ _ _ (by omega) hmne.symm hS4.1, cell5 _ _ _ (by omega) (by omega) hS4.2.1, cell5 _ _ _ (by omega) (by omega) hS4.2.2.1, cell5 _ _ _ (by omega) (by omega) hS4.2.2.2.1, cell5 _ _ _ (by omega) (by omega) hS4.2.2.2.2⟩
  have hbd : w5.cell? ⟨W1.heap.size + 1, 1, none⟩ = some (.bool false) := cell5 _ _ _ (by omega) (by omega) (by rw [cell_of_row W4 _ 1 _ _ _ g4]; rfl)
  have hW1w : Below w.heap.size w W4 := HB1.out.trans (b4.mono HB1.out.size)
  have HFIN : Hid (PoolIn w5 (Plus F w w5) pb { s with l := s.l ++ [{ name := n, began := now, bad := false, all := [] }] } mb (gs ++ [newGb n now (W1.heap.size + 1) W1.heap.size])) :=
    HIN.out.begin (w1 := W4) hF hn HX.out H8.out hnow (by omega) (by omega) (by omega) (by omega) hW1w g4 m4 hm5 ⟨hg5.os, hg5.tape, hg5.output, hg5.size, hg5.block⟩
  have HTU : Hid (Turn F w w5) := (Turn.of_below hW1w F).trans ⟨hg5.os, hg5.tape, hg5.output, hg5.size, fun k hk hf => hg5.block k hk (by intro e; cases e; exact hf HIN.out.fmb)⟩
  clear hW4 hW4' b3 g3 m3 s3 b4 g4 m4 mm4 hm5 cell5 hW1w l1 l2 e2 hS n0 n1 n2 n3 p2 hmm hg5
  go_region_held3 (fun X => X.cell? ⟨pb, 2, none⟩ = some (.map (some mb)) ∧ X.cell? ⟨w.heap.size, 0, none⟩ = some (.int .i64 n.kind) ∧ X.cell? ⟨w.heap.size, 1, none⟩ = some (.int .i64 n.src) ∧ X.cell? ⟨w.heap.size, 2, none⟩ = some (.int .i64 n.dst) ∧ X.cell? ⟨w.heap.size, 3, none⟩ = some (.int .i64 n.ident)) (with_reducible first | assumption | go_keep) (fail)
  go_wp2_with fail
  go_ret2
  first
    | exact ⟨W1.heap.size + 1, rfl, ⟨W1.heap.size, HFIN.out⟩, HTU.out⟩
    | exact ⟨W1.heap.size + 1, W1.heap.size, rfl, HFIN.out, HTU.out⟩
end Go.Proofs.YtgodjaffmojhlaaDoor
