/- Tables of package table in memory ('TbAt'): the table's block, its map from First of keys to flows. What New, isGone, Len, has of it, Move of package clock and maps.Clone return. -/
import Derived.Test.YtdhjfjnjdkmhjaaDoorTblKey
import Derived.Test.YtdhjfjnjdkmhjaaDoorTblMath
import Derived.Test.YtdhjfjnjdkmhjaaDoorMgC
import Derived.Test.YtdhjfjnjdkmhjaaDoorSegFst
import Derived.Test.YtdhjfjnjdkmhjaaDoorMgH
import Derived.Test.YtdhjfjnjdkmhjaaDoorTrkZe
import Derived.Laws.Externs
import Derived.MapKept
import Derived.Deep.RegionHeld3
namespace Go.Proofs.YtdhjfjnjdkmhjaaDoor
open Go.RowKit Go.Maps
set_option linter.unusedVariables false

noncomputable def flsL (fs : List Fl) : List (Lit × Value) := fs.map fun f => (litK (firstK f.key), flV f)
structure TbAt (w : World) (b m : Nat) (t : Tb) : Prop where
  tab : w.heap[b]? = some (.cells #[.int .i64 t.max, .int .i64 t.now, .map (some m)] 75 (0, 0))
  map : MapIs Tryd.prog 23 w m (flsL t.fs)
  oks : ∀ f ∈ t.fs, KyOk f.key
theorem blk_lt {w : World} {b : Nat} {o : Obj} (h : w.heap[b]? = some o) : b < w.heap.size := (Array.getElem?_eq_some_iff.1 h).1
theorem TbAt.lt {w : World} {b m : Nat} {t : Tb} (h : TbAt w b m t) : b < w.heap.size := blk_lt h.tab
theorem TbAt.blk {w w' : World} {b m : Nat} {t : Tb} (h : TbAt w b m t) (hb : w'.heap[b]? = w.heap[b]?) (hm : w'.heap[m]? = w.heap[m]?) : TbAt w' b m t := ⟨hb.trans h.tab, h.map.block hm, h.oks⟩
theorem TbAt.below {w w' : World} {b m : Nat} {t : Tb} (h : TbAt w b m t) (hb : Below w.heap.size w w') : TbAt w' b m t := h.blk (hb.block _ h.lt) (hb.block _ h.map.lt)
theorem TbAt.alloc {w : World} {b m : Nat} {t : Tb} (h : TbAt w b m t) (o : Obj) : TbAt (w.alloc o) b m t := h.below ((Below.refl _ _).alloc (Nat.le_refl _) _)
theorem TbAt.ne {w : World} {b m : Nat} {t : Tb} (h : TbAt w b m t) : b ≠ m := fun e => by
  have hm := h.map
  rw [← e] at hm
  exact hm.not_cells h.tab
theorem tab_cells {w : World} {b : Nat} {x y z : Value} (h : w.heap[b]? = some (.cells #[x, y, z] 75 (0, 0))) : w.cell? ⟨b, 0, none⟩ = some x ∧ w.cell? ⟨b, 1, none⟩ = some y ∧ w.cell? ⟨b, 2, none⟩ = some z := by
  refine ⟨?_, ?_, ?_⟩ <;> (rw [cell_of_row w b _ _ _ _ h]; rfl)
theorem tab_frees {w : World} {b : Nat} {x y z : Value} (h : w.heap[b]? = some (.cells #[x, y, z] 75 (0, 0))) : w.frozen? ⟨b, 0, none⟩ = false ∧ w.frozen? ⟨b, 1, none⟩ = false ∧ w.frozen? ⟨b, 2, none⟩ = false :=
  ⟨frozen_of_row w b 0 _ _ h, frozen_of_row w b 1 _ _ h, frozen_of_row w b 2 _ _ h⟩
theorem tab_set {w : World} {b : Nat} {x y z : Value} (h : w.heap[b]? = some (.cells #[x, y, z] 75 (0, 0))) (x' y' z' : Value) :
    ∃ w', ((w.setCell ⟨b, 0, none⟩ x').setCell ⟨b, 1, none⟩ y').setCell ⟨b, 2, none⟩ z' = w' ∧ w'.heap[b]? = some (.cells #[x', y', z'] 75 (0, 0)) ∧ Only b w w' := by
  refine ⟨_, rfl, ?_, (((Only.refl _ _).setCell _ _).setCell _ _).setCell _ _⟩
  exact heap_setCell_same _ b 2 _ _ z' (heap_setCell_same _ b 1 _ _ y' (heap_setCell_same _ b 0 _ _ x' h))
theorem tab_set1 {w : World} {b : Nat} {x y z : Value} (h : w.heap[b]? = some (.cells #[x, y, z] 75 (0, 0))) (y' : Value) :
    ∃ w', w.setCell ⟨b, 1, none⟩ y' = w' ∧ w'.heap[b]? = some (.cells #[x, y', z] 75 (0, 0)) ∧ Only b w w' :=
  ⟨_, rfl, heap_setCell_same _ b 1 _ _ y' h, (Only.refl _ _).setCell _ _⟩
theorem tab_set2 {w : World} {b : Nat} {x y z : Value} (h : w.heap[b]? = some (.cells #[x, y, z] 75 (0, 0))) (z' : Value) :
    ∃ w', w.setCell ⟨b, 2, none⟩ z' = w' ∧ w'.heap[b]? = some (.cells #[x, y, z'] 75 (0, 0)) ∧ Only b w w' :=
  ⟨_, rfl, heap_setCell_same _ b 2 _ _ z' h, (Only.refl _ _).setCell _ _⟩
theorem zeroFl (w : World) : (zeroValue 30).run Tryd.prog w = .ok (flV zeroF) w := by
  have h : (Tryd.prog.info? 30).map (fun i => i.zero) = some (some (flV zeroF)) := by kernel_rfl
  obtain ⟨i0, hi, hz0⟩ := Option.map_eq_some_iff.1 h
  simp [zeroValue, typeInfo, hi, hz0]
theorem fls_mem {fs : List Fl} {x : Lit × Value} : x ∈ flsL fs ↔ ∃ f ∈ fs, x = (litK (firstK f.key), flV f) := by
  unfold flsL
  rw [List.mem_map]
  exact ⟨fun ⟨f, hf, e⟩ => ⟨f, hf, e.symm⟩, fun ⟨f, hf, e⟩ => ⟨f, hf, e.symm⟩⟩
/-- A look-up of a key tells whether it has a flow. -/
theorem look_has {fs : List Fl} (hok : ∀ f ∈ fs, KyOk f.key) {k : Ky} (hk : KyOk k) (m : Nat) :
    ∃ g : Fl, (hasK fs k = true → g ∈ fs ∧ firstK g.key = firstK k) ∧ (hasK fs k = false → g = zeroF) ∧ ∀ X, MapIs Tryd.prog 23 X m (flsL fs) → (Instr.lookup 71 (.map (some m)) (keyV (firstK k)) true).run Tryd.prog X = .ok (.tuple #[flV g, .bool (hasK fs k)]) X := by
  cases hh : hasK fs k
  · refine ⟨zeroF, (fun h => by cases h), fun _ => rfl, fun X hX => ?_⟩
    refine hX.look_ok_no lawK Tryd.underlying71 (zeroFl X) (keyK hk.first) (fun x hx e => ?_)
    obtain ⟨f, hf, rfl⟩ := fls_mem.1 hx
    simp only at e
    exact hasK_not hh f hf (litK_inj (hok f hf).first hk.first e)
  · obtain ⟨g, hg, e⟩ := hasK_of hh
    refine ⟨g, fun _ => ⟨hg, e⟩, (fun h => by cases h), fun X hX => ?_⟩
    refine hX.look_ok lawK Tryd.underlying71 (zeroFl X) (keyK hk.first) (fls_mem.2 ⟨g, hg, by rw [e]⟩)

/-! ### maps.Clone -/
section
variable {P : Program} (w : World)
theorem eqlIn_map_nil (d : Nat) (t k e : TypeId) (p : Option Nat) (h : P.underlying t = some (.map k e)) :
    (Op.equalIn (d + 1) t (.map p) (.map none)).run P w = .ok p.isNone w := by
  cases p <;> simp [Op.equalIn, run_underlying h]
theorem eql_map_nil (t k e : TypeId) (p : Option Nat) (h : P.underlying t = some (.map k e)) :
    (binOp .eql t (.map p) (.map none)).run P w = .ok (.bool p.isNone) w := by
  simp only [binOp]
  simp [show Op.equal t (.map p) (.map none) = Op.equalIn (9999 + 1) t (.map p) (.map none) from rfl, eqlIn_map_nil w 9999 t k e p h]
theorem assert_map (t xT k e : TypeId) (v : Value) (h : P.underlying t = some (.map k e)) : (Instr.typeAssert (.iface t v) xT t false).run P w = .ok v w := by
  simp [Instr.typeAssert, run_underlying h, go_sem, Result.andThen]
theorem clone_run {r : Nat} {es : Array MapEntry} {clock : Nat} (t : TypeId) (hb : w.heap[r]? = some (.map es clock)) :
    (Extern.MapsClone.clone #[.iface t (.map (some r))]).run P w = .ok (.iface t (.map (some w.heap.size))) (w.alloc (.map es clock)) := by
  have e : Extern.MapsClone.clone #[.iface t (.map (some r))] = (getObj r >>= fun o => match o with
      | .map entries clock => (newObj (.map entries clock) >>= fun n => pure (.iface t (.map (some n))))
      | _ => stuck "maps.clone: a map expected") := rfl
  rw [e]
  simp [MapKept.run_getObj_map hb, Result.andThen, go_sem]
end
theorem MapIs.cloned {P : Program} {k : TypeId} {w : World} {b : Nat} {l : List (Lit × Value)} (h : MapIs P k w b l) :
    ∃ es clock, w.heap[b]? = some (.map es clock) ∧ MapIs P k (w.alloc (.map es clock)) w.heap.size l := by
  obtain ⟨es0, ⟨es, clock, hb, F⟩, hp⟩ := h
  exact ⟨es, clock, hb, es0, ⟨es, clock, (MapKept.heap_alloc w _).1, F⟩, hp⟩
set_option maxRecDepth 100000 in
set_option maxHeartbeats 2000000 in
theorem clone_any (b : Nat) (es : Array MapEntry) (clock : Nat) (w : World) (hb : w.heap[b]? = some (.map es clock)) :
    Calls Tryd.prog 49 #[.map (some b)] w fun e w' => e = .returned (.map (some w.heap.size)) ∧ w' = w.alloc (.map es clock) := by
  have hq := fun w => eql_map_nil (P := Tryd.prog) w 71 _ _ (some b) Tryd.underlying71
  go_enter Tryd.func49, Tryd.ntmps49
  go_wp2
  rw [run_callFunc_extern Tryd.func65 (by kernel_rfl) (by kernel_rfl) (by kernel_rfl) (e := Extern.MapsClone.clone) (by kernel_rfl), clone_run w 71 hb]
  simp only [Result.andThen]
  rw [Oper.upon_value]
  go_wp2
  rw [assert_map _ 71 _ _ _ _ Tryd.underlying71]
  simp only [Result.andThen]
  rw [Oper.upon_value]
  go_wp2
  go_ret
  exact ⟨rfl, rfl⟩

/-! ### small functions -/
set_option maxHeartbeats 2000000 in
theorem tnew_bad (max : Int) (w : World) (h : max < 1 ∨ 30 < max) :
    Calls Tryd.prog 15 #[.int .i64 max] w fun e w' => e = .returned (.tuple #[.pointer none, .iface 59 (.int .i64 1)]) ∧ w' = w := by
  by_cases h1 : max < 1
  · go_enter Tryd.func15, Tryd.ntmps15
    go_wp2_with fail
    go_ret2
    exact ⟨rfl, rfl⟩
  · have h2 : 30 < max := by omega
    go_enter Tryd.func15, Tryd.ntmps15
    go_wp2_with fail
    go_ret2
    exact ⟨rfl, rfl⟩
set_option maxHeartbeats 2000000 in
theorem tnew_good (max : Int) (w : World) (h1 : ¬ max < 1) (h2 : ¬ 30 < max) :
    Calls Tryd.prog 15 #[.int .i64 max] w fun e w' => e = .returned (.tuple #[.pointer (some ⟨w.heap.size + 1, 0, none⟩), .nilIface]) ∧ w' = (w.alloc (.map #[] 0)).alloc (.cells #[.int .i64 max, .int .i64 0, .map (some w.heap.size)] 75) := by
  have hmm := @run_makeMap Tryd.prog
  go_enter Tryd.func15, Tryd.ntmps15
  go_wp2_with fail
  go_ret2
  exact ⟨by simp, rfl⟩
theorem tnew_at (max : Int) (w : World) : TbAt ((w.alloc (.map #[] 0)).alloc (.cells #[.int .i64 max, .int .i64 0, .map (some w.heap.size)] 75)) (w.heap.size + 1) w.heap.size { max := max, now := 0, fs := [] } := by
  refine ⟨?_, ?_, fun f hf => by cases hf⟩
  · have e := heap_alloc_new (w.alloc (.map #[] 0)) (.cells #[.int .i64 max, .int .i64 0, .map (some w.heap.size)] 75)
    simpa using e
  · exact (MapIs.made Tryd.prog 23 w).block (Below.heap_alloc _ _ _ (by simp))
set_option maxHeartbeats 2000000 in
theorem move_bad (b o : Nat) (t : Tb) (now z : Int) (w : World) (hz : timE t now = z) (h0 : ¬ z = 0) (hc : w.cell? ⟨b, o, none⟩ = some (.int .i64 t.now)) :
    Calls Tryd.prog 48 #[.pointer (some ⟨b, o, none⟩), .int .i64 now] w fun e w' => e = .returned (.iface 59 (.int .i64 z)) ∧ w' = w := by
  unfold timE at hz
  by_cases h1 : now < 0
  · rw [if_pos (.inl h1)] at hz
    subst hz
    go_enter Tryd.func48, Tryd.ntmps48
    go_wp2_with fail
    go_ret
    exact ⟨rfl, rfl⟩
  · by_cases h2 : 1000000 < now
    · rw [if_pos (.inr h2)] at hz
      subst hz
      go_enter Tryd.func48, Tryd.ntmps48
      go_wp2_with fail
      go_ret
      exact ⟨rfl, rfl⟩
    · rw [if_neg (by omega)] at hz
      by_cases h3 : now < t.now
      · rw [if_pos h3] at hz
        subst hz
        go_enter Tryd.func48, Tryd.ntmps48
        go_wp2_with fail
        go_ret
        exact ⟨rfl, rfl⟩
      · rw [if_neg h3] at hz
        exact absurd hz.symm h0
set_option maxHeartbeats 2000000 in
theorem move_ok (b o : Nat) (t : Tb) (now : Int) (w : World) (hz : timE t now = 0) (hc : w.cell? ⟨b, o, none⟩ = some (.int .i64 t.now)) (hf : w.frozen? ⟨b, o, none⟩ = false) :
    Calls Tryd.prog 48 #[.pointer (some ⟨b, o, none⟩), .int .i64 now] w fun e w' => e = .returned .nilIface ∧ w' = w.setCell ⟨b, o, none⟩ (.int .i64 now) := by
  obtain ⟨h1, h2, h3⟩ := timE_ok hz
  have i1 : ¬ now < 0 := by omega
  have i2 : ¬ 1000000 < now := by omega
  have i3 : ¬ now < t.now := by omega
  clear hz h1 h2 h3
  go_enter Tryd.func48, Tryd.ntmps48
  go_wp2_with fail
  go_ret
  exact ⟨rfl, rfl⟩
set_option maxHeartbeats 2000000 in
theorem tlen_any (b m : Nat) (t : Tb) (w : World) (h : TbAt w b m t) :
    Calls Tryd.prog 18 #[.pointer (some ⟨b, 0, none⟩)] w fun e w' => e = .returned (.int .i64 (t.fs.length : Int)) ∧ w' = w := by
  have hl := fun ty => h.map.len Tryd.underlying71 ty
  rw [show (flsL t.fs).length = t.fs.length by unfold flsL; rw [List.length_map]] at hl
  obtain ⟨c0, c1, c2⟩ := tab_cells h.tab
  generalize t.fs.length = n at hl ⊢
  clear h
  go_enter Tryd.func18, Tryd.ntmps18
  go_wp2_with fail
  go_ret
  exact ⟨rfl, rfl⟩
set_option maxHeartbeats 4000000 in
theorem gone_any (f : Fl) (now : Int) (w : World) :
    Calls Tryd.prog 50 #[flV f, .int .i64 now] w fun e w' => e = .returned (.bool (goneB now f)) ∧ Below w.heap.size w w' := by
  have hb : Below w.heap.size w (w.alloc (.cells #[.int .i64 f.key.kind, .int .i64 f.key.src, .int .i64 f.key.frm, .int .i64 f.key.dst, .int .i64 f.key.too, .int .i64 f.st, .int .i64 f.unt, .int .i64 f.stp, .int .i64 f.h0, .int .i64 f.h1, .int .i64 f.w0, .int .i64 f.w1, .bool f.d0, .bool f.d1, .int .i64 f.num] 30)) := (Below.refl _ _).alloc (Nat.le_refl _) _
  have HB : Hid _ := hb
  unfold flV
  by_cases h : f.unt ≤ now
  · have e : goneB now f = true := decide_eq_true h
    rw [e]
    clear hb e
    go_enter Tryd.func50, Tryd.ntmps50
    go_wp2_with fail
    go_ret
    exact ⟨rfl, HB.out⟩
  · have e : goneB now f = false := decide_eq_false h
    rw [e]
    clear hb e
    go_enter Tryd.func50, Tryd.ntmps50
    go_wp2_with fail
    go_ret
    exact ⟨rfl, HB.out⟩
end Go.Proofs.YtdhjfjnjdkmhjaaDoor
