/- A pool in memory ('PoolAt'): its block, its map from names to groups, its groups' blocks and their maps from places to bodies; it stays while other blocks turn. What New, Len, nameOf of package frag and Move of package clock return. -/
import Derived.Test.YtgodjaffmojhlaaDoorMgD
import Derived.Test.YtgodjaffmojhlaaDoorMgD
import Derived.Test.YtgodjaffmojhlaaDoorMgD
import Derived.Test.YtgodjaffmojhlaaDoorMgD
namespace Go.Proofs.YtgodjaffmojhlaaDoor
open Go.RowKit Go.Maps
set_option linter.unusedVariables false

/-- A group, where it lies: its block, its map's, the bodies of its pieces. -/
structure Gb where
  h : Hp
  b : Nat
  m : Nat
  vs : List Value
def ptrV (b : Nat) : Value := .pointer (some ⟨b, 0, none⟩)
def grpCells (h : Hp) (m : Nat) : Array Value := #[.int .i64 h.began, .bool false, .map (some m), .int .i64 (ttlM h.all), .int .i64 (heldN h.all), .int .i64 (reachN h.all), .int .i64 (finN h.all)]
def badCells (h : Hp) : Array Value := #[.int .i64 h.began, .bool true, .map none, .int .i64 0, .int .i64 0, .int .i64 0, .int .i64 0]
def pcsL (g : Gb) : List (Lit × Value) := (g.h.all.zip g.vs).map fun x => (.int .i64 x.1.pos, x.2)
structure GrpAt (w : World) (g : Gb) : Prop where
  bad : g.h.bad = true → w.heap[g.b]? = some (.cells (badCells g.h) 65 (0, 0))
  good : g.h.bad = false → w.heap[g.b]? = some (.cells (grpCells g.h g.m) 65 (0, 0))
  len : g.h.bad = false → g.vs.length = g.h.all.length
  map : g.h.bad = false → MapIs Tryd.prog 3 w g.m (pcsL g)
  body : g.h.bad = false → ∀ x ∈ g.h.all.zip g.vs, OwnB w 0 x.2 x.1.body
noncomputable def grpsL (gs : List Gb) : List (Lit × Value) := gs.map fun g => (litN g.h.name, ptrV g.b)
structure PoolIn (w : World) (F : Nat → Prop) (pb : Nat) (s : Po) (mb : Nat) (gs : List Gb) : Prop where
  pool : w.heap[pb]? = some (.cells #[.int .i64 s.life, .int .i64 s.now, .map (some mb)] 53 (0, 0))
  map : MapIs Tryd.prog 61 w mb (grpsL gs)
  list : gs.map Gb.h = s.l
  each : ∀ g ∈ gs, GrpAt w g
  ok : OkP s
  names : ∀ g ∈ gs, NmOk g.h.name
  times : (1 ≤ s.life ∧ s.life ≤ 1000000) ∧ (0 ≤ s.now ∧ s.now ≤ 1000000) ∧ ∀ g ∈ gs, 0 ≤ g.h.began ∧ g.h.began ≤ 1000000
  fpb : F pb
  fmb : F mb
  fgs : ∀ g ∈ gs, F g.b ∧ (g.h.bad = false → F g.m ∧ ∀ v ∈ g.vs, ∀ k, v.ownBlock = some k → F k)
  bs : gs.Pairwise fun g h => g.b ≠ h.b
  ms : gs.Pairwise fun g h => g.h.bad = false → h.h.bad = false → g.m ≠ h.m
  mm : ∀ g ∈ gs, g.h.bad = false → g.m ≠ mb
def PoolAt (w : World) (F : Nat → Prop) (pb : Nat) (s : Po) : Prop := ∃ mb gs, PoolIn w F pb s mb gs
theorem GrpAt.keep {w w' : World} {g : Gb} (h : GrpAt w g) (hb : w'.heap[g.b]? = w.heap[g.b]?) (hm : g.h.bad = false → w'.heap[g.m]? = w.heap[g.m]? ∧ ∀ v ∈ g.vs, ∀ k, v.ownBlock = some k → w'.heap[k]? = w.heap[k]?) : GrpAt w' g :=
  ⟨fun hx => hb.trans (h.bad hx), fun hx => hb.trans (h.good hx), h.len, fun hx => (h.map hx).block (hm hx).1, fun hx x hxm => (h.body hx x hxm).blk (fun k hk => (hm hx).2 x.2 (List.of_mem_zip hxm).2 k hk)⟩
theorem PoolIn.keep {w w' : World} {F : Nat → Prop} {pb : Nat} {s : Po} {mb : Nat} {gs : List Gb} (h : PoolIn w F pb s mb gs) (hk : ∀ k, F k → w'.heap[k]? = w.heap[k]?) : PoolIn w' F pb s mb gs :=
  ⟨(hk _ h.fpb).trans h.pool, h.map.block (hk _ h.fmb), h.list, fun g hg => (h.each g hg).keep (hk _ (h.fgs g hg).1) (fun hx => ⟨hk _ ((h.fgs g hg).2 hx).1, fun v hv k hvk => hk _ (((h.fgs g hg).2 hx).2 v hv k hvk)⟩), h.ok, h.names, h.times, h.fpb, h.fmb, h.fgs, h.bs, h.ms, h.mm⟩
theorem PoolIn.mono {w : World} {F G : Nat → Prop} {pb : Nat} {s : Po} {mb : Nat} {gs : List Gb} (h : PoolIn w F pb s mb gs) (hFG : ∀ k, F k → G k) : PoolIn w G pb s mb gs :=
  ⟨h.pool, h.map, h.list, h.each, h.ok, h.names, h.times, hFG _ h.fpb, hFG _ h.fmb, fun g hg => ⟨hFG _ (h.fgs g hg).1, fun hx => ⟨hFG _ ((h.fgs g hg).2 hx).1, fun v hv k hk => hFG _ (((h.fgs g hg).2 hx).2 v hv k hk)⟩⟩, h.bs, h.ms, h.mm⟩
theorem heap_lt {w : World} {b : Nat} {o : Obj} (h : w.heap[b]? = some o) : b < w.heap.size := (Array.getElem?_eq_some_iff.1 h).1
theorem PoolIn.below {w w' : World} {F : Nat → Prop} {pb : Nat} {s : Po} {mb : Nat} {gs : List Gb} (h : PoolIn w F pb s mb gs) (hF : ∀ k, F k → k < w.heap.size) (hb : Below w.heap.size w w') : PoolIn w' F pb s mb gs := h.keep (fun k hk => hb.block k (hF k hk))

/-! ### small functions -/
set_option maxHeartbeats 2000000 in
theorem new_bad (life : Int) (w : World) (h : life < 1 ∨ 1000000 < life) :
    Calls Tryd.prog 4 #[.int .i64 life] w fun e w' => e = .returned (.tuple #[.pointer none, .iface 48 (.int .i64 1)]) ∧ w' = w := by
  by_cases h1 : life < 1
  · go_enter Tryd.func4, Tryd.ntmps4
    go_wp2_with fail
    go_ret2
    exact ⟨rfl, rfl⟩
  · have h2 : 1000000 < life := by omega
    go_enter Tryd.func4, Tryd.ntmps4
    go_wp2_with fail
    go_ret2
    exact ⟨rfl, rfl⟩
set_option maxHeartbeats 2000000 in
theorem new_good (life : Int) (w : World) (h1 : ¬ life < 1) (h2 : ¬ 1000000 < life) :
    Calls Tryd.prog 4 #[.int .i64 life] w fun e w' => e = .returned (.tuple #[ptrV (w.heap.size + 1), .nilIface]) ∧ w' = (w.alloc (.map #[] 0)).alloc (.cells #[.int .i64 life, .int .i64 0, .map (some w.heap.size)] 53) := by
  have hmm := @run_makeMap Tryd.prog
  go_enter Tryd.func4, Tryd.ntmps4
  go_wp2_with fail
  go_ret2
  exact ⟨by simp [ptrV], rfl⟩
set_option maxHeartbeats 2000000 in
theorem move_any (b o : Nat) (t now : Int) (w : World) (hc : w.cell? ⟨b, o, none⟩ = some (.int .i64 t)) (hf : w.frozen? ⟨b, o, none⟩ = false) :
    Calls Tryd.prog 14 #[.pointer (some ⟨b, o, none⟩), .int .i64 now] w fun e w' => e = .returned (errV (if now < 0 ∨ 1000000 < now then 1 else if now < t then 6 else 0)) ∧ w' = if now < 0 ∨ 1000000 < now then w else if now < t then w else w.setCell ⟨b, o, none⟩ (.int .i64 now) := by
  by_cases h1 : now < 0
  · rw [if_pos (.inl h1), if_pos (.inl h1)]
    go_enter Tryd.func14, Tryd.ntmps14
    go_wp2_with fail
    go_ret
    exact ⟨rfl, rfl⟩
  · by_cases h2 : 1000000 < now
    · rw [if_pos (.inr h2), if_pos (.inr h2)]
      go_enter Tryd.func14, Tryd.ntmps14
      go_wp2_with fail
      go_ret
      exact ⟨rfl, rfl⟩
    · have h12 : ¬ (now < 0 ∨ 1000000 < now) := by omega
      rw [if_neg h12, if_neg h12]
      by_cases h3 : now < t
      · rw [if_pos h3, if_pos h3]
        go_enter Tryd.func14, Tryd.ntmps14
        go_wp2_with fail
        go_ret
        exact ⟨rfl, rfl⟩
      · rw [if_neg h3, if_neg h3]
        go_enter Tryd.func14, Tryd.ntmps14
        go_wp2_with fail
        go_ret
        exact ⟨rfl, rfl⟩
set_option maxHeartbeats 2000000 in
theorem len_any (pb mb : Nat) (l : List (Lit × Value)) (w : World) (hc : w.cell? ⟨pb, 2, none⟩ = some (.map (some mb))) (hm : MapIs Tryd.prog 61 w mb l) :
    Calls Tryd.prog 11 #[ptrV pb] w fun e w' => e = .returned (.int .i64 (l.length : Int)) ∧ w' = w := by
  have hl := fun ty => hm.len Tryd.underlying49 ty
  unfold ptrV
  go_enter Tryd.func11, Tryd.ntmps11
  go_wp2_with fail
  go_ret
  exact ⟨rfl, rfl⟩
set_option maxHeartbeats 2000000 in
theorem nameOf_any (p : Pk) (a : Option Addr) (n c : Nat) (w : World) :
    Calls Tryd.prog 21 #[pkV p (.slice a n c)] w fun e w' => e = .returned (nmV (nmOf p)) ∧ Below w.heap.size w w' := by
  unfold pkV
  go_enter Tryd.func21, Tryd.ntmps21
  go_wp2_with fail
  exact bodyPost_ret (v := .agg #[.int .i64 p.kind, .int .i64 p.src, .int .i64 p.dst, .int .i64 p.ident]) (by simp [results, Tryd.results21, go_sem]) rfl ⟨rfl, ((Below.refl _ _).alloc (Nat.le_refl _) _).alloc (by simp) _⟩
end Go.Proofs.YtgodjaffmojhlaaDoor
