/- What Add of package frag answers where it refuses a packet ahead of any group: no packet that may be, no time that may be; a pool that is full, or a group that is bad. -/
import Derived.Test.YtgodjaffmojhlaaDoorPoolSwap
namespace Go.Proofs.YtgodjaffmojhlaaDoor
open Go.RowKit Go.Maps
set_option linter.unusedVariables false

/-- What Add leaves and answers. -/
def Adds (F : Nat → Prop) (pb : Nat) (s : Po) (x : Pk) (now : Int) (w : World) (e : Ending) (w' : World) : Prop :=
  ∃ bv, e = .returned (.tuple #[pkV (addA s x now).2.1 bv, .bool (addA s x now).2.2.1, errV (addA s x now).2.2.2]) ∧ Bytes w' bv (addA s x now).2.1.body ∧ PoolAt w' (Plus F w w') pb (addA s x now).1 ∧ Turn F w w'
theorem adds_no {F : Nat → Prop} {pb : Nat} {s : Po} {x : Pk} {now : Int} {w w' : World} {n : Int} (hn : ¬ n = 0) (h1 : (addA s x now).2 = (zeroK, false, n)) (h2 : PoolAt w' (Plus F w w') pb (addA s x now).1) (h3 : Turn F w w') :
    Adds F pb s x now w (.returned (.tuple #[.agg #[.int .i64 0, .int .i64 0, .int .i64 0, .int .i64 0, .int .i64 0, .int .i64 0, .bool false, .slice none 0 0], .bool false, .iface 48 (.int .i64 n)])) w' := by
  refine ⟨.slice none 0 0, ?_, ?_, h2, h3⟩
  · rw [h1]; unfold errV; rw [if_neg hn]; rfl
  · rw [h1]; exact .inl ⟨rfl, _, _, rfl, fun _ => rfl⟩
theorem add_boxes {w : World} {F : Nat → Prop} {pb : Nat} {s : Po} {mb : Nat} {gs : List Gb} (h : PoolIn w F pb s mb gs) (hF : ∀ k, F k → k < w.heap.size) (p : Pk) (bv : Value) (hb : Bytes w bv p.body) :
    Below w.heap.size w ((w.alloc (.cells #[.int .i64 p.kind, .int .i64 p.ttl, .int .i64 p.ident, .int .i64 p.src, .int .i64 p.dst, .int .i64 p.pos, .bool p.more, bv] 40)).alloc (.cells #[.int .i64 0, .int .i64 0, .int .i64 0, .int .i64 0, .int .i64 0, .int .i64 0, .bool false, .slice none 0 0] 40)) ∧ PkAt ((w.alloc (.cells #[.int .i64 p.kind, .int .i64 p.ttl, .int .i64 p.ident, .int .i64 p.src, .int .i64 p.dst, .int .i64 p.pos, .bool p.more, bv] 40)).alloc (.cells #[.int .i64 0, .int .i64 0, .int .i64 0, .int .i64 0, .int .i64 0, .int .i64 0, .bool false, .slice none 0 0] 40)) w.heap.size p bv ∧ PkAt ((w.alloc (.cells #[.int .i64 p.kind, .int .i64 p.ttl, .int .i64 p.ident, .int .i64 p.src, .int .i64 p.dst, .int .i64 p.pos, .bool p.more, bv] 40)).alloc (.cells #[.int .i64 0, .int .i64 0, .int .i64 0, .int .i64 0, .int .i64 0, .int .i64 0, .bool false, .slice none 0 0] 40)) (w.heap.size + 1) zeroK (.slice none 0 0) ∧ PoolIn ((w.alloc (.cells #[.int .i64 p.kind, .int .i64 p.ttl, .int .i64 p.ident, .int .i64 p.src, .int .i64 p.dst, .int .i64 p.pos, .bool p.more, bv] 40)).alloc (.cells #[.int .i64 0, .int .i64 0, .int .i64 0, .int .i64 0, .int .i64 0, .int .i64 0, .bool false, .slice none 0 0] 40)) F pb s mb gs ∧ Bytes ((w.alloc (.cells #[.int .i64 p.kind, .int .i64 p.ttl, .int .i64 p.ident, .int .i64 p.src, .int .i64 p.dst, .int .i64 p.pos, .bool p.more, bv] 40)).alloc (.cells #[.int .i64 0, .int .i64 0, .int .i64 0, .int .i64 0, .int .i64 0, .int .i64 0, .bool false, .slice none 0 0] 40)) bv p.body ∧ ((w.alloc (.cells #[.int .i64 p.kind, .int .i64 p.ttl, .int .i64 p.ident, .int .i64 p.src, .int .i64 p.dst, .int .i64 p.pos, .bool p.more, bv] 40)).alloc (.cells #[.int .i64 0, .int .i64 0, .int .i64 0, .int .i64 0, .int .i64 0, .int .i64 0, .bool false, .slice none 0 0] 40)).heap.size = w.heap.size + 2 := by
  have hB : Below w.heap.size w ((w.alloc (.cells #[.int .i64 p.kind, .int .i64 p.ttl, .int .i64 p.ident, .int .i64 p.src, .int .i64 p.dst, .int .i64 p.pos, .bool p.more, bv] 40)).alloc (.cells #[.int .i64 0, .int .i64 0, .int .i64 0, .int .i64 0, .int .i64 0, .int .i64 0, .bool false, .slice none 0 0] 40)) := ((Below.refl _ _).alloc (Nat.le_refl _) _).alloc (by simp) _
  refine ⟨hB, (PkAt.new w p bv).alloc _, ?_, h.below hF hB, hb.below (Nat.le_refl _) hB, by simp⟩
  have h1 := PkAt.zero (w.alloc (.cells #[.int .i64 p.kind, .int .i64 p.ttl, .int .i64 p.ident, .int .i64 p.src, .int .i64 p.dst, .int .i64 p.pos, .bool p.more, bv] 40))
  simpa using h1
theorem addA_err {s : Po} {x : Pk} {now : Int} (h : ¬ pkErr x = 0) : addA s x now = (s, zeroK, false, pkErr x) := by unfold addA; rw [if_pos h]
theorem addA_time {s : Po} {x : Pk} {now : Int} (h : pkErr x = 0) (h2 : ¬ tickE s now = 0) : addA s x now = (s, zeroK, false, tickE s now) := by unfold addA; rw [if_neg (by simpa using h), if_pos h2]
set_option maxRecDepth 100000 in
set_option maxHeartbeats 8000000 in
theorem add_err (F : Nat → Prop) (pb : Nat) (s : Po) (p : Pk) (bv : Value) (now : Int) (w : World) (hP : PoolAt w F pb s) (hF : ∀ k, F k → k < w.heap.size) (hb : Bytes w bv p.body) (he : ¬ pkErr p = 0) :
    Calls Tryd.prog 9 #[ptrV pb, pkV p bv, .int .i64 now] w (Adds F pb s p now w) := by
  obtain ⟨mb, gs, hin⟩ := hP
  have hbx := add_boxes hin hF p bv hb
  obtain ⟨a, c, hbv⟩ := len_body hb
  subst hbv
  obtain ⟨L, hLe⟩ : ∃ L, p.body.length = L := ⟨_, rfl⟩
  rw [hLe] at hbx ⊢
  obtain ⟨B2, hp2, hz2, hin2, hb2, hs2⟩ := hbx
  have HE : Hid (¬ pkErr p = 0) := he
  unfold ptrV pkV
  clear hb hLe he hin
  go_enter Tryd.func9, Tryd.ntmps9
  go_upto_region 1 with fail
  obtain ⟨W2, hW2⟩ : ∃ W2, ((w.alloc (.cells #[.int .i64 p.kind, .int .i64 p.ttl, .int .i64 p.ident, .int .i64 p.src, .int .i64 p.dst, .int .i64 p.pos, .bool p.more, .slice a L c] 40)).alloc (.cells #[.int .i64 0, .int .i64 0, .int .i64 0, .int .i64 0, .int .i64 0, .int .i64 0, .bool false, .slice none 0 0] 40)) = W2 := ⟨_, rfl⟩
  rw [hW2] at B2 hp2 hz2 hin2 hb2 hs2 ⊢
  have hck := check_any p (.slice a L c) W2 hb2
  rw [show errV (pkErr p) = .iface 48 (.int .i64 (pkErr p)) by unfold errV; rw [if_neg HE.out]] at hck
  unfold pkV at hck
  obtain ⟨x0, x1, x2, x3, x4, x5, x6, x7⟩ := hp2.cells
  have HIN : Hid (PoolIn W2 F pb s mb gs) := hin2
  generalize hn : pkErr p = n at hck
  have HN : Hid (pkErr p = n) := hn
  clear hW2 hin2 hb2 hn
  go_upto_region 3 with (go_at_call 19; refine hck.mono ?_; rintro e w3 ⟨rfl, bw3⟩)
  have hZ3 := hz2.below hz2.lt bw3
  have bel3 := B2.trans (bw3.mono B2.size)
  have hin3 := HIN.out.below (fun k hk => by have := hF k hk; omega) bw3
  have HFI : Hid (∀ w9, Only (w.heap.size + 1) w3 w9 → Adds F pb s p now w (.returned (.tuple #[.agg #[.int .i64 0, .int .i64 0, .int .i64 0, .int .i64 0, .int .i64 0, .int .i64 0, .bool false, .slice none 0 0], .bool false, .iface 48 (.int .i64 n)])) w9) := by
    intro w9 o9
    have ea := addA_err (s := s) (now := now) HE.out
    rw [HN.out] at ea
    refine adds_no (HN.out ▸ HE.out) (by rw [ea]) (by rw [ea]; exact ⟨mb, gs, (hin3.keep (fun k hk => o9.block k (by have := hF k hk; omega))).mono (fun k hk => .inl hk)⟩) ?_
    exact (Turn.of_below bel3 F).andThen (Turn.of_only (F := fun k => k = w.heap.size + 1) o9 rfl) (fun i hi => .inr (by omega))
  obtain ⟨z0, z1, z2, z3, z4, z5, z6, z7⟩ := hZ3.cells
  have f0 := hZ3.free 0
  have f1 := hZ3.free 1
  have f2 := hZ3.free 2
  have f3 := hZ3.free 3
  have f4 := hZ3.free 4
  have f5 := hZ3.free 5
  have f6 := hZ3.free 6
  have f7 := hZ3.free 7
  clear hck hp2 hz2 hin3 x0 x1 x2 x3 x4 x5 x6 x7 HIN
  go_wp2_with fail
  obtain ⟨w9, hw9, hp9, o9⟩ := hZ3.store 0 0 0 0 0 0 false (.slice none 0 0)
  rw [hw9]
  obtain ⟨r0, r1, r2, r3, r4, r5, r6, r7⟩ := hp9.cells
  simp only at r0 r1 r2 r3 r4 r5 r6 r7
  exact bodyPost_ret (v := .tuple #[.agg #[.int .i64 0, .int .i64 0, .int .i64 0, .int .i64 0, .int .i64 0, .int .i64 0, .bool false, .slice none 0 0], .bool false, .iface 48 (.int .i64 n)]) (by simp [results, Tryd.results9, go_sem, r0, r1, r2, r3, r4, r5, r6, r7]) rfl (HFI.out w9 o9)
end Go.Proofs.YtgodjaffmojhlaaDoor
