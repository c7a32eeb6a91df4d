/- What Add of the reference's pool answers (package portref2) of a packet that is wrong, or at a wrong time. -/
import Derived.Test.YtgodjaffmojhlaaDoorRefPl1
import Derived.Test.YtgodjaffmojhlaaDoorRefPk
import Derived.Test.YtgodjaffmojhlaaDoorPoolAdd2
namespace Go.Proofs.YtgodjaffmojhlaaDoor
open Go.RowKit
set_option linter.unusedVariables false

/-- A slice that lies in what was there at first, or in what is new. -/
def Lies (w0 w : World) (bv : Value) : Prop := ∀ b off len cap, bv = .slice (some ⟨b, off, none⟩) len cap → 0 < len → b < w0.heap.size ∨ w.heap.size ≤ b
theorem Lies.old {w0 w : World} {bv : Value} {zs : List Int} (h : Bytes w0 bv zs) : Lies w0 w bv := by
  intro b off len cap e hl
  rcases h with ⟨_, a, c, e2, _⟩ | ⟨b', off', len', cap', h1, h2, h3, h4, h5, h6⟩
  · rw [e2] at e
    simp only [Value.slice.injEq] at e
    omega
  · rw [h1] at e
    simp only [Value.slice.injEq, Option.some.injEq, Addr.mk.injEq] at e
    obtain ⟨⟨rfl, _⟩, rfl, _⟩ := e
    exact .inl (h6.lt (by omega))
def RAdds (w0 : World) (F : Nat → Prop) (pb : Nat) (s : Po) (x : Pk) (now : Int) (w : World) (e : Ending) (w' : World) : Prop :=
  ∃ bv, e = .returned (.tuple #[pkV (addA s x now).2.1 bv, .bool (addA s x now).2.2.1, .int .i64 (addA s x now).2.2.2]) ∧ Bytes w' bv (addA s x now).2.1.body ∧ RPool w0 w' (Plus F w w') pb (addA s x now).1 ∧ Turn F w w' ∧ Lies w0 w bv
theorem radds_no {w0 : World} {F : Nat → Prop} {pb : Nat} {s : Po} {x : Pk} {now : Int} {w w' : World} {n : Int} (h1 : (addA s x now).2 = (zeroK, false, n)) (h2 : RPool w0 w' (Plus F w w') pb (addA s x now).1) (h3 : Turn F w w') :
    RAdds w0 F pb s x now w (.returned (.tuple #[.agg #[.int .i64 0, .int .i64 0, .int .i64 0, .int .i64 0, .int .i64 0, .int .i64 0, .bool false, .slice none 0 0], .bool false, .int .i64 n])) w' := by
  refine ⟨.slice none 0 0, ?_, ?_, h2, h3, fun b off len cap e => (by cases e)⟩
  · rw [h1]; rfl
  · rw [h1]; exact .inl ⟨rfl, _, _, rfl, fun _ => rfl⟩
theorem RPool.moved {w0 w wa w9 : World} {F G : Nat → Prop} {pb : Nat} {s : Po} (h : RPool w0 wa G pb s) (hG : ∀ k, G k → F k ∨ (w.heap.size ≤ k ∧ k < w9.heap.size)) (hk : ∀ k, G k → w9.heap[k]? = wa.heap[k]?) (hF : ∀ k, F k → w0.heap.size ≤ k) (hz : w0.heap.size ≤ w.heap.size) (hb : Below w0.heap.size w0 w9) : RPool w0 w9 (Plus F w w9) pb s := by
  obtain ⟨lv, rs, h⟩ := h
  have g := h.keep hk hb
  exact ⟨lv, rs, g.pool, g.row, g.list, g.slv, g.name, g.all, g.body, g.ok, g.times, hG _ g.fpb, fun k e => ⟨hG _ (g.frow k e).1, (g.frow k e).2⟩, fun r hr hx k e => ⟨hG _ (g.fall r hr hx k e).1, (g.fall r hr hx k e).2⟩, g.apart, fun k hk => by
    rcases hk with hk | hk
    · exact hF k hk
    · omega, g.bel⟩
theorem radd_boxes {w0 w : World} {F : Nat → Prop} {pb : Nat} {s : Po} {lv : Value} {rs : List Rh} (h : RpIn w0 w F pb s lv rs) (hF : ∀ k, F k → k < w.heap.size) (p : Pk) (bv : Value) (hb : Bytes w bv p.body) :
    Below w.heap.size w ((w.alloc (.cells #[.int .i64 p.kind, .int .i64 p.ttl, .int .i64 p.ident, .int .i64 p.src, .int .i64 p.dst, .int .i64 p.pos, .bool p.more, bv] 40)).alloc (.cells #[.int .i64 0, .int .i64 0, .int .i64 0, .int .i64 0, .int .i64 0, .int .i64 0, .bool false, .slice none 0 0] 40)) ∧ PkAt ((w.alloc (.cells #[.int .i64 p.kind, .int .i64 p.ttl, .int .i64 p.ident, .int .i64 p.src, .int .i64 p.dst, .int .i64 p.pos, .bool p.more, bv] 40)).alloc (.cells #[.int .i64 0, .int .i64 0, .int .i64 0, .int .i64 0, .int .i64 0, .int .i64 0, .bool false, .slice none 0 0] 40)) w.heap.size p bv ∧ PkAt ((w.alloc (.cells #[.int .i64 p.kind, .int .i64 p.ttl, .int .i64 p.ident, .int .i64 p.src, .int .i64 p.dst, .int .i64 p.pos, .bool p.more, bv] 40)).alloc (.cells #[.int .i64 0, .int .i64 0, .int .i64 0, .int .i64 0, .int .i64 0, .int .i64 0, .bool false, .slice none 0 0] 40)) (w.heap.size + 1) zeroK (.slice none 0 0) ∧ RpIn w0 ((w.alloc (.cells #[.int .i64 p.kind, .int .i64 p.ttl, .int .i64 p.ident, .int .i64 p.src, .int .i64 p.dst, .int .i64 p.pos, .bool p.more, bv] 40)).alloc (.cells #[.int .i64 0, .int .i64 0, .int .i64 0, .int .i64 0, .int .i64 0, .int .i64 0, .bool false, .slice none 0 0] 40)) F pb s lv rs ∧ Bytes ((w.alloc (.cells #[.int .i64 p.kind, .int .i64 p.ttl, .int .i64 p.ident, .int .i64 p.src, .int .i64 p.dst, .int .i64 p.pos, .bool p.more, bv] 40)).alloc (.cells #[.int .i64 0, .int .i64 0, .int .i64 0, .int .i64 0, .int .i64 0, .int .i64 0, .bool false, .slice none 0 0] 40)) bv p.body ∧ ((w.alloc (.cells #[.int .i64 p.kind, .int .i64 p.ttl, .int .i64 p.ident, .int .i64 p.src, .int .i64 p.dst, .int .i64 p.pos, .bool p.more, bv] 40)).alloc (.cells #[.int .i64 0, .int .i64 0, .int .i64 0, .int .i64 0, .int .i64 0, .int .i64 0, .bool false, .slice none 0 0] 40)).heap.size = w.heap.size + 2 := by
  have hB : Below w.heap.size w ((w.alloc (.cells #[.int .i64 p.kind, .int .i64 p.ttl, .int .i64 p.ident, .int .i64 p.src, .int .i64 p.dst, .int .i64 p.pos, .bool p.more, bv] 40)).alloc (.cells #[.int .i64 0, .int .i64 0, .int .i64 0, .int .i64 0, .int .i64 0, .int .i64 0, .bool false, .slice none 0 0] 40)) := ((Below.refl _ _).alloc (Nat.le_refl _) _).alloc (by simp) _
  refine ⟨hB, (PkAt.new w p bv).alloc _, ?_, h.below hF hB, hb.below (Nat.le_refl _) hB, by simp⟩
  have h1 := PkAt.zero (w.alloc (.cells #[.int .i64 p.kind, .int .i64 p.ttl, .int .i64 p.ident, .int .i64 p.src, .int .i64 p.dst, .int .i64 p.pos, .bool p.more, bv] 40))
  simpa using h1
set_option maxRecDepth 100000 in
set_option maxHeartbeats 8000000 in
theorem radd_err (w0 : World) (F : Nat → Prop) (pb : Nat) (s : Po) (p : Pk) (bv : Value) (now : Int) (w : World) (hP : RPool w0 w F pb s) (hF : ∀ k, F k → k < w.heap.size) (hb : Bytes w bv p.body) (he : ¬ pkErr p = 0) :
    Calls Tryd.prog 8 #[ptrV pb, pkV p bv, .int .i64 now] w (RAdds w0 F pb s p now w) := by
  obtain ⟨mb, gs, hin⟩ := hP
  have HNEW : Hid ((∀ k, F k → w0.heap.size ≤ k) ∧ w0.heap.size ≤ w.heap.size) := ⟨hin.new, hin.bel.size⟩
  have hbx := radd_boxes hin hF p bv hb
  obtain ⟨a, c, hbv⟩ := len_body hb
  subst hbv
  obtain ⟨L, hLe⟩ : ∃ L, p.body.length = L := ⟨_, rfl⟩
  rw [hLe] at hbx ⊢
  obtain ⟨B2, hp2, hz2, hin2, hb2, hs2⟩ := hbx
  have HE : Hid (¬ pkErr p = 0) := he
  unfold ptrV pkV
  clear hb hLe he hin
  go_enter Tryd.func8, Tryd.ntmps8
  go_upto_region 1 with fail
  obtain ⟨W2, hW2⟩ : ∃ W2, ((w.alloc (.cells #[.int .i64 p.kind, .int .i64 p.ttl, .int .i64 p.ident, .int .i64 p.src, .int .i64 p.dst, .int .i64 p.pos, .bool p.more, .slice a L c] 40)).alloc (.cells #[.int .i64 0, .int .i64 0, .int .i64 0, .int .i64 0, .int .i64 0, .int .i64 0, .bool false, .slice none 0 0] 40)) = W2 := ⟨_, rfl⟩
  rw [hW2] at B2 hp2 hz2 hin2 hb2 hs2 ⊢
  have hck := refPacket_any p (.slice a L c) W2 hb2
  unfold pkV at hck
  obtain ⟨x0, x1, x2, x3, x4, x5, x6, x7⟩ := hp2.cells
  have HIN : Hid (RpIn w0 W2 F pb s mb gs) := hin2
  generalize hn : pkErr p = n at hck
  have HN : Hid (pkErr p = n) := hn
  have hnz : ¬ n = 0 := by rw [← hn]; exact HE.out
  have hnz2 : (n != 0) = true := by simpa using hnz
  clear hW2 hin2 hb2 hn
  go_upto_region 3 with (go_at_call 17; refine hck.mono ?_; rintro e w3 ⟨rfl, bw3⟩)
  have hZ3 := hz2.below hz2.lt bw3
  have bel3 := B2.trans (bw3.mono B2.size)
  have hin3 := HIN.out.below (fun k hk => by have := hF k hk; omega) bw3
  have HFI : Hid (∀ w9, Only (w.heap.size + 1) w3 w9 → RAdds w0 F pb s p now w (.returned (.tuple #[.agg #[.int .i64 0, .int .i64 0, .int .i64 0, .int .i64 0, .int .i64 0, .int .i64 0, .bool false, .slice none 0 0], .bool false, .int .i64 n])) w9) := by
    intro w9 o9
    have ea := addA_err (s := s) (now := now) HE.out
    rw [HN.out] at ea
    refine radds_no (by rw [ea]) (by rw [ea]; exact RPool.moved ⟨mb, gs, hin3⟩ (fun k hk => .inl hk) (fun k hk => o9.block k (by have := hF k hk; omega)) HNEW.out.1 HNEW.out.2 (o9.below (by have := HNEW.out.2; omega) hin3.bel)) ?_
    exact (Turn.of_below bel3 F).andThen (Turn.of_only (F := fun k => k = w.heap.size + 1) o9 rfl) (fun i hi => .inr (by omega))
  obtain ⟨z0, z1, z2, z3, z4, z5, z6, z7⟩ := hZ3.cells
  have f0 := hZ3.free 0
  have f1 := hZ3.free 1
  have f2 := hZ3.free 2
  have f3 := hZ3.free 3
  have f4 := hZ3.free 4
  have f5 := hZ3.free 5
  have f6 := hZ3.free 6
  have f7 := hZ3.free 7
  clear hck hp2 hz2 hin3 x0 x1 x2 x3 x4 x5 x6 x7 HIN
  go_wp2_with fail
  obtain ⟨w9, hw9, hp9, o9⟩ := hZ3.store 0 0 0 0 0 0 false (.slice none 0 0)
  rw [hw9]
  obtain ⟨r0, r1, r2, r3, r4, r5, r6, r7⟩ := hp9.cells
  simp only at r0 r1 r2 r3 r4 r5 r6 r7
  exact bodyPost_ret (v := .tuple #[.agg #[.int .i64 0, .int .i64 0, .int .i64 0, .int .i64 0, .int .i64 0, .int .i64 0, .bool false, .slice none 0 0], .bool false, .int .i64 n]) (by simp [results, Tryd.results8, go_sem, r0, r1, r2, r3, r4, r5, r6, r7]) rfl (HFI.out w9 o9)
set_option maxRecDepth 100000 in
set_option maxHeartbeats 8000000 in
theorem radd_time (w0 : World) (F : Nat → Prop) (pb : Nat) (s : Po) (p : Pk) (bv : Value) (now : Int) (w : World) (hP : RPool w0 w F pb s) (hF : ∀ k, F k → k < w.heap.size) (hb : Bytes w bv p.body) (he : pkErr p = 0) (ht : ¬ tickE s now = 0) :
    Calls Tryd.prog 8 #[ptrV pb, pkV p bv, .int .i64 now] w (RAdds w0 F pb s p now w) := by
  obtain ⟨mb0, gs0, hin0⟩ := hP
  have HNEW : Hid ((∀ k, F k → w0.heap.size ≤ k) ∧ w0.heap.size ≤ w.heap.size) := ⟨hin0.new, hin0.bel.size⟩
  have hbx := radd_boxes hin0 hF p bv hb
  obtain ⟨a, c, hbv⟩ := len_body hb
  subst hbv
  obtain ⟨L, hLe⟩ : ∃ L, p.body.length = L := ⟨_, rfl⟩
  have HLE : Hid (p.body.length = L) := hLe
  rw [hLe] at hbx ⊢
  obtain ⟨B2, hp2, hz2, hin2, hb2, hs2⟩ := hbx
  have HE : Hid (pkErr p = 0) := he
  have HTE : Hid (¬ tickE s now = 0) := ht
  have hnf0 : ¬ F w.heap.size := fun hf => by have := hF _ hf; omega
  have hnf1 : ¬ F (w.heap.size + 1) := fun hf => by have := hF _ hf; omega
  unfold ptrV pkV
  clear hb hLe hin0 ht
  go_enter Tryd.func8, Tryd.ntmps8
  go_upto_region 1 with fail
  obtain ⟨W2, hW2⟩ : ∃ W2, ((w.alloc (.cells #[.int .i64 p.kind, .int .i64 p.ttl, .int .i64 p.ident, .int .i64 p.src, .int .i64 p.dst, .int .i64 p.pos, .bool p.more, .slice a L c] 40)).alloc (.cells #[.int .i64 0, .int .i64 0, .int .i64 0, .int .i64 0, .int .i64 0, .int .i64 0, .bool false, .slice none 0 0] 40)) = W2 := ⟨_, rfl⟩
  rw [hW2] at B2 hp2 hz2 hin2 hb2 hs2 ⊢
  have hck := refPacket_any p (.slice a L c) W2 hb2
  rw [he] at hck
  unfold pkV at hck
  obtain ⟨x0, x1, x2, x3, x4, x5, x6, x7⟩ := hp2.cells
  have HIN : Hid (RpIn w0 W2 F pb s mb0 gs0) := hin2
  clear hW2 hin2 he
  go_upto_region 4 with (go_at_call 17; refine hck.mono ?_; rintro e w3 ⟨rfl, bw3⟩)
  have hp3 := hp2.below hp2.lt bw3
  have hz3 := hz2.below hz2.lt bw3
  have hb3 := hb2.below (Nat.le_refl _) bw3
  have bel3 := B2.trans (bw3.mono B2.size)
  have hs3 : w.heap.size + 2 ≤ w3.heap.size := by have := bw3.size; omega
  have hin3 := HIN.out.below (fun k hk => by have := hF k hk; omega) bw3
  have htk := rtick_any w0 F pb s now w3 ⟨mb0, gs0, hin3⟩ (fun k hk => by have := hF k hk; omega)
  unfold RTicks at htk
  unfold ptrV at htk
  clear hck hp2 hz2 hb2 x0 x1 x2 x3 x4 x5 x6 x7 HIN bw3 hin3 B2 hs2
  generalize hN : ((s.l.length : Int) - ((tickS s now).l.length : Int)) = N at htk
  generalize hn : tickE s now = n at htk
  have HN : Hid (tickE s now = n) := hn
  have hnz : ¬ n = 0 := by rw [← hn]; exact HTE.out
  have hnz2 : (n != 0) = true := by simpa using hnz
  clear hn hN
  go_upto_region 6 with (go_at_call 6; refine htk.mono ?_; rintro e w4 ⟨rfl, hP4, tr4⟩)
  have hZ4 := hz3.turn tr4 hnf1
  have HFI : Hid (∀ w9, Only (w.heap.size + 1) w4 w9 → RAdds w0 F pb s p now w (.returned (.tuple #[.agg #[.int .i64 0, .int .i64 0, .int .i64 0, .int .i64 0, .int .i64 0, .int .i64 0, .bool false, .slice none 0 0], .bool false, .int .i64 n])) w9) := by
    intro w9 o9
    have ea := addA_time (s := s) (now := now) HE.out HTE.out
    rw [HN.out] at ea
    have hT : tickS s now = s := by unfold tickS; rw [if_neg HTE.out]
    rw [hT] at hP4
    have hbl4 : Below w0.heap.size w0 w4 := by obtain ⟨_, _, h4⟩ := hP4; exact h4.bel
    have hsz4 := tr4.size
    refine radds_no (by rw [ea]) (by rw [ea]; exact RPool.moved hP4 (fun k hk => by rcases hk with hk | hk; exact .inl hk; exact .inr ⟨by omega, by have := o9.size; omega⟩) (fun k hk => o9.block k (by rcases hk with hk | hk; have := hF k hk; omega; omega)) HNEW.out.1 HNEW.out.2 (o9.below (by have := HNEW.out.2; omega) hbl4)) ?_
    exact ((Turn.of_below bel3 F).trans tr4).andThen (Turn.of_only (F := fun k => k = w.heap.size + 1) o9 rfl) (fun i hi => .inr (by omega))
  obtain ⟨z0, z1, z2, z3, z4, z5, z6, z7⟩ := hZ4.cells
  have f0 := hZ4.free 0
  have f1 := hZ4.free 1
  have f2 := hZ4.free 2
  have f3 := hZ4.free 3
  have f4 := hZ4.free 4
  have f5 := hZ4.free 5
  have f6 := hZ4.free 6
  have f7 := hZ4.free 7
  clear htk hp3 hz3 hb3 hP4 tr4
  go_wp2_with fail
  obtain ⟨w9, hw9, hp9, o9⟩ := hZ4.store 0 0 0 0 0 0 false (.slice none 0 0)
  rw [hw9]
  obtain ⟨r0, r1, r2, r3, r4, r5, r6, r7⟩ := hp9.cells
  simp only at r0 r1 r2 r3 r4 r5 r6 r7
  exact bodyPost_ret (v := .tuple #[.agg #[.int .i64 0, .int .i64 0, .int .i64 0, .int .i64 0, .int .i64 0, .int .i64 0, .bool false, .slice none 0 0], .bool false, .int .i64 n]) (by simp [results, Tryd.results8, go_sem, r0, r1, r2, r3, r4, r5, r6, r7]) rfl (HFI.out w9 o9)
end Go.Proofs.YtgodjaffmojhlaaDoor
