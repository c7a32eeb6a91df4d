/- The law SegBack of package portlaw1 returns true, for every kind, segment, source, destination and key; the walk of its text. -/
import Derived.Test.YteijbohfakokfacSegKeyOf
import Derived.Test.YteijbohfakokfacSegSame
import Derived.Test.YteijbohfakokfacEqK
namespace Go.Proofs.Yteijbohfakokfac
open Go.RowKit
set_option linter.unusedVariables false

/-- The segment and the key that came in lie there still. -/
structure Bk (w : World) (s : Sg) (bv : Value) (k : Ky) (w' : World) : Prop where
  sg : SgAt w' w.heap.size s bv
  ky : KyAt w' (w.heap.size + 1) k
  below : Below w.heap.size w w'
theorem Bk.step {w : World} {s : Sg} {bv : Value} {k : Ky} {w' w'' : World} (h : Bk w s bv k w') (hb : Below w'.heap.size w' w'') : Bk w s bv k w'' :=
  ⟨h.sg.below h.sg.lt hb, h.ky.below h.ky.lt hb, h.below.trans (hb.mono h.below.size)⟩
theorem Bk.alloc {w : World} {s : Sg} {bv : Value} {k : Ky} {w' : World} (h : Bk w s bv k w') (o : Obj) : Bk w s bv k (w'.alloc o) := h.step ((Below.refl _ _).alloc (Nat.le_refl _) _)
theorem Bk.start (w : World) (s : Sg) (bv : Value) (k : Ky) :
    Bk w s bv k ((w.alloc (.cells #[.int .i64 s.frm, .int .i64 s.too, .int .i64 s.seq, .int .i64 s.ack, .int .i64 s.win, .int .i64 s.flg, bv] 24)).alloc (.cells #[.int .i64 k.kind, .int .i64 k.src, .int .i64 k.frm, .int .i64 k.dst, .int .i64 k.too] 26)) := by
  have h1 := SgAt.new w s bv
  have s1 : (w.alloc (.cells #[.int .i64 s.frm, .int .i64 s.too, .int .i64 s.seq, .int .i64 s.ack, .int .i64 s.win, .int .i64 s.flg, bv] 24)).heap.size = w.heap.size + 1 := by simp
  have b1 : Below w.heap.size w (w.alloc (.cells #[.int .i64 s.frm, .int .i64 s.too, .int .i64 s.seq, .int .i64 s.ack, .int .i64 s.win, .int .i64 s.flg, bv] 24)) := (Below.refl _ _).alloc (Nat.le_refl _) _
  generalize w.alloc (.cells #[.int .i64 s.frm, .int .i64 s.too, .int .i64 s.seq, .int .i64 s.ack, .int .i64 s.win, .int .i64 s.flg, bv] 24) = w1 at h1 s1 b1 ⊢
  have h2 := KyAt.new w1 k
  rw [s1] at h2
  exact ⟨h1.alloc _, h2, b1.alloc b1.size _⟩
/-- And the turned key. -/
def TkS (w : World) (s : Sg) (bv : Value) (k : Ky) (T : Nat) (w' : World) : Prop := Bk w s bv k w' ∧ KyAt w' T { kind := k.kind, src := k.dst, frm := k.too, dst := k.src, too := k.frm }
theorem TkS.step {w : World} {s : Sg} {bv : Value} {k : Ky} {T : Nat} {w' w'' : World} (h : TkS w s bv k T w') (hb : Below w'.heap.size w' w'') : TkS w s bv k T w'' := ⟨h.1.step hb, h.2.below h.2.lt hb⟩
theorem TkS.drew {w : World} {s : Sg} {bv : Value} {k : Ky} {T : Nat} {w' : World} (h : TkS w s bv k T w') : TkS w s bv k T w'.drew := ⟨⟨h.1.sg, h.1.ky, h.1.below.drew⟩, h.2⟩
theorem tk_of {w : World} {s : Sg} {bv : Value} {k : Ky} {T : Nat} {w' : World} (h : TkS w s bv k T w') : (w'.cell? ⟨w.heap.size + 1, 0, none⟩ = some (.int .i64 k.kind) ∧ w'.cell? ⟨w.heap.size + 1, 1, none⟩ = some (.int .i64 k.src) ∧ w'.cell? ⟨w.heap.size + 1, 2, none⟩ = some (.int .i64 k.frm) ∧ w'.cell? ⟨w.heap.size + 1, 3, none⟩ = some (.int .i64 k.dst) ∧ w'.cell? ⟨w.heap.size + 1, 4, none⟩ = some (.int .i64 k.too)) ∧ (w'.cell? ⟨T, 0, none⟩ = some (.int .i64 k.kind) ∧ w'.cell? ⟨T, 1, none⟩ = some (.int .i64 k.dst) ∧ w'.cell? ⟨T, 2, none⟩ = some (.int .i64 k.too) ∧ w'.cell? ⟨T, 3, none⟩ = some (.int .i64 k.src) ∧ w'.cell? ⟨T, 4, none⟩ = some (.int .i64 k.frm)) ∧ TkS w s bv k T w' := ⟨h.1.ky.cells, h.2.cells, h⟩
def S12 : Sg := { frm := 1, too := 2, seq := 0, ack := 0, win := 0, flg := 0, body := [] }
theorem S12_ok : sgErr 2 S12 0 0 = 0 := by decide
/-- The first segment that the law encodes. -/
theorem enc12 (w : World) : Calls Try.prog 4 #[.int .i64 2, .agg #[.int .i64 1, .int .i64 2, .int .i64 0, .int .i64 0, .int .i64 0, .int .i64 0, .slice none 0 0], .int .i64 0, .int .i64 0] w fun e w' =>
    ∃ g cap, e = .returned (.tuple #[.slice (some ⟨g, 0, none⟩) 6 cap, .nilIface]) ∧ w'.cell? ⟨g, 1, none⟩ = some (.int .u8 1) ∧ Below w.heap.size w w' := by
  refine (sgEncode_any 2 S12 0 0 (.slice none 0 0) w (.inl ⟨rfl, _, _, rfl, fun _ => rfl⟩)).mono ?_
  rintro e w' ⟨v, rfl, ho, hw⟩
  have e1 : segW 2 S12 0 0 = segL 2 S12 0 0 := by unfold segW; rw [if_pos S12_ok]
  have e2 : (segL 2 S12 0 0).length = 6 := rfl
  rw [e1] at ho
  obtain ⟨g, cap, rfl, _, _, _, _⟩ := ho.shape (by rw [e2]; omega)
  have hc := ho.cell rfl 1 (by rw [e2]; omega)
  refine ⟨g, cap, by rw [S12_ok, errV_ok, e2], ?_, hw⟩
  rw [hc]; rfl

theorem keys_good {k src dst : Int} {s : Sg} {w w' : World} {e : Ending} (h : Keys (carry k (segL k s src dst) src dst) w e w') (hx : sgErr k s src dst = 0) (hB : ∀ x ∈ s.body, 0 ≤ x ∧ x ≤ 255) :
    ∃ a n c, e = .returned (.tuple #[keyV { kind := k, src := src, frm := if k = 3 then s.too else s.frm, dst := dst, too := s.too }, segV s (.slice a n c), .nilIface]) ∧ Bytes w' (.slice a n c) s.body ∧ Below w.heap.size w w' := by
  obtain ⟨bv, rfl, hb, hw⟩ := h
  obtain ⟨e1, e2⟩ := kyS_ok hx hB
  rw [e1] at hb ⊢
  obtain ⟨a, c, rfl⟩ := len_body hb
  exact ⟨a, _, c, by rw [e2, kyE_ok hx hB, errV_ok], hb, hw⟩
set_option maxRecDepth 100000 in
set_option maxHeartbeats 40000000 in
theorem back_any (kind src dst : Int) (s : Sg) (a : Option Addr) (l c : Nat) (k : Ky) (w : World) (hb : Bytes w (.slice a l c) s.body) :
    Calls Try.prog 3 #[.int .i64 kind, segV s (.slice a l c), .int .i64 src, .int .i64 dst, keyV k] w fun e w' => e = .returned (.bool true) ∧ Below w.heap.size w w' := by
  have h0 := Bk.start w s (.slice a l c) k
  have HB : Hid (Bytes w (.slice a l c) s.body) := hb
  have he := fun W => enc12 W
  unfold segV keyV
  clear hb
  go_enter Try.func3, Try.ntmps3
  go_upto_region 4 with (go_at_call 4; refine (he _).mono ?_; rintro e w1 ⟨g1, q1, rfl, cl1, bw1⟩)
  have h1 := h0.step bw1
  clear h0 bw1 cl1 he
  obtain ⟨k0, k1, k2, k3, k4⟩ := h1.ky.cells
  have ht := turn_any k w1
  unfold keyV turnK at ht
  go_upto_region 5 with (go_at_call 5; refine ht.mono ?_; rintro e w2 ⟨rfl, bw2⟩)
  have h2 := (h1.step bw2).alloc (.cells #[.int .i64 k.kind, .int .i64 k.dst, .int .i64 k.too, .int .i64 k.src, .int .i64 k.frm] 26)
  have t2 := KyAt.new w2 { kind := k.kind, src := k.dst, frm := k.too, dst := k.src, too := k.frm }
  obtain ⟨W2, hW2⟩ : ∃ W2, w2.alloc (.cells #[.int .i64 k.kind, .int .i64 k.dst, .int .i64 k.too, .int .i64 k.src, .int .i64 k.frm] 26) = W2 := ⟨_, rfl⟩
  obtain ⟨T, hT⟩ : ∃ T, T = w2.heap.size := ⟨_, rfl⟩
  simp only at t2
  rw [hW2] at h2 t2 ⊢
  rw [← hT] at t2 ⊢
  have hS : TkS w s (.slice a l c) k T W2 := ⟨h2, t2⟩
  clear hW2 hT h1 bw2 ht k0 k1 k2 k3 k4 h2 t2
  obtain ⟨f, HF⟩ : ∃ f, Hid (f = firstK k) := ⟨_, rfl⟩
  have cT : ∀ W, Calls Try.prog 5 #[.agg #[.int .i64 k.kind, .int .i64 k.dst, .int .i64 k.too, .int .i64 k.src, .int .i64 k.frm]] W fun e w' => e = .returned (.agg #[.int .i64 k.kind, .int .i64 k.src, .int .i64 k.frm, .int .i64 k.dst, .int .i64 k.too]) ∧ Below W.heap.size W w' := fun W => turn_any (turnK k) W
  have cF : ∀ W, Calls Try.prog 6 #[.agg #[.int .i64 k.kind, .int .i64 k.dst, .int .i64 k.too, .int .i64 k.src, .int .i64 k.frm]] W fun e w' => e = .returned (.agg #[.int .i64 f.kind, .int .i64 f.src, .int .i64 f.frm, .int .i64 f.dst, .int .i64 f.too]) ∧ Below W.heap.size W w' := by
    intro W
    have h := first_any (turnK k) W
    rw [first_turn, ← HF.out] at h
    exact h
  have cG : ∀ W, Calls Try.prog 6 #[.agg #[.int .i64 k.kind, .int .i64 k.src, .int .i64 k.frm, .int .i64 k.dst, .int .i64 k.too]] W fun e w' => e = .returned (.agg #[.int .i64 f.kind, .int .i64 f.src, .int .i64 f.frm, .int .i64 f.dst, .int .i64 f.too]) ∧ Below W.heap.size W w' := by
    intro W
    have h := first_any k W
    rw [← HF.out] at h
    exact h
  have n1 := fun W => Try.keyNeq k.kind k.src k.frm k.dst k.too W
  have n2 := fun W => Try.keyNeq f.kind f.src f.frm f.dst f.too W
  have m0 : True := trivial
  go_region_held3 (fun w' => (w'.cell? ⟨w.heap.size + 1, 0, none⟩ = some (.int .i64 k.kind) ∧ w'.cell? ⟨w.heap.size + 1, 1, none⟩ = some (.int .i64 k.src) ∧ w'.cell? ⟨w.heap.size + 1, 2, none⟩ = some (.int .i64 k.frm) ∧ w'.cell? ⟨w.heap.size + 1, 3, none⟩ = some (.int .i64 k.dst) ∧ w'.cell? ⟨w.heap.size + 1, 4, none⟩ = some (.int .i64 k.too)) ∧ (w'.cell? ⟨T, 0, none⟩ = some (.int .i64 k.kind) ∧ w'.cell? ⟨T, 1, none⟩ = some (.int .i64 k.dst) ∧ w'.cell? ⟨T, 2, none⟩ = some (.int .i64 k.too) ∧ w'.cell? ⟨T, 3, none⟩ = some (.int .i64 k.src) ∧ w'.cell? ⟨T, 4, none⟩ = some (.int .i64 k.frm)) ∧ TkS w s (.slice a l c) k T w') (with_reducible first | assumption | exact tk_of hS | exact tk_of (TkS.drew (And.right (And.right (by assumption)))) | exact tk_of (TkS.drew hS) | exact tk_of (TkS.drew (by assumption)) | exact tk_of (by assumption)) (first
    | (go_at_call 5; refine (cT _).mono ?_; rintro e w3 ⟨rfl, b3⟩; have hS3 := TkS.step (And.right (And.right (by assumption)) : TkS w s (.slice a l c) k T _) b3)
    | (go_at_call 6; have m1 : True := m0; clear m0; refine (cF _).mono ?_; rintro e w4 ⟨rfl, b4⟩; have hS4 := TkS.step (And.right (And.right (by assumption)) : TkS w s (.slice a l c) k T _) b4)
    | (go_at_call 6; have m2 : True := m1; clear m1; refine (cG _).mono ?_; rintro e w5 ⟨rfl, b5⟩; have hS5 := TkS.step (And.right (And.right (by assumption)) : TkS w s (.slice a l c) k T _) b5))
  have h5 := hS5.1
  clear hS hS3 hS4 hS5 b3 b4 b5 cT cF cG n1 n2 HF
  obtain ⟨s0, s1, s2, s3, s4, s5, s6⟩ := h5.sg.cells
  have hE := sgEncode_any kind s src dst (.slice a l c) w5 (HB.out.below (Nat.le_refl _) h5.below)
  unfold segV at hE
  by_cases hx : sgErr kind s src dst = 0
  rotate_left
  · as_aux_lemma =>
      rw [errV_no hx] at hE
      generalize sgErr kind s src dst = e0 at hE
      go_wp2_with (go_at_call 4; refine hE.mono ?_; rintro e w6 ⟨v6, rfl, o6, b6⟩)
      go_ret
      exact ⟨rfl, (h5.step b6).below⟩
  have hby := HB.out.byte
  have e1 : segW kind s src dst = segL kind s src dst := by unfold segW; rw [if_pos hx]
  obtain ⟨hk, _, _, _, _, h4⟩ := sgErr_ok hx
  have hlen : (segL kind s src dst).length ≤ 4000 := by rw [segL_length s src dst hk]; omega
  have hE' : Calls Try.prog 4 #[.int .i64 kind, .agg #[.int .i64 s.frm, .int .i64 s.too, .int .i64 s.seq, .int .i64 s.ack, .int .i64 s.win, .int .i64 s.flg, .slice a l c], .int .i64 src, .int .i64 dst] w5 fun e w' => ∃ a n c, e = .returned (.tuple #[.slice a n c, .nilIface]) ∧ Bytes w' (.slice a n c) (segL kind s src dst) ∧ Below w5.heap.size w5 w' := by
    refine hE.mono ?_
    rintro e w' ⟨v, rfl, ho, hw⟩
    rw [e1] at ho
    obtain ⟨a6, n6, c6, rfl⟩ := ho.slice
    exact ⟨a6, n6, c6, by rw [hx, errV_ok], ho.bytes (by omega), hw⟩
  obtain ⟨Z, HZ⟩ : ∃ Z, Hid (Z = segL kind s src dst) := ⟨_, rfl⟩
  rw [← HZ.out] at hE' hlen
  have HX : Hid (sgErr kind s src dst = 0) := hx
  have HBY : Hid (∀ x ∈ s.body, 0 ≤ x ∧ x ≤ 255) := hby
  clear hE hx hby e1 hk h4
  go_upto_region 10 with (go_at_call 4; refine hE'.mono ?_; rintro e w6 ⟨a6, n6, c6, rfl, hb6, b6⟩)
  have h6 := h5.step b6
  clear h5 b6 hE' s0 s1 s2 s3 s4 s5 s6
  have hR : Calls Try.prog 7 #[.int .i64 kind, .slice a6 n6 c6, .int .i64 src, .int .i64 dst] w6 fun e w' => ∃ a n c, e = .returned (.tuple #[.agg #[.int .i64 s.frm, .int .i64 s.too, .int .i64 s.seq, .int .i64 s.ack, .int .i64 s.win, .int .i64 s.flg, .slice a n c], .nilIface]) ∧ Bytes w' (.slice a n c) s.body ∧ Below w6.heap.size w6 w' := by
    refine (sgRead_any kind src dst _ Z w6 hb6).mono fun e w' h => ?_
    obtain ⟨r1, r2⟩ := rdErr_ok HX.out HBY.out
    rw [← HZ.out] at r1 r2
    have := reads_good h r1
    rw [r2] at this
    exact this
  go_upto_region 11 with (go_at_call 7; refine hR.mono ?_; rintro e w7 ⟨a7, n7, c7, rfl, hb7, b7⟩)
  have h7 := (h6.step b7).alloc (.cells #[.int .i64 s.frm, .int .i64 s.too, .int .i64 s.seq, .int .i64 s.ack, .int .i64 s.win, .int .i64 s.flg, .slice a7 n7 c7] 24)
  have x7 := SgAt.new w7 s (.slice a7 n7 c7)
  have bb7 := hb7.below (Nat.le_refl _) ((Below.refl w7.heap.size w7).alloc (Nat.le_refl _) (.cells #[.int .i64 s.frm, .int .i64 s.too, .int .i64 s.seq, .int .i64 s.ack, .int .i64 s.win, .int .i64 s.flg, .slice a7 n7 c7] 24))
  have bz7 := (hb6.below (Nat.le_refl _) b7).below (Nat.le_refl _) ((Below.refl w7.heap.size w7).alloc (Nat.le_refl _) (.cells #[.int .i64 s.frm, .int .i64 s.too, .int .i64 s.seq, .int .i64 s.ack, .int .i64 s.win, .int .i64 s.flg, .slice a7 n7 c7] 24))
  obtain ⟨W7, hW7⟩ : ∃ W7, w7.alloc (.cells #[.int .i64 s.frm, .int .i64 s.too, .int .i64 s.seq, .int .i64 s.ack, .int .i64 s.win, .int .i64 s.flg, .slice a7 n7 c7] 24) = W7 := ⟨_, rfl⟩
  obtain ⟨G, hG⟩ : ∃ G, G = w7.heap.size := ⟨_, rfl⟩
  rw [hW7] at h7 x7 bb7 bz7 ⊢
  rw [← hG] at x7 ⊢
  clear hW7 hG h6 b7 hb7 hb6 hR
  obtain ⟨s0, s1, s2, s3, s4, s5, s6⟩ := h7.sg.cells
  obtain ⟨x0, x1, x2, x3, x4, x5, x6⟩ := x7.cells
  have hM := sameSg s (.slice a7 n7 c7) (.slice a l c) W7 bb7 (HB.out.below (Nat.le_refl _) h7.below)
  unfold segV at hM
  go_upto_region 12 with (go_at_call 8; refine hM.mono ?_; rintro e w8 ⟨rfl, b8⟩)
  have h8 := h7.step b8
  have bz8 := bz7.below (Nat.le_refl _) b8
  clear h7 x7 bb7 bz7 b8 hM s0 s1 s2 s3 s4 s5 s6 x0 x1 x2 x3 x4 x5 x6
  obtain ⟨ff, HFF⟩ : ∃ x : Int, Hid (x = if kind = 3 then s.too else s.frm) := ⟨_, rfl⟩
  have hK : Calls Try.prog 9 #[.agg #[.int .i64 kind, .int .i64 1, .int .i64 0, .int .i64 src, .int .i64 dst, .int .i64 0, .bool false, .slice a6 n6 c6]] w8 fun e w' => ∃ a n c, e = .returned (.tuple #[.agg #[.int .i64 kind, .int .i64 src, .int .i64 ff, .int .i64 dst, .int .i64 s.too], .agg #[.int .i64 s.frm, .int .i64 s.too, .int .i64 s.seq, .int .i64 s.ack, .int .i64 s.win, .int .i64 s.flg, .slice a n c], .nilIface]) ∧ Bytes w' (.slice a n c) s.body ∧ Below w8.heap.size w8 w' := by
    have h := keyOf_any (carry kind Z src dst) (.slice a6 n6 c6) w8 bz8
    refine h.mono fun e w' h => ?_
    rw [HZ.out] at h
    have := keys_good h HX.out HBY.out
    rw [← HFF.out] at this
    exact this
  go_upto_region 13 with (go_at_call 9; refine hK.mono ?_; rintro e w9 ⟨a9, n9, c9, rfl, hb9, b9⟩)
  have h9 := (h8.step b9).alloc (.cells #[.int .i64 kind, .int .i64 src, .int .i64 ff, .int .i64 dst, .int .i64 s.too] 26)
  have y9 := KyAt.new w9 { kind := kind, src := src, frm := ff, dst := dst, too := s.too }
  have bb9 := hb9.below (Nat.le_refl _) ((Below.refl w9.heap.size w9).alloc (Nat.le_refl _) (.cells #[.int .i64 kind, .int .i64 src, .int .i64 ff, .int .i64 dst, .int .i64 s.too] 26))
  simp only at y9
  obtain ⟨W9, hW9⟩ : ∃ W9, w9.alloc (.cells #[.int .i64 kind, .int .i64 src, .int .i64 ff, .int .i64 dst, .int .i64 s.too] 26) = W9 := ⟨_, rfl⟩
  have hsz : W9.heap.size = w9.heap.size + 1 := by rw [← hW9]; simp
  rw [hW9] at h9 y9 bb9 ⊢
  have hA := h9.alloc (.cells #[.int .i64 s.frm, .int .i64 s.too, .int .i64 s.seq, .int .i64 s.ack, .int .i64 s.win, .int .i64 s.flg, .slice a9 n9 c9] 24)
  have yA := y9.alloc (.cells #[.int .i64 s.frm, .int .i64 s.too, .int .i64 s.seq, .int .i64 s.ack, .int .i64 s.win, .int .i64 s.flg, .slice a9 n9 c9] 24)
  have xA := SgAt.new W9 s (.slice a9 n9 c9)
  have bbA := bb9.below (Nat.le_refl _) ((Below.refl W9.heap.size W9).alloc (Nat.le_refl _) (.cells #[.int .i64 s.frm, .int .i64 s.too, .int .i64 s.seq, .int .i64 s.ack, .int .i64 s.win, .int .i64 s.flg, .slice a9 n9 c9] 24))
  obtain ⟨WA, hWA⟩ : ∃ WA, W9.alloc (.cells #[.int .i64 s.frm, .int .i64 s.too, .int .i64 s.seq, .int .i64 s.ack, .int .i64 s.win, .int .i64 s.flg, .slice a9 n9 c9] 24) = WA := ⟨_, rfl⟩
  rw [hWA] at hA yA xA bbA ⊢
  rw [hsz] at xA
  obtain ⟨K, hK'⟩ : ∃ K, K = w9.heap.size := ⟨_, rfl⟩
  rw [← hK'] at xA yA ⊢
  clear hW9 hWA hsz hK' h8 h9 y9 bb9 hb9 b9 hK bz8
  obtain ⟨s0, s1, s2, s3, s4, s5, s6⟩ := hA.sg.cells
  obtain ⟨x0, x1, x2, x3, x4, x5, x6⟩ := xA.cells
  have hM := sameSg s (.slice a9 n9 c9) (.slice a l c) WA bbA (HB.out.below (Nat.le_refl _) hA.below)
  unfold segV at hM
  go_upto_region 14 with (go_at_call 8; refine hM.mono ?_; rintro e wB ⟨rfl, bB⟩)
  have hB' := hA.step bB
  have yB := yA.below yA.lt bB
  clear hA yA xA bbA bB hM s0 s1 s2 s3 s4 s5 s6 x0 x1 x2 x3 x4 x5 x6
  obtain ⟨s0, s1, s2, s3, s4, s5, s6⟩ := hB'.sg.cells
  obtain ⟨y0, y1, y2, y3, y4⟩ := yB.cells
  simp only at y0 y1 y2 y3 y4
  have bel := hB'.below
  clear hB' yB
  by_cases h3 : kind = 3
  · as_aux_lemma =>
      have e3 : (kind == 3) = true := by simpa using h3
      have hff : ff = s.too := by rw [HFF.out, if_pos h3]
      subst hff
      clear h3
      go_wp2_with fail
      go_ret
      exact ⟨rfl, bel⟩
  · as_aux_lemma =>
      have e3 : (kind == 3) = false := by simpa using h3
      have e4 : (kind != 3) = true := by simpa using h3
      have hff : ff = s.frm := by rw [HFF.out, if_neg h3]
      subst hff
      clear h3
      go_wp2_with fail
      go_ret
      exact ⟨rfl, bel⟩
theorem back_walk (kind : Int) (s : Sg) (bv : Value) (src dst : Int) (k : Ky) (w : World) {p q r : Prop} (_ : p) (hb : Bytes w bv s.body) (_ : q) (_ : r) :
    Calls Try.prog 3 #[.int .i64 kind, segV s bv, .int .i64 src, .int .i64 dst, keyV k] w fun e w' => e = .returned (.bool true) ∧ Below w.heap.size w w' := by
  obtain ⟨a, c, rfl⟩ := len_body hb
  exact back_any kind src dst s a _ c k w hb
end Go.Proofs.Yteijbohfakokfac
