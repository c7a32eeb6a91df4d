/- The law FragBack of package portlaw2 returns true, for every packet, size, order and number; the walk of its text. -/
import Derived.Test.YtkpbcdnkbokekaaDoorFragBk0
import Derived.Test.YtkpbcdnkbokekaaDoorTold
import Derived.Test.YtkpbcdnkbokekaaDoorOpenI
import Derived.Deep.RegionHeld3
namespace Go.Proofs.YtkpbcdnkbokekaaDoor
open Go.RowKit Go.Maps
set_option linter.unusedVariables false

def wholeP (p : Pk) : Pk := { p with pos := 0, more := false }
theorem first_cut (w wm : World) (bv : Value) (hb : Bytes wm bv z20.body) :
    Calls Tryd.prog 13 #[.agg #[.int .i64 0, .int .i64 0, .int .i64 0, .int .i64 0, .int .i64 0, .int .i64 0, .bool false, bv], .int .i64 8] wm fun e w' =>
      ∃ g cap, e = .returned (.tuple #[.slice (some ⟨g, 0, none⟩) 3 cap, .nilIface]) ∧ (w'.cell? ⟨g, 21, none⟩ = some (.int .i64 2) ∧ w'.cell? ⟨g, 22, none⟩ = some (.bool false) ∧ w'.cell? ⟨g, 6, none⟩ = some (.bool true)) ∧ 3 ≤ cap ∧ cap ≤ maxLen ∧ Below wm.heap.size wm w' := by
  have h := split_any z20 bv 8 wm hb
  obtain ⟨h0, h1⟩ := z20_cut
  have hsz : ∀ x ∈ splitL z20 8, x.body.length < 2 ^ 62 := by
    intro x hm
    obtain ⟨i, hi, he⟩ := List.getElem_of_mem hm
    have := (pkErr_ok (pieceOf h0 i hi).good).2
    rw [he] at this; omega
  unfold Splits at h
  rw [h0] at h
  generalize splitL z20 8 = sl at h h1 hsz
  clear h0
  have hv : pkV z20 bv = .agg #[.int .i64 0, .int .i64 0, .int .i64 0, .int .i64 0, .int .i64 0, .int .i64 0, .bool false, bv] := rfl
  rw [hv] at h
  refine h.mono ?_
  rintro e w' ⟨v, qs, rfl, hq, hk, hbd, bel⟩
  subst hq
  obtain ⟨q0, q1, q2, rfl⟩ : ∃ q0 q1 q2, qs = [q0, q1, q2] := by
    have hl3 : qs.length = 3 := by have := congrArg List.length h1; simpa using this
    rcases qs with _ | ⟨q0, _ | ⟨q1, _ | ⟨q2, _ | ⟨q3, r⟩⟩⟩⟩
    · simp at hl3
    · simp at hl3
    · simp at hl3
    · exact ⟨q0, q1, q2, rfl⟩
    · simp at hl3
  simp only [List.map_cons, List.map_nil, List.cons.injEq, Prod.mk.injEq, and_true] at h1
  obtain ⟨⟨a0, a1⟩, ⟨b0, b1⟩, c0, c1⟩ := h1
  obtain ⟨g, cap, rfl, _, hg, hl, hx⟩ := hk.shape (by simp)
  have y0 := hk.cells 0 (by simp) ((hbd q0 (by simp)).1.bytes (hsz q0.1 (by simp)))
  have y2 := hk.cells 2 (by simp) ((hbd q2 (by simp)).1.bytes (hsz q2.1 (by simp)))
  refine ⟨g, cap, rfl, ⟨?_, ?_, ?_⟩, hl, hx, bel⟩
  · have := y2.1.2.2.2.2.2.1; simpa [c0] using this
  · have := y2.1.2.2.2.2.2.2.1; simpa [c1] using this
  · have := y0.1.2.2.2.2.2.2.1; simpa [a1] using this
theorem piece_one_is {p : Pk} {size : Int} (h : splitE (wholeP p) size = 0) (h1 : (splitL (wholeP p) size).length = 1) : piece (wholeP p) size 0 = wholeP p := by
  have hL : splitL (wholeP p) size = cutL (wholeP p) size.toNat := by unfold splitL; rw [if_pos h]
  have h0 : fK (wholeP p).body.length size.toNat = 0 := by rw [hL, cutL_length] at h1; omega
  unfold piece
  rw [hL]
  unfold cutL
  rw [h0]
  simp [lsK, wholeP]
theorem add_one {p : Pk} {size : Int} (h : splitE (wholeP p) size = 0) : addA { life := 60, now := 0, l := [] } (wholeP p) 5 = ({ life := 60, now := 5, l := [] }, wholeP p, true, 0) := by
  have he := (of_splitE h).2.2.1
  unfold addA
  rw [if_neg (by rw [he]; simp), if_neg (by decide), if_pos ⟨rfl, rfl⟩]
  rfl
theorem poolLen_any {w : World} {F : Nat → Prop} {pb : Nat} {s : Po} (h : PoolAt w F pb s) :
    Calls Tryd.prog 12 #[.pointer (some ⟨pb, 0, none⟩)] w fun e w' => e = .returned (.int .i64 (s.l.length : Int)) ∧ w' = w := by
  obtain ⟨mb, gs, h⟩ := h
  have hl := len_any pb mb (grpsL gs) w (pool_cells h).2.2.1 h.map
  have e : (grpsL gs).length = s.l.length := by rw [← h.list]; simp [grpsL]
  rw [e] at hl
  exact hl
theorem PoolAt.keep {w w' : World} {F : Nat → Prop} {pb : Nat} {s : Po} (h : PoolAt w F pb s) (hk : ∀ k, F k → w'.heap[k]? = w.heap[k]?) : PoolAt w' F pb s := by
  obtain ⟨mb, gs, h⟩ := h; exact ⟨mb, gs, h.keep hk⟩
theorem PoolAt.mono {w : World} {F G : Nat → Prop} {pb : Nat} {s : Po} (h : PoolAt w F pb s) (hFG : ∀ k, F k → G k) : PoolAt w G pb s := by
  obtain ⟨mb, gs, h⟩ := h; exact ⟨mb, gs, h.mono hFG⟩
/-- A pool over blocks of F0 and such as have come since w0; of what was there nothing but blocks of G0 has turned. -/
structure PS (F0 G0 : Nat → Prop) (w0 W : World) (pb : Nat) (s : Po) : Prop where
  pool : PoolAt W (Plus F0 w0 W) pb s
  turn : Turn G0 w0 W
theorem PS.lt {F0 G0 : Nat → Prop} {w0 W : World} {pb : Nat} {s : Po} (h : PS F0 G0 w0 W pb s) (hF : ∀ k, F0 k → k < w0.heap.size) : ∀ k, Plus F0 w0 W k → k < W.heap.size := fun k hk => by
  have := h.turn.size
  rcases hk with h1 | h1
  · have := hF k h1; omega
  · exact h1.2
theorem PS.below {F0 G0 : Nat → Prop} {w0 W W' : World} {pb : Nat} {s : Po} (h : PS F0 G0 w0 W pb s) (hF : ∀ k, F0 k → k < w0.heap.size) (hb : Below W.heap.size W W') : PS F0 G0 w0 W' pb s := by
  refine ⟨(h.pool.keep (fun k hk => hb.block k (h.lt hF k hk))).mono (fun k hk => ?_), h.turn.trans (Turn.of_below hb G0)⟩
  have := hb.size
  rcases hk with h1 | h1
  · exact .inl h1
  · exact .inr ⟨h1.1, by omega⟩
theorem PS.add {F0 G0 : Nat → Prop} {w0 W W' : World} {pb : Nat} {s : Po} (h : PS F0 G0 w0 W pb s) (hFG : ∀ k, F0 k → G0 k) {s' : Po} (hp : PoolAt W' (Plus (Plus F0 w0 W) W W') pb s') (ht : Turn (Plus F0 w0 W) W W') : PS F0 G0 w0 W' pb s' := by
  refine ⟨hp.mono (fun k hk => ?_), h.turn.andThen ht (fun i hi => ?_)⟩
  · have := ht.size
    have := h.turn.size
    rcases hk with (h1 | h1) | h1
    · exact .inl h1
    · exact .inr ⟨h1.1, by omega⟩
    · exact .inr ⟨by omega, h1.2⟩
  · rcases hi with h1 | h1
    · exact .inl (hFG i h1)
    · exact .inr h1.1
/-- A piece, where it lies. -/
def PcAt (w : World) (top g : Nat) (x : Pk) (i : Nat) : Prop := ∃ bvi : Value, PkCells w g (i * 8) x bvi ∧ ∀ b off len cp, bvi = .slice (some ⟨b, off, none⟩) len cp → 0 < len → b < top
theorem pcAt {w4 : World} {base g n cap : Nat} {qs : List (Pk × Value)} {p : Pk} {size : Int} (hE : splitE p size = 0) (hk : OwnK w4 base (.slice (some ⟨g, 0, none⟩) n cap) qs) (hd : Bods w4 base (.slice (some ⟨g, 0, none⟩) n cap) qs) (hq : qs.map Prod.fst = splitL p size) {i : Nat} (hi : i < (splitL p size).length) : PcAt w4 w4.heap.size g (piece p size i) i := by
  have hi' : i < qs.length := by rw [← hq, List.length_map] at hi; exact hi
  have e : qs[i].1 = piece p size i := by
    unfold piece
    have : (splitL p size)[i]? = some qs[i].1 := by rw [← hq]; simp [hi']
    rw [List.getD_eq_getElem?_getD, this]; rfl
  have hb := (hd qs[i] (List.getElem_mem hi')).1
  have hl : qs[i].1.body.length ≤ 4000 := by rw [e]; exact (pkErr_ok (piece_of hE hi).good).2
  have hc := hk.cells i hi' (hb.bytes (by omega))
  rw [e] at hc
  refine ⟨qs[i].2, hc, fun b off len cp hv h0 => ?_⟩
  exact (hb.1.lt b (by rw [hv]; rfl)).2
theorem PcAt.keep {w w' : World} {top g i : Nat} {x : Pk} (h : PcAt w top g x i) (hg : w'.heap[g]? = w.heap[g]?) (hb : ∀ k, k < top → w'.heap[k]? = w.heap[k]?) : PcAt w' top g x i := by
  obtain ⟨bvi, ⟨⟨c0, c1, c2, c3, c4, c5, c6, c7⟩, hby⟩, hlt⟩ := h
  have hcell : ∀ o, w'.cell? ⟨g, o, none⟩ = w.cell? ⟨g, o, none⟩ := fun o => World.cell?_of_block (w := w) (a := ⟨g, o, none⟩) hg
  refine ⟨bvi, ⟨⟨(hcell _).trans c0, (hcell _).trans c1, (hcell _).trans c2, (hcell _).trans c3, (hcell _).trans c4, (hcell _).trans c5, (hcell _).trans c6, (hcell _).trans c7⟩, ?_⟩, hlt⟩
  rcases hby with h0 | ⟨b, off, len, cap, rfl, h1, h2, h3, h4, h5⟩
  · exact .inl h0
  · refine .inr ⟨b, off, len, cap, rfl, h1, h2, h3, h4, ⟨fun j hj => ?_, h5.2⟩⟩
    rw [World.cell?_of_block (w := w) (a := ⟨b, off + j, none⟩) (hb b (hlt b off len cap rfl (by omega)))]
    exact h5.1 j hj
/-- What holds at each round: which pieces have come. -/
structure BackS (w7 : World) (b1 pb1 S n Z : Nat) (p : Pk) (size : Int) (k : Nat) (js : List Nat) (wr : World) : Prop where
  ps : PS (TwoF b1) (fun k => TwoF b1 k ∨ k = S) w7 wr pb1 (stJ p size js)
  marks : Marks wr S n js
  nodup : js.Nodup
  lt : ∀ j ∈ js, j < n
  come : ∀ i, i + Z < k → i ∈ js
theorem BackS.next {w7 : World} {b1 pb1 S n Z : Nat} {p : Pk} {size : Int} {k : Nat} {js : List Nat} {wr : World} (h : BackS w7 b1 pb1 S n Z p size k js wr) (hi : ∀ i, i + Z = k → i ∈ js) : BackS w7 b1 pb1 S n Z p size (k + 1) js wr :=
  ⟨h.ps, h.marks, h.nodup, h.lt, fun i hz => by
    by_cases he : i + Z = k
    · exact hi i he
    · exact h.come i (by omega)⟩
theorem BackS.few {w7 : World} {b1 pb1 S n Z : Nat} {p : Pk} {size : Int} {k : Nat} {js : List Nat} {wr : World} (h : BackS w7 b1 pb1 S n Z p size k js wr) {i : Nat} (hi : i < n) (hn : i ∉ js) : js.length < n := by
  have h1 := all_of_len h.lt h.nodup
  rcases Nat.lt_or_ge js.length n with h2 | h2
  · exact h2
  · exact absurd (h1.2.1 (by omega) i hi) hn
/-- Marked, and not yet added. -/
theorem PS.mark {b1 S pb : Nat} {w7 wr wB : World} {s : Po} (h : PS (TwoF b1) (fun k => TwoF b1 k ∨ k = S) w7 wr pb s) (ho : Only S wr wB) (hS : S < w7.heap.size) (hb : b1 + 1 < S) : PS (TwoF b1) (fun k => TwoF b1 k ∨ k = S) w7 wB pb s := by
  refine ⟨(h.pool.keep (fun k hk => ho.block k (fun e => ?_))).mono (fun k hk => ?_), h.turn.trans (Turn.of_only ho (.inr rfl))⟩
  · subst e; rcases hk with (h1 | h1) | h1 <;> omega
  · rcases hk with h1 | h1
    · exact .inl h1
    · exact .inr ⟨h1.1, by rw [ho.size]; exact h1.2⟩
theorem likeOr (D : Bool) (p X : Pk) (bv bv' : Value) (w : World) (h : Bytes w bv X.body) (h' : Bytes w bv' p.body) (hX : D = true → X = p) :
    Calls Tryd.prog 11 #[pkV X bv, pkV p bv'] w fun e w' => ∃ bl, e = .returned (.bool bl) ∧ (D && !bl) = false ∧ Below w.heap.size w w' := by
  rcases D with _ | _
  · refine (anyPk X p bv bv' w h h').mono ?_
    rintro e w' ⟨⟨b, rfl⟩, hb⟩
    exact ⟨b, rfl, rfl, hb⟩
  · rw [hX rfl] at h ⊢
    refine (samePk p bv bv' w h h').mono ?_
    rintro e w' ⟨rfl, hb⟩
    exact ⟨true, rfl, rfl, hb⟩
theorem bad_one {p : Pk} {size : Int} (h : splitE (wholeP p) size = 0) (h2 : 2 ≤ (splitL (wholeP p) size).length) {i : Nat} (hi : i < (splitL (wholeP p) size).length) :
    addA { life := 60, now := 0, l := [] } (piece (wholeP p) size i) 1 = (poB 1 1 false (wholeP p) [piece (wholeP p) size i] false, zeroK, false, 0) := by
  have e := back_add (p := wholeP p) (size := size) h rfl rfl h2 (js := []) (fun j hj => (by cases hj)) .nil hi (by simp) (t := 0) (t0 := 0) (now := 1) (by omega) (by omega) (by omega) (by omega)
  rw [if_neg (by simp; omega)] at e
  exact e
theorem tick_60 (p : Pk) : tickE (poB 3 1 true p [] false) 60 = 0 ∧ tickS (poB 3 1 true p [] false) 60 = poB 60 1 true p [] false := tick_in (by omega) (by omega) (by omega) (by omega)
theorem tick_61 (p : Pk) : tickE (poB 60 1 true p [] false) 61 = 0 ∧ (tickS (poB 60 1 true p [] false) 61).l = [] := by
  have e : tickE (poB 60 1 true p [] false) 61 = 0 := by unfold tickE poB; rw [if_neg (by omega), if_neg (by simp only; omega)]
  refine ⟨e, ?_⟩
  unfold tickS
  rw [if_pos e]
  simp [poB, oldB]
/-- A piece that comes to the second pool, and makes nothing whole. -/
theorem second_add {b1 b2 pb2 g i : Nat} {wr W : World} {x : Pk} {s s' : Po} {now er : Int} {bvi : Value} (hps : PS (TwoF b2) (TwoF b2) wr W pb2 s) (hF : b2 + 1 < wr.heap.size) (hb : b1 ≤ b2) (hpc : PkCells W g (i * 8) x bvi) (hlt : ∀ b off len cp, bvi = .slice (some ⟨b, off, none⟩) len cp → 0 < len → b < b1) (hadd : addA s x now = (s', zeroK, false, er)) :
    Calls Tryd.prog 10 #[.pointer (some ⟨pb2, 0, none⟩), .agg #[.int .i64 x.kind, .int .i64 x.ttl, .int .i64 x.ident, .int .i64 x.src, .int .i64 x.dst, .int .i64 x.pos, .bool x.more, bvi], .int .i64 now] W fun e w' =>
      ∃ (a8 : Option Addr) (c8 : Nat), e = .returned (.tuple #[.agg #[.int .i64 0, .int .i64 0, .int .i64 0, .int .i64 0, .int .i64 0, .int .i64 0, .bool false, .slice a8 0 c8], .bool false, errV er]) ∧ PS (TwoF b2) (TwoF b2) wr w' pb2 s' := by
  have hltF : ∀ k, TwoF b2 k → k < wr.heap.size := fun k hk => by rcases hk with h | h <;> omega
  have hsz := hps.turn.size
  have had := poolAdd_any (Plus (TwoF b2) wr W) pb2 s x bvi now W hps.pool (hps.lt hltF) hpc.2 (fun b off len cp hv h0 hf => by have := hlt b off len cp hv h0; rcases hf with (h | h) | h <;> omega)
  unfold Adds at had
  rw [hadd] at had
  refine had.mono ?_
  rintro e w' ⟨bv8, rfl, hby, hpo, ht⟩
  obtain ⟨a8, c8, e8⟩ := len_body hby
  subst e8
  exact ⟨a8, c8, rfl, hps.add (fun k hk => hk) hpo ht⟩
theorem num_at {w w' : World} {ao : Option Addr} {Z cz : Nat} {zs : List Int} (h : Nums w (.slice ao Z cz) zs) (hb : Below w.heap.size w w') {k : Nat} (hk : k < Z) (hZ : zs.length = Z) : ∃ b off, ao = some ⟨b, off, none⟩ ∧ Z ≤ cz ∧ cz ≤ maxLen ∧ w'.cell? ⟨b, off + k, none⟩ = some (.int .i64 (zs.getD k 0)) := by
  rcases h with ⟨h0, _⟩ | ⟨b, off, len, cap, he, h1, h2, h3, h4, h5⟩
  · rw [h0] at hZ; simp at hZ; omega
  · simp only [Value.slice.injEq] at he
    obtain ⟨rfl, rfl, rfl⟩ := he
    refine ⟨b, off, rfl, h1, h2, ?_⟩
    rw [hb.cell (p := ⟨b, off + k, none⟩) h4]; exact h5 k (by omega)
set_option maxRecDepth 100000 in
set_option maxHeartbeats 40000000 in
theorem back_walk (p : Pk) (bv : Value) (size : Int) (v : Value) (zs : List Int) (twice : Int) (w : World) {q1 q2 : Prop} (hb : Bytes w bv p.body) (h1 : q1) (hz : Nums w v zs) (hzl : zs.length ≤ 140737488355328) (h2 : q2) (hL : ErrLaid w) :
    Calls Tryd.prog 4 #[pkV p bv, .int .i64 size, v, .int .i64 twice] w fun e w' => e = .returned (.bool true) ∧ Below w.heap.size w w' := by
  have hbox := pkBoxed w p bv hb
  obtain ⟨a, c, hbv⟩ := len_body hb
  subst hbv
  obtain ⟨L, hLe⟩ : ∃ L, p.body.length = L := ⟨_, rfl⟩
  rw [hLe] at hbox ⊢
  obtain ⟨wm, hmk, hbm, belm⟩ := make20 (w.alloc (.cells #[.int .i64 p.kind, .int .i64 p.ttl, .int .i64 p.ident, .int .i64 p.src, .int .i64 p.dst, .int .i64 p.pos, .bool p.more, .slice a L c] 40))
  obtain ⟨g0, hg0⟩ : ∃ g0, (w.alloc (.cells #[.int .i64 p.kind, .int .i64 p.ttl, .int .i64 p.ident, .int .i64 p.src, .int .i64 p.dst, .int .i64 p.pos, .bool p.more, .slice a L c] 40)).heap.size = g0 := ⟨_, rfl⟩
  have hfc := first_cut w wm _ hbm
  rw [hg0] at hmk hfc
  have HBX : Hid (∀ w1, Below (w.alloc (.cells #[.int .i64 p.kind, .int .i64 p.ttl, .int .i64 p.ident, .int .i64 p.src, .int .i64 p.dst, .int .i64 p.pos, .bool p.more, .slice a L c] 40)).heap.size (w.alloc (.cells #[.int .i64 p.kind, .int .i64 p.ttl, .int .i64 p.ident, .int .i64 p.src, .int .i64 p.dst, .int .i64 p.pos, .bool p.more, .slice a L c] 40)) w1 →
    PkAt w1 w.heap.size p (.slice a L c) ∧ Bytes w1 (.slice a L c) p.body ∧ Below w.heap.size w w1 ∧ w.heap.size + 1 ≤ w1.heap.size) := hbox
  have HBM : Hid (Below (w.alloc (.cells #[.int .i64 p.kind, .int .i64 p.ttl, .int .i64 p.ident, .int .i64 p.src, .int .i64 p.dst, .int .i64 p.pos, .bool p.more, .slice a L c] 40)).heap.size (w.alloc (.cells #[.int .i64 p.kind, .int .i64 p.ttl, .int .i64 p.ident, .int .i64 p.src, .int .i64 p.dst, .int .i64 p.pos, .bool p.more, .slice a L c] 40)) wm) := belm
  have HBY : Hid (Bytes w (.slice a L c) p.body) := by rw [← hLe]; exact hb
  have HL : Hid (ErrLaid w) := hL
  have HLE : Hid (p.body.length = L) := hLe
  have HZ : Hid (Nums w v zs) := hz
  have HG0 : Hid ((w.alloc (.cells #[.int .i64 p.kind, .int .i64 p.ttl, .int .i64 p.ident, .int .i64 p.src, .int .i64 p.dst, .int .i64 p.pos, .bool p.more, .slice a L c] 40)).heap.size = g0) := hg0
  clear hbox hbm belm hL hLe hz hg0 hb h1 h2
  unfold pkV
  go_enter Tryd.func4, Tryd.ntmps4
  go_upto_region 2 with (go_at_call 13; refine hfc.mono ?_; rintro e w1 ⟨g1, cap1, rfl, ⟨x0, x1, x2⟩, hc1, hc2, bw1⟩)
  have hB1 : Hid (Below (w.alloc (.cells #[.int .i64 p.kind, .int .i64 p.ttl, .int .i64 p.ident, .int .i64 p.src, .int .i64 p.dst, .int .i64 p.pos, .bool p.more, .slice a L c] 40)).heap.size (w.alloc (.cells #[.int .i64 p.kind, .int .i64 p.ttl, .int .i64 p.ident, .int .i64 p.src, .int .i64 p.dst, .int .i64 p.pos, .bool p.more, .slice a L c] 40)) w1) := HBM.out.trans (bw1.mono HBM.out.size)
  obtain ⟨hp1, hby1, bel1, hs1⟩ := HBX.out w1 hB1.out
  have f5 := hp1.free 5
  have y5 := hp1.cells.2.2.2.2.2.1
  have hc2' : cap1 ≤ 9223372036854775807 := by unfold maxLen at hc2; omega
  clear hmk hfc HBX HBM hB1 HG0 bw1 hc2
  go_upto_region 5 with fail
  have hp2 := hp1.put5 0
  have on2 : Only w.heap.size w1 (w1.setCell ⟨w.heap.size, 5, none⟩ (.int .i64 0)) := (Only.refl _ _).setCell 5 _
  obtain ⟨w2, hw2⟩ : ∃ w2, w1.setCell ⟨w.heap.size, 5, none⟩ (.int .i64 0) = w2 := ⟨_, rfl⟩
  rw [hw2] at hp2 on2 ⊢
  have f6 := hp2.free 6
  have y6 := hp2.cells.2.2.2.2.2.2.1
  clear hw2 x0 x1 x2 hc1 hc2' y5 f5
  go_upto_region 6 with fail
  have hp3 := hp2.put6 false
  have on3 : Only w.heap.size w1 (w2.setCell ⟨w.heap.size, 6, none⟩ (.bool false)) := on2.setCell 6 _
  obtain ⟨w3, hw3⟩ : ∃ w3, w2.setCell ⟨w.heap.size, 6, none⟩ (.bool false) = w3 := ⟨_, rfl⟩
  rw [hw3] at hp3 on3 ⊢
  have bel3 : Below w.heap.size w w3 := on3.below (Nat.le_refl _) bel1
  have hby3 : Bytes w3 (.slice a L c) (wholeP p).body := HBY.out.below (Nat.le_refl _) bel3
  have hP3 : PkAt w3 w.heap.size (wholeP p) (.slice a L c) := hp3
  have hsp : Calls Tryd.prog 13 #[.agg #[.int .i64 p.kind, .int .i64 p.ttl, .int .i64 p.ident, .int .i64 p.src, .int .i64 p.dst, .int .i64 0, .bool false, .slice a L c], .int .i64 size] w3 (Splits (wholeP p) size w3) := split_any (wholeP p) (.slice a L c) size w3 hby3
  have hcz : w3.cell? ⟨w.heap.size, 0, none⟩ = some (.int .i64 p.kind) ∧ w3.cell? ⟨w.heap.size, 1, none⟩ = some (.int .i64 p.ttl) ∧ w3.cell? ⟨w.heap.size, 2, none⟩ = some (.int .i64 p.ident) ∧ w3.cell? ⟨w.heap.size, 3, none⟩ = some (.int .i64 p.src) ∧ w3.cell? ⟨w.heap.size, 4, none⟩ = some (.int .i64 p.dst) ∧ w3.cell? ⟨w.heap.size, 5, none⟩ = some (.int .i64 0) ∧ w3.cell? ⟨w.heap.size, 6, none⟩ = some (.bool false) ∧ w3.cell? ⟨w.heap.size, 7, none⟩ = some (.slice a L c) := hP3.cells
  obtain ⟨y0, y1, y2, y3, y4, y5, y6, y7⟩ := hcz
  have HP3 : Hid (PkAt w3 w.heap.size (wholeP p) (.slice a L c)) := hP3
  have HB3 : Hid (Below w.heap.size w w3) := bel3
  have hs3 : w.heap.size < w3.heap.size := hP3.lt
  have HS3 : Hid (w.heap.size < w3.heap.size) := hs3
  clear hw3 hp1 hby1 bel1 hs1 on2 hp2 f6 hp3 on3 hby3 hP3 bel3 hs3
  by_cases hE : ¬ splitE (wholeP p) size = 0
  · as_aux_lemma =>
      have hsp2 := hsp
      unfold Splits errV at hsp2
      rw [if_neg hE] at hsp2
      generalize splitE (wholeP p) size = n at hsp2 hE
      clear hsp hE
      go_upto_region 7 with (go_at_call 13; refine hsp2.mono ?_; rintro e w4 ⟨v4, qs4, rfl, _, _, _, bw4⟩)
      have HZ4 : Hid (Below w.heap.size w w4) := HB3.out.trans (bw4.mono HB3.out.size)
      clear hsp2 y0 y1 y2 y3 y4 y5 y6 y7
      go_wp2_with fail
      go_ret
      exact ⟨rfl, HZ4.out⟩
  have hE := Classical.not_not.1 hE
  have hsp2 := hsp
  unfold Splits errV at hsp2
  rw [if_pos hE] at hsp2
  have HE : Hid (splitE (wholeP p) size = 0) := hE
  clear hsp hE
  go_upto_region 7 with (go_at_call 13; refine hsp2.mono ?_; rintro e w4 ⟨v4, qs, rfl, hq4, hk4, hbd4, bw4⟩)
  obtain ⟨n, hn⟩ : ∃ n, (splitL (wholeP p) size).length = n := ⟨_, rfl⟩
  have hqn : qs.length = n := by rw [← hn, ← hq4, List.length_map]
  have hn0 : 0 < n := by rw [← hn]; exact split_pos HE.out
  obtain ⟨g, cap, hv4, hg1, hg2, hl4, hx4⟩ := hk4.shape (by omega)
  rw [hqn] at hv4 hl4
  subst hv4
  have hcap : cap ≤ 9223372036854775807 := by unfold maxLen at hx4; omega
  have HB4 : Hid (Below w.heap.size w w4) := HB3.out.trans (bw4.mono HB3.out.size)
  have HP4 : Hid (PkAt w4 w.heap.size (wholeP p) (.slice a L c)) := HP3.out.below HS3.out bw4
  have HQ : Hid (qs.map Prod.fst = splitL (wholeP p) size) := hq4
  have HK : Hid (OwnK w4 w3.heap.size (.slice (some ⟨g, 0, none⟩) n cap) qs) := hk4
  have HD : Hid (Bods w4 w3.heap.size (.slice (some ⟨g, 0, none⟩) n cap) qs) := hbd4
  have HN : Hid ((splitL (wholeP p) size).length = n) := hn
  have HQN : Hid (qs.length = n) := hqn
  have HG : Hid (w3.heap.size ≤ g ∧ g < w4.heap.size) := ⟨hg1, hg2⟩
  have HS4 : Hid (w3.heap.size ≤ w4.heap.size) := bw4.size
  clear hsp2 y0 y1 y2 y3 y4 y5 y6 y7 hq4 hk4 hbd4 bw4 hn hqn hg1 hg2 hx4 HP3
  by_cases h60 : 60 < n
  · as_aux_lemma =>
      have i1 : (60 : Int) < (n : Int) := by omega
      clear h60
      go_wp2_with fail
      go_ret
      exact ⟨rfl, HB4.out⟩
  have i1 : ¬ (60 : Int) < (n : Int) := by omega
  have HN6 : Hid (n ≤ 60) := by show n ≤ 60; omega
  have hw1 := new_any 60 w4 (by omega) (by omega)
  clear h60
  go_upto_region 10 with (go_at_call 5; refine hw1.mono ?_; rintro e w5 ⟨rfl, hP5, bw5, hs5⟩; have HS5 : Hid (w5.heap.size = w4.heap.size + 2) := hs5; clear hs5)
  have hw2 := new_any 60 w5 (by omega) (by omega)
  clear hw1
  go_upto_region 13 with (go_at_call 5; refine hw2.mono ?_; rintro e w6 ⟨rfl, hP6, bw6, hs6⟩)
  have hs5 := HS5.out
  clear HS5
  obtain ⟨b1, hb1⟩ : ∃ b1, w4.heap.size = b1 := ⟨_, rfl⟩
  obtain ⟨pb1, hpb1⟩ : ∃ pb1, b1 + 1 = pb1 := ⟨_, rfl⟩
  obtain ⟨b2, hb2⟩ : ∃ b2, w5.heap.size = b2 := ⟨_, rfl⟩
  obtain ⟨pb2, hpb2⟩ : ∃ pb2, b2 + 1 = pb2 := ⟨_, rfl⟩
  rw [hb1] at hP5 bw5 hs5 HG HS4
  rw [hb2] at hP6 bw6 hs6 hs5
  rw [hb1, hpb1, hb2, hpb2]
  rw [hpb1] at hP5
  rw [hpb2] at hP6
  have HB6 : Hid (Below w.heap.size w w6) := (HB4.out.trans (bw5.mono (by have := HB4.out.size; omega))).trans (bw6.mono (by have := HB4.out.size; omega))
  have h46 : ∀ k, k < b1 → w6.heap[k]? = w4.heap[k]? := fun k hk => (bw6.block k (by omega)).trans (bw5.block k hk)
  have HP6' : Hid (PkAt w6 w.heap.size (wholeP p) (.slice a L c)) := (h46 _ (by have := HS3.out; have := HS4.out; omega)).trans HP4.out
  have HPC : Hid (∀ i, i < n → PcAt w6 b1 g (piece (wholeP p) size i) i) := fun i hi => by
    have h := pcAt HE.out HK.out HD.out HQ.out (i := i) (by rw [HN.out]; exact hi)
    rw [hb1] at h
    exact h.keep (h46 g HG.out.2) h46
  have HPA : Hid (PoolAt w6 (TwoF b1) pb1 { life := 60, now := 0, l := [] }) := by
    obtain ⟨mb, gs, h⟩ := hP5
    exact ⟨mb, gs, h.keep (fun k hk => bw6.block k (by rcases hk with h | h <;> omega))⟩
  have HPB : Hid (PoolAt w6 (TwoF b2) pb2 { life := 60, now := 0, l := [] }) := hP6
  have HSZ : Hid (b2 = b1 + 2 ∧ w6.heap.size = b1 + 4 ∧ pb1 = b1 + 1 ∧ pb2 = b2 + 1 ∧ w.heap.size < b1 ∧ g < b1) := ⟨by omega, by omega, by omega, by omega, by have := HS3.out; have := HS4.out; omega, HG.out.2⟩
  unfold ptrV
  clear hw2 hP5 bw5 hs5 hP6 bw6 hs6 h46 HP4 HK HD HQ HG HS4 HS3 HB4 HB3 HQN hb1 hb2 hpb1 hpb2 i1 hE y6
  by_cases hn1 : n = 1
  · as_aux_lemma =>
      subst hn1
      obtain ⟨bv0, hpc, hlt⟩ := HPC.out 0 (by omega)
      rw [piece_one_is HE.out HN.out] at hpc
      have hF : ∀ k, TwoF b1 k → k < w6.heap.size := fun k hk => by have := HSZ.out; rcases hk with h | h <;> omega
      have had := poolAdd_any (TwoF b1) pb1 { life := 60, now := 0, l := [] } (wholeP p) bv0 5 w6 HPA.out hF hpc.2 (fun b off len cp hv h0 hf => by have := hlt b off len cp hv h0; rcases hf with h | h <;> omega)
      unfold Adds at had
      rw [add_one HE.out] at had
      unfold ptrV pkV at had
      obtain ⟨nb, hnb⟩ : ∃ nb, p.body.length = nb := ⟨_, rfl⟩
      obtain ⟨a0, c0, e0⟩ := len_body' hpc.2 hnb
      subst e0
      have hcz : w6.cell? ⟨g, 0, none⟩ = some (.int .i64 p.kind) ∧ w6.cell? ⟨g, 1, none⟩ = some (.int .i64 p.ttl) ∧ w6.cell? ⟨g, 2, none⟩ = some (.int .i64 p.ident) ∧ w6.cell? ⟨g, 3, none⟩ = some (.int .i64 p.src) ∧ w6.cell? ⟨g, 4, none⟩ = some (.int .i64 p.dst) ∧ w6.cell? ⟨g, 5, none⟩ = some (.int .i64 0) ∧ w6.cell? ⟨g, 6, none⟩ = some (.bool false) ∧ w6.cell? ⟨g, 7, none⟩ = some (.slice a0 nb c0) := by
        have h := hpc.1
        simp only [Nat.zero_mul, Nat.zero_add] at h
        exact h
      obtain ⟨y0, y1, y2, y3, y4, y5, y6, y7⟩ := hcz
      have had2 : Calls Tryd.prog 10 #[.pointer (some ⟨pb1, 0, none⟩), .agg #[.int .i64 p.kind, .int .i64 p.ttl, .int .i64 p.ident, .int .i64 p.src, .int .i64 p.dst, .int .i64 0, .bool false, .slice a0 nb c0], .int .i64 5] w6 fun e w' =>
          ∃ (a7 : Option Addr) (c7 : Nat), e = .returned (.tuple #[.agg #[.int .i64 p.kind, .int .i64 p.ttl, .int .i64 p.ident, .int .i64 p.src, .int .i64 p.dst, .int .i64 0, .bool false, .slice a7 nb c7], .bool true, .nilIface]) ∧ Bytes w' (.slice a7 nb c7) p.body ∧ PoolAt w' (Plus (TwoF b1) w6 w') pb1 { life := 60, now := 5, l := [] } ∧ Turn (TwoF b1) w6 w' := by
        refine had.mono ?_
        rintro e w' ⟨bv7, rfl, hby, hpo, ht⟩
        obtain ⟨a7, c7, e7⟩ := len_body' hby hnb
        subst e7
        exact ⟨a7, c7, rfl, hby, hpo, ht⟩
      have HNB : Hid (p.body.length = nb) := hnb
      clear had hpc hlt hF hnb hl4 HPC
      go_upto_region 15 with (go_at_call 10; refine had2.mono ?_; rintro e w7 ⟨a7, c7, rfl, hby7, hpo7, ht7⟩)
      have hsz := HSZ.out
      have nF : ∀ k, k < b1 → ¬ TwoF b1 k := fun k hk h => by rcases h with h | h <;> omega
      have bel7 : Below w.heap.size w w7 := Turn.below HB6.out (by omega) ht7 (fun k hk => by rcases hk with h | h <;> omega)
      have hP7 := HP6'.out.turn ht7 (nF _ (by omega))
      have hP8 := hP7.alloc (.cells #[.int .i64 p.kind, .int .i64 p.ttl, .int .i64 p.ident, .int .i64 p.src, .int .i64 p.dst, .int .i64 0, .bool false, .slice a7 nb c7] 40)
      have hX8 : PkAt (w7.alloc (.cells #[.int .i64 p.kind, .int .i64 p.ttl, .int .i64 p.ident, .int .i64 p.src, .int .i64 p.dst, .int .i64 0, .bool false, .slice a7 nb c7] 40)) w7.heap.size (wholeP p) (.slice a7 nb c7) := PkAt.new w7 (wholeP p) (.slice a7 nb c7)
      have bw8 : Below w7.heap.size w7 (w7.alloc (.cells #[.int .i64 p.kind, .int .i64 p.ttl, .int .i64 p.ident, .int .i64 p.src, .int .i64 p.dst, .int .i64 0, .bool false, .slice a7 nb c7] 40)) := (Below.refl _ _).alloc (Nat.le_refl _) _
      obtain ⟨w8, hw8⟩ : ∃ w8, w7.alloc (.cells #[.int .i64 p.kind, .int .i64 p.ttl, .int .i64 p.ident, .int .i64 p.src, .int .i64 p.dst, .int .i64 0, .bool false, .slice a7 nb c7] 40) = w8 := ⟨_, rfl⟩
      rw [hw8] at hP8 hX8 bw8 ⊢
      obtain ⟨g8, hg8⟩ : ∃ g8, w7.heap.size = g8 := ⟨_, rfl⟩
      have bel8 : Below w.heap.size w w8 := bel7.trans (bw8.mono bel7.size)
      have hpo8 := hpo7.keep (w' := w8) (fun k hk => bw8.block k (by have := ht7.size; rcases hk with (h | h) | h <;> omega))
      rw [hg8] at hX8 ⊢
      have HG8 : Hid (w7.heap.size = g8) := hg8
      have hby8 := hby7.below (Nat.le_refl _) bw8
      have hbp8 := HBY.out.below (Nat.le_refl _) bel8
      have hsm := samePk (wholeP p) (.slice a7 nb c7) (.slice a L c) w8 hby8 hbp8
      unfold pkV wholeP at hsm
      simp only at hsm
      have hcx : w8.cell? ⟨g8, 0, none⟩ = some (.int .i64 p.kind) ∧ w8.cell? ⟨g8, 1, none⟩ = some (.int .i64 p.ttl) ∧ w8.cell? ⟨g8, 2, none⟩ = some (.int .i64 p.ident) ∧ w8.cell? ⟨g8, 3, none⟩ = some (.int .i64 p.src) ∧ w8.cell? ⟨g8, 4, none⟩ = some (.int .i64 p.dst) ∧ w8.cell? ⟨g8, 5, none⟩ = some (.int .i64 0) ∧ w8.cell? ⟨g8, 6, none⟩ = some (.bool false) ∧ w8.cell? ⟨g8, 7, none⟩ = some (.slice a7 nb c7) := hX8.cells
      have hcz : w8.cell? ⟨w.heap.size, 0, none⟩ = some (.int .i64 p.kind) ∧ w8.cell? ⟨w.heap.size, 1, none⟩ = some (.int .i64 p.ttl) ∧ w8.cell? ⟨w.heap.size, 2, none⟩ = some (.int .i64 p.ident) ∧ w8.cell? ⟨w.heap.size, 3, none⟩ = some (.int .i64 p.src) ∧ w8.cell? ⟨w.heap.size, 4, none⟩ = some (.int .i64 p.dst) ∧ w8.cell? ⟨w.heap.size, 5, none⟩ = some (.int .i64 0) ∧ w8.cell? ⟨w.heap.size, 6, none⟩ = some (.bool false) ∧ w8.cell? ⟨w.heap.size, 7, none⟩ = some (.slice a L c) := hP8.cells
      obtain ⟨x0, x1, x2, x3, x4, x5, x6, x7⟩ := hcx
      obtain ⟨z0, z1, z2, z3, z4, z5, z6, z7⟩ := hcz
      clear had2 y0 y1 y2 y3 y4 y5 y6 y7 hw8 hg8 hP7 hP8 hX8 hby7 hby8 hbp8 hpo7 hsz nF bel7
      go_upto_region 16 with (go_at_call 11; refine hsm.mono ?_; rintro e w9 ⟨rfl, bw9⟩)
      have hpo9 := hpo8.keep (w' := w9) (fun k hk => bw9.block k (by have := HSZ.out; have := bw8.size; have := ht7.size; rcases hk with (h | h) | h <;> omega))
      have hln : Calls Tryd.prog 12 #[.pointer (some ⟨pb1, 0, none⟩)] w9 fun e w' => e = .returned (.int .i64 0) ∧ w' = w9 := poolLen_any hpo9
      have HZ9 : Hid (Below w.heap.size w w9) := bel8.trans (bw9.mono bel8.size)
      clear hsm x0 x1 x2 x3 x4 x5 x6 x7 z0 z1 z2 z3 z4 z5 z6 z7 hpo8 hpo9 bel8 bw8 bw9 ht7
      go_wp2_with (go_at_call 12; refine hln.mono ?_; rintro e w10 ⟨rfl, rfl⟩)
      go_ret
      exact ⟨rfl, HZ9.out⟩
  have i1 : ¬ (n : Int) = 1 := by omega
  have i1' : ((n : Int) == 1) = false := by simpa using i1
  have hn2 : 2 ≤ n := by omega
  obtain ⟨w7, hmk, hM7, bw7, hs7⟩ := make_marks w6 n (by have := HN6.out; omega)
  obtain ⟨S, hS⟩ : ∃ S, w6.heap.size = S := ⟨_, rfl⟩
  rw [hS] at hmk hM7 bw7 hs7
  obtain ⟨Z, hZ⟩ : ∃ Z, zs.length = Z := ⟨_, rfl⟩
  have hNm : ∃ (ao : Option Addr) (cz : Nat), v = .slice ao Z cz := by
    rcases HZ.out with ⟨h0, a0, c0, rfl⟩ | ⟨b, off, len, c0, rfl, _, _, h4, _⟩
    · exact ⟨a0, c0, by rw [← hZ, h0]; rfl⟩
    · exact ⟨_, c0, by rw [← hZ, h4]⟩
  obtain ⟨ao, cz, hv⟩ := hNm
  subst hv
  rw [hZ] at hzl
  have HZL : Hid (zs.length = Z) := hZ
  have HSZ7 : Hid (b2 = b1 + 2 ∧ S = b1 + 4 ∧ w7.heap.size = S + 1 ∧ pb1 = b1 + 1 ∧ pb2 = b2 + 1 ∧ w.heap.size < b1 ∧ g < b1) := ⟨by have := HSZ.out; omega, by have := HSZ.out; omega, by omega, by have := HSZ.out; omega, by have := HSZ.out; omega, by have := HSZ.out; omega, by have := HSZ.out; omega⟩
  have h67 : ∀ k, k < S → w7.heap[k]? = w6.heap[k]? := fun k hk => bw7.block k hk
  have HP7 : Hid (PkAt w7 w.heap.size (wholeP p) (.slice a L c)) := (h67 _ (by have := HSZ7.out; omega)).trans HP6'.out
  have HPC7 : Hid (∀ i, i < n → PcAt w7 b1 g (piece (wholeP p) size i) i) := fun i hi => (HPC.out i hi).keep (h67 g (by have := HSZ7.out; omega)) (fun k hk => h67 k (by have := HSZ7.out; omega))
  have HPA7 : Hid (PoolAt w7 (TwoF b1) pb1 { life := 60, now := 0, l := [] }) := HPA.out.keep (fun k hk => h67 k (by have := HSZ7.out; rcases hk with h | h <;> omega))
  have HPB7 : Hid (PoolAt w7 (TwoF b2) pb2 { life := 60, now := 0, l := [] }) := HPB.out.keep (fun k hk => h67 k (by have := HSZ7.out; rcases hk with h | h <;> omega))
  have HB7 : Hid (Below w.heap.size w w7) := HB6.out.trans (bw7.mono (by have := HB6.out.size; omega))
  have HM7 : Hid (Marks w7 S n []) := hM7
  have HN2 : Hid (2 ≤ n) := hn2
  clear hn1 i1 hM7 bw7 hs7 hS hZ h67 HPC HPA HPB HSZ HP6' HB6 hn2
  go_upto_region 20 with fail
  go_loopw [21, 22] (fun l t wr => ∃ (k : Nat) (js : List Nat) (lf : Int), k ≤ Z + n ∧ t = .int .i64 (k : Int) ∧ l = .int .i64 lf ∧ lf = (n : Int) - (js.length : Int) ∧ BackS w7 b1 pb1 S n Z (wholeP p) size k js wr) (fun _ t _ => ((Z : Int) + (n : Int) - intOf t).toNat)
  case atStart =>
    refine ⟨0, [], (n : Int), by omega, rfl, rfl, by simp, ⟨⟨?_, Turn.refl _ _⟩, HM7.out, .nil, fun j hj => (by cases hj), fun i hi => (by omega)⟩⟩
    rw [stJ_nil (by rw [HN.out]; exact HN2.out)]
    exact HPA7.out.mono (fun k hk => .inl hk)
  case round =>
    obtain ⟨k, js, lf, hk, rfl, rfl, hlf, hS⟩ := hrel
    by_cases hkn : k < Z + n
    · have i1 : (k : Int) < (Z : Int) + (n : Int) := by omega
      have i6 : (n : Int) ≤ 60 := by have := HN6.out; omega
      have i7 : (Z : Int) ≤ 140737488355328 := by omega
      have belr : Below w.heap.size w wr := Turn.below HB7.out (by have := HB7.out.size; omega) hS.ps.turn (fun k hk => by have := HSZ7.out; rcases hk with (h | h) | h <;> omega)
      have HBR : Hid (Below w.heap.size w wr) := belr
      have HSR : Hid (BackS w7 b1 pb1 S n Z (wholeP p) size k js wr) := hS
      have HLF : Hid (lf = (n : Int) - (js.length : Int)) := hlf
      obtain ⟨iv, HIV⟩ : ∃ iv : Int, Hid (iv = if k < Z then zs.getD k 0 else (k : Int) - (Z : Int)) := ⟨_, rfl⟩
      clear belr hS hlf
      go_upto_if 154 with fail
      go_cut [23] (fun s ww => s = .int .i64 iv ∧ ww = wr)
      case first =>
        as_aux_lemma =>
          by_cases hkz : k < Z
          · obtain ⟨b, off, hao, hz1, hz2, hcell⟩ := num_at HZ.out HBR.out hkz HZL.out
            subst hao
            have i2 : (k : Int) < (Z : Int) := by omega
            have i3 : (0 : Int) ≤ (k : Int) := by omega
            have hz3 : cz ≤ 9223372036854775807 := by unfold maxLen at hz2; omega
            have e : Hid (zs.getD k 0 = iv) := by rw [HIV.out, if_pos hkz]; rfl
            generalize zs.getD k 0 = x at hcell e
            clear hz2
            go_wp2_with fail
            go_meet
            case rel => exact ⟨congrArg (Value.int .i64) e.out, rfl⟩
          · have i2 : ¬ (k : Int) < (Z : Int) := by omega
            have e : Hid ((k : Int) - (Z : Int) = iv) := by rw [HIV.out, if_neg hkz]; rfl
            go_wp2_with fail
            go_meet
            case rel => exact ⟨congrArg (Value.int .i64) e.out, rfl⟩
      case rest =>
        obtain ⟨hx, hy⟩ := hcut
        subst hx hy
        by_cases j1 : iv < 0
        · as_aux_lemma =>
            have HX : Hid (BackS w7 b1 pb1 S n Z (wholeP p) size (k + 1) js wc) := HSR.out.next (fun i hi => by have := HIV.out; rw [if_neg (by omega)] at this; omega)
            go_wp2_with fail
            go_roundw
            case rel => exact ⟨k + 1, js, lf, by omega, by go_num, rfl, HLF.out, HX.out⟩
            case measure => simp [intOf]; omega
        obtain ⟨I, rfl⟩ := Int.eq_ofNat_of_zero_le (Int.not_lt.1 j1)
        by_cases j2 : (n : Int) ≤ (I : Int)
        · as_aux_lemma =>
            have HX : Hid (BackS w7 b1 pb1 S n Z (wholeP p) size (k + 1) js wc) := HSR.out.next (fun i hi => by have := HIV.out; rw [if_neg (by omega)] at this; omega)
            go_wp2_with fail
            go_roundw
            case rel => exact ⟨k + 1, js, lf, by omega, by go_num, rfl, HLF.out, HX.out⟩
            case measure => simp [intOf]; omega
        have j3 : (I : Int) < (n : Int) := by omega
        have j4 : (0 : Int) ≤ (I : Int) := by omega
        have hIn : I < n := by omega
        have hmc := HSR.out.marks.cell hIn
        have hmf := HSR.out.marks.free I
        by_cases j5 : I ∈ js
        · as_aux_lemma =>
            have HX : Hid (BackS w7 b1 pb1 S n Z (wholeP p) size (k + 1) js wc) := HSR.out.next (fun i hi => by have := HIV.out; rw [if_neg (by omega)] at this; have hi2 : i = I := (by omega); rw [hi2]; exact j5)
            rw [decide_eq_true j5] at hmc
            clear j5
            go_wp2_with fail
            go_roundw
            case rel => exact ⟨k + 1, js, lf, by omega, by go_num, rfl, HLF.out, HX.out⟩
            case measure => simp [intOf]; omega
        rw [decide_eq_false j5] at hmc
        have HJ : Hid (I ∉ js) := j5
        clear j5
        go_upto_region 27 with fail
        have hMB := HSR.out.marks.store I
        have onB : Only S wc (wc.setCell ⟨S, I, none⟩ (.bool true)) := (Only.refl _ _).setCell I _
        obtain ⟨wB, hwB⟩ : ∃ wB, wc.setCell ⟨S, I, none⟩ (.bool true) = wB := ⟨_, rfl⟩
        rw [hwB] at hMB onB ⊢
        have hfew := HSR.out.few hIn HJ.out
        have hps := HSR.out.ps.mark onB (by have := HSZ7.out; omega) (by have := HSZ7.out; omega)
        have l1 : (1 : Int) ≤ lf := by have := HLF.out; omega
        have l2 : lf ≤ 60 := by have := HLF.out; omega
        clear hmc hmf hwB
        go_upto_region 28 with fail
        obtain ⟨lf2, hlf2⟩ : ∃ lf2, lf - 1 = lf2 := ⟨_, rfl⟩
        rw [hlf2]
        obtain ⟨D, hD⟩ : ∃ D, D = decide (js.length + 1 = n) := ⟨_, rfl⟩
        have t1 : (lf2 == 0) = D := by
          have := HLF.out
          rw [hD]
          by_cases hh : js.length + 1 = n
          · rw [decide_eq_true hh, beq_iff_eq]; omega
          · rw [decide_eq_false hh, beq_eq_false_iff_ne]; omega
        have t2 : (D != D) = false := by simp
        have HLF2 : Hid (lf2 = (n : Int) - ((js ++ [I]).length : Int)) := by
          show lf2 = (n : Int) - ((js ++ [I]).length : Int)
          have := HLF.out
          rw [List.length_append, List.length_singleton]; omega
        have kB : ∀ k, k < b1 → wB.heap[k]? = w7.heap[k]? := fun k hk => hps.turn.block k (by have := HSZ7.out; omega) (fun h => by have := HSZ7.out; rcases h with (h | h) | h <;> omega)
        obtain ⟨bvi, hpc, hlt⟩ := (HPC7.out I hIn).keep (kB g (by have := HSZ7.out; omega)) kB
        have hltF : ∀ k, TwoF b1 k → k < w7.heap.size := fun k hk => by have := HSZ7.out; rcases hk with h | h <;> omega
        have had := poolAdd_any (Plus (TwoF b1) w7 wB) pb1 (stJ (wholeP p) size js) (piece (wholeP p) size I) bvi 5 wB hps.pool (hps.lt hltF) hpc.2 (fun b off len cp hv h0 hf => by have := hlt b off len cp hv h0; have := HSZ7.out; rcases hf with (h | h) | h <;> omega)
        unfold Adds at had
        rw [stJ_add HE.out rfl rfl (by rw [HN.out]; exact HN2.out) (by rw [HN.out]; exact HSR.out.lt) HSR.out.nodup (by rw [HN.out]; exact hIn) HJ.out, HN.out] at had
        obtain ⟨x, hx⟩ : ∃ x, piece (wholeP p) size I = x := ⟨_, rfl⟩
        rw [hx] at hpc had
        obtain ⟨ni, hni⟩ : ∃ ni, x.body.length = ni := ⟨_, rfl⟩
        obtain ⟨ai, ci, ei⟩ := len_body' hpc.2 hni
        subst ei
        have had2 : Calls Tryd.prog 10 #[.pointer (some ⟨pb1, 0, none⟩), .agg #[.int .i64 x.kind, .int .i64 x.ttl, .int .i64 x.ident, .int .i64 x.src, .int .i64 x.dst, .int .i64 x.pos, .bool x.more, .slice ai ni ci], .int .i64 5] wB fun e w' =>
            ∃ (X : Pk) (a8 : Option Addr) (n8 c8 : Nat), e = .returned (.tuple #[.agg #[.int .i64 X.kind, .int .i64 X.ttl, .int .i64 X.ident, .int .i64 X.src, .int .i64 X.dst, .int .i64 X.pos, .bool X.more, .slice a8 n8 c8], .bool D, .nilIface]) ∧ (D = true → X = wholeP p) ∧ Bytes w' (.slice a8 n8 c8) X.body ∧ PS (TwoF b1) (fun k => TwoF b1 k ∨ k = S) w7 w' pb1 (stJ (wholeP p) size (js ++ [I])) ∧ w'.heap[S]? = wB.heap[S]? := by
          refine had.mono ?_
          rintro e w' ⟨bv8, rfl, hby, hpo, ht⟩
          obtain ⟨a8, c8, e8⟩ := len_body hby
          subst e8
          refine ⟨_, a8, _, c8, ?_, fun hd => ?_, hby, hps.add (fun k hk => .inl hk) hpo ht, ht.block S (by rw [onB.size]; have := HSR.out.ps.turn.size; have := HSZ7.out; omega) (fun h => by have := HSZ7.out; rcases h with (h | h) | h <;> omega)⟩
          · rw [hD]; rfl
          · rw [hd] at hD; rw [if_pos (of_decide_eq_true hD.symm)]
        have hcx : wB.cell? ⟨g, I * 8, none⟩ = some (.int .i64 x.kind) ∧ wB.cell? ⟨g, I * 8 + 1, none⟩ = some (.int .i64 x.ttl) ∧ wB.cell? ⟨g, I * 8 + 2, none⟩ = some (.int .i64 x.ident) ∧ wB.cell? ⟨g, I * 8 + 3, none⟩ = some (.int .i64 x.src) ∧ wB.cell? ⟨g, I * 8 + 4, none⟩ = some (.int .i64 x.dst) ∧ wB.cell? ⟨g, I * 8 + 5, none⟩ = some (.int .i64 x.pos) ∧ wB.cell? ⟨g, I * 8 + 6, none⟩ = some (.bool x.more) ∧ wB.cell? ⟨g, I * 8 + 7, none⟩ = some (.slice ai ni ci) := hpc.1
        obtain ⟨y0, y1, y2, y3, y4, y5, y6, y7⟩ := hcx
        have HMB : Hid (Marks wB S n (js ++ [I])) := hMB
        have HLTF : Hid (∀ k, TwoF b1 k → k < w7.heap.size) := hltF
        have HON : Hid (Only S wc wB) := onB
        clear had hpc hlt hltF kB hps hx hni hMB onB hfew hlf2 hD l1 l2
        go_upto_region 29 with (go_at_call 10; refine had2.mono ?_; rintro e w8 ⟨X, a8, n8, c8, rfl, hX8, hby8, hps8, hS8⟩)
        have bw9 : Below w8.heap.size w8 (w8.alloc (.cells #[.int .i64 X.kind, .int .i64 X.ttl, .int .i64 X.ident, .int .i64 X.src, .int .i64 X.dst, .int .i64 X.pos, .bool X.more, .slice a8 n8 c8] 40)) := (Below.refl _ _).alloc (Nat.le_refl _) _
        have hX9 := PkAt.new w8 X (.slice a8 n8 c8)
        obtain ⟨w9, hw9⟩ : ∃ w9, w8.alloc (.cells #[.int .i64 X.kind, .int .i64 X.ttl, .int .i64 X.ident, .int .i64 X.src, .int .i64 X.dst, .int .i64 X.pos, .bool X.more, .slice a8 n8 c8] 40) = w9 := ⟨_, rfl⟩
        rw [hw9] at bw9 hX9 ⊢
        obtain ⟨g9, hg9⟩ : ∃ g9, w8.heap.size = g9 := ⟨_, rfl⟩
        have hps9 := hps8.below HLTF.out bw9
        have hM9 : Marks w9 S n (js ++ [I]) := HMB.out.keep ((bw9.block S (by have := hps8.turn.size; have := HSZ7.out; omega)).trans hS8)
        have hby9 := hby8.below (Nat.le_refl _) bw9
        have bel9 : Below w.heap.size w w9 := Turn.below HB7.out (by have := HB7.out.size; omega) hps9.turn (fun k hk => by have := HSZ7.out; rcases hk with (h | h) | h <;> omega)
        have hbp9 : Bytes w9 (.slice a L c) (wholeP p).body := HBY.out.below (Nat.le_refl _) bel9
        have hP9 : PkAt w9 w.heap.size (wholeP p) (.slice a L c) := HP7.out.turn hps9.turn (fun h => by have := HSZ7.out; rcases h with (h | h) | h <;> omega)
        rw [hg9] at hX9 ⊢
        have hsm := likeOr D (wholeP p) X (.slice a8 n8 c8) (.slice a L c) w9 hby9 hbp9 hX8
        have hsm2 : Calls Tryd.prog 11 #[.agg #[.int .i64 X.kind, .int .i64 X.ttl, .int .i64 X.ident, .int .i64 X.src, .int .i64 X.dst, .int .i64 X.pos, .bool X.more, .slice a8 n8 c8], .agg #[.int .i64 p.kind, .int .i64 p.ttl, .int .i64 p.ident, .int .i64 p.src, .int .i64 p.dst, .int .i64 0, .bool false, .slice a L c]] w9 fun e w' => ∃ bl, e = .returned (.bool bl) ∧ (D && !bl) = false ∧ Below w9.heap.size w9 w' := hsm
        have hcx : w9.cell? ⟨g9, 0, none⟩ = some (.int .i64 X.kind) ∧ w9.cell? ⟨g9, 1, none⟩ = some (.int .i64 X.ttl) ∧ w9.cell? ⟨g9, 2, none⟩ = some (.int .i64 X.ident) ∧ w9.cell? ⟨g9, 3, none⟩ = some (.int .i64 X.src) ∧ w9.cell? ⟨g9, 4, none⟩ = some (.int .i64 X.dst) ∧ w9.cell? ⟨g9, 5, none⟩ = some (.int .i64 X.pos) ∧ w9.cell? ⟨g9, 6, none⟩ = some (.bool X.more) ∧ w9.cell? ⟨g9, 7, none⟩ = some (.slice a8 n8 c8) := hX9.cells
        have hcz : w9.cell? ⟨w.heap.size, 0, none⟩ = some (.int .i64 p.kind) ∧ w9.cell? ⟨w.heap.size, 1, none⟩ = some (.int .i64 p.ttl) ∧ w9.cell? ⟨w.heap.size, 2, none⟩ = some (.int .i64 p.ident) ∧ w9.cell? ⟨w.heap.size, 3, none⟩ = some (.int .i64 p.src) ∧ w9.cell? ⟨w.heap.size, 4, none⟩ = some (.int .i64 p.dst) ∧ w9.cell? ⟨w.heap.size, 5, none⟩ = some (.int .i64 0) ∧ w9.cell? ⟨w.heap.size, 6, none⟩ = some (.bool false) ∧ w9.cell? ⟨w.heap.size, 7, none⟩ = some (.slice a L c) := hP9.cells
        obtain ⟨x0, x1, x2, x3, x4, x5, x6, x7⟩ := hcx
        obtain ⟨z0, z1, z2, z3, z4, z5, z6, z7⟩ := hcz
        have HPS9 : Hid (PS (TwoF b1) (fun k => TwoF b1 k ∨ k = S) w7 w9 pb1 (stJ (wholeP p) size (js ++ [I]))) := hps9
        have HM9 : Hid (Marks w9 S n (js ++ [I])) := hM9
        clear had2 y0 y1 y2 y3 y4 y5 y6 y7 hX8 hby8 hps8 hS8 bw9 hX9 hw9 hg9 hps9 hM9 hby9 bel9 hbp9 hP9 hsm
        go_upto_region 32 with (go_at_call 11; refine hsm2.mono ?_; rintro e w10 ⟨bl, rfl, hbl, bw10⟩)
        have hB10 : BackS w7 b1 pb1 S n Z (wholeP p) size (k + 1) (js ++ [I]) w10 := by
          refine ⟨HPS9.out.below HLTF.out bw10, HM9.out.keep (bw10.block S (by have := HPS9.out.turn.size; have := HSZ7.out; omega)), ?_, ?_, fun i hi => ?_⟩
          · rw [List.nodup_append]
            refine ⟨HSR.out.nodup, (by simp), fun a ha b hb e => ?_⟩
            rw [List.mem_singleton.1 hb] at e; exact HJ.out (e ▸ ha)
          · intro j hj
            rcases List.mem_append.1 hj with h | h
            · exact HSR.out.lt j h
            · rw [List.mem_singleton.1 h]; exact hIn
          · by_cases he : i + Z = k
            · have := HIV.out
              rw [if_neg (by omega)] at this
              have hi2 : i = I := (by omega)
              rw [hi2]; simp
            · exact List.mem_append_left _ (HSR.out.come i (by omega))
        have HB10 : Hid (BackS w7 b1 pb1 S n Z (wholeP p) size (k + 1) (js ++ [I]) w10) := hB10
        clear hB10 hsm2 x0 x1 x2 x3 x4 x5 x6 x7 z0 z1 z2 z3 z4 z5 z6 z7 bw10 t1 t2
        rcases D with _ | _
        · go_wp2_with fail
          go_roundw
          case rel => exact ⟨k + 1, js ++ [I], lf2, by omega, by go_num, rfl, HLF2.out, HB10.out⟩
          case measure => simp [intOf]; omega
        · have hbl2 : bl = true := by simpa using hbl
          subst hbl2
          go_wp2_with fail
          go_roundw
          case rel => exact ⟨k + 1, js ++ [I], lf2, by omega, by go_num, rfl, HLF2.out, HB10.out⟩
          case measure => simp [intOf]; omega
    · have hkz : k = Z + n := by omega
      subst hkz
      have i1 : ¬ ((Z + n : Nat) : Int) < (Z : Int) + (n : Int) := by omega
      have i6 : (n : Int) ≤ 60 := by have := HN6.out; omega
      have i7 : (Z : Int) ≤ 140737488355328 := by omega
      have hall : js.length = n := (all_of_len hS.lt hS.nodup).2.2 (fun j hj => hS.come j (by omega))
      have hl0 : lf = 0 := by omega
      subst hl0
      have belr : Below w.heap.size w wr := Turn.below HB7.out (by have := HB7.out.size; omega) hS.ps.turn (fun k hk => by have := HSZ7.out; rcases hk with (h | h) | h <;> omega)
      have HBR : Hid (Below w.heap.size w wr) := belr
      have hln : Calls Tryd.prog 12 #[.pointer (some ⟨pb1, 0, none⟩)] wr fun e w' => e = .returned (.int .i64 0) ∧ w' = wr := by
        have h := poolLen_any hS.ps.pool
        rw [stJ_all (by rw [HN.out]; exact hall)] at h
        exact h
      have HPS : Hid (PS (TwoF b1) (fun k => TwoF b1 k ∨ k = S) w7 wr pb1 (stJ (wholeP p) size js)) := hS.ps
      clear hlf hall belr hS hk hkn
      by_cases j1 : twice < 0
      · as_aux_lemma =>
          go_wp2_with (go_at_call 12; refine hln.mono ?_; rintro e w10 ⟨rfl, rfl⟩)
          go_ret
          exact ⟨rfl, HBR.out⟩
      obtain ⟨tw, rfl⟩ := Int.eq_ofNat_of_zero_le (Int.not_lt.1 j1)
      by_cases j2 : (n : Int) ≤ (tw : Int)
      · as_aux_lemma =>
          go_wp2_with (go_at_call 12; refine hln.mono ?_; rintro e w10 ⟨rfl, rfl⟩)
          go_ret
          exact ⟨rfl, HBR.out⟩
      have j3 : (tw : Int) < (n : Int) := by omega
      have j4 : (0 : Int) ≤ (tw : Int) := by omega
      have htn : tw < n := by omega
      have kR : ∀ k, k < b1 → wr.heap[k]? = w7.heap[k]? := fun k hk => HPS.out.turn.block k (by have := HSZ7.out; omega) (fun h => by have := HSZ7.out; rcases h with (h | h) | h <;> omega)
      have HPR : Hid (∀ i, i < n → PcAt wr b1 g (piece (wholeP p) size i) i) := fun i hi => (HPC7.out i hi).keep (kR g (by have := HSZ7.out; omega)) kR
      have HSZR : Hid (w7.heap.size ≤ wr.heap.size) := HPS.out.turn.size
      have HF2 : Hid (∀ k, TwoF b2 k → k < wr.heap.size) := fun k hk => by have := HSZ7.out; have := HSZR.out; rcases hk with h | h <;> omega
      have hpsA : PS (TwoF b2) (TwoF b2) wr wr pb2 { life := 60, now := 0, l := [] } := ⟨(HPB7.out.keep (fun k hk => HPS.out.turn.block k (by have := HSZ7.out; rcases hk with h | h <;> omega) (fun h => by have := HSZ7.out; rcases hk with h2 | h2 <;> rcases h with (h | h) | h <;> omega))).mono (fun k hk => .inl hk), Turn.refl _ _⟩
      have HN2' : Hid (2 ≤ (splitL (wholeP p) size).length) := by show 2 ≤ (splitL (wholeP p) size).length; rw [HN.out]; exact HN2.out
      have HTN : Hid (tw < (splitL (wholeP p) size).length) := by show tw < (splitL (wholeP p) size).length; rw [HN.out]; exact htn
      clear hln kR
      obtain ⟨bvA, hpcA, hltA⟩ := (HPR.out tw (by omega)).keep (hpsA.turn.block g (by have := HSZ7.out; have := HSZR.out; omega) (fun h => by have := HSZ7.out; rcases h with h | h <;> omega)) (fun k hk => hpsA.turn.block k (by have := HSZ7.out; have := HSZR.out; omega) (fun h => by have := HSZ7.out; rcases h with h | h <;> omega))
      have hadA := second_add hpsA (by have := HSZ7.out; have := HSZR.out; omega) (by have := HSZ7.out; omega) hpcA hltA (bad_one HE.out HN2'.out HTN.out)
      rw [show errV 0 = .nilIface from rfl] at hadA
      obtain ⟨xA, hxA⟩ : ∃ x, piece (wholeP p) size tw = x := ⟨_, rfl⟩
      rw [hxA] at hpcA
      have hadA' := hadA
      rw [hxA] at hadA'
      obtain ⟨nA, hnA⟩ : ∃ ni, xA.body.length = ni := ⟨_, rfl⟩
      obtain ⟨aA, cA, eA⟩ := len_body' hpcA.2 hnA
      subst eA
      have hcx : wr.cell? ⟨g, tw * 8, none⟩ = some (.int .i64 xA.kind) ∧ wr.cell? ⟨g, tw * 8 + 1, none⟩ = some (.int .i64 xA.ttl) ∧ wr.cell? ⟨g, tw * 8 + 2, none⟩ = some (.int .i64 xA.ident) ∧ wr.cell? ⟨g, tw * 8 + 3, none⟩ = some (.int .i64 xA.src) ∧ wr.cell? ⟨g, tw * 8 + 4, none⟩ = some (.int .i64 xA.dst) ∧ wr.cell? ⟨g, tw * 8 + 5, none⟩ = some (.int .i64 xA.pos) ∧ wr.cell? ⟨g, tw * 8 + 6, none⟩ = some (.bool xA.more) ∧ wr.cell? ⟨g, tw * 8 + 7, none⟩ = some (.slice aA nA cA) := hpcA.1
      obtain ⟨y0, y1, y2, y3, y4, y5, y6, y7⟩ := hcx
      have HXXA : Hid (piece (wholeP p) size tw = xA) := hxA
      clear hadA hpcA hltA hxA hnA hpsA
      go_upto_region 37 with (go_at_call 10; refine hadA'.mono ?_; rintro e vA ⟨pA, qA, rfl, hptA⟩)
      have hbwA : Below vA.heap.size vA (vA.alloc (.cells #[.int .i64 0, .int .i64 0, .int .i64 0, .int .i64 0, .int .i64 0, .int .i64 0, .bool false, .slice pA 0 qA] 40)) := (Below.refl _ _).alloc (Nat.le_refl _) _
      obtain ⟨wA, hwA⟩ : ∃ W, vA.alloc (.cells #[.int .i64 0, .int .i64 0, .int .i64 0, .int .i64 0, .int .i64 0, .int .i64 0, .bool false, .slice pA 0 qA] 40) = W := ⟨_, rfl⟩
      rw [hwA] at hbwA ⊢
      have hpsAn := hptA.below HF2.out hbwA
      clear hadA' y0 y1 y2 y3 y4 y5 y6 y7 hwA hbwA hptA
      have hpsB := hpsAn
      rw [← HXXA.out] at hpsB
      clear hpsAn
      obtain ⟨bvB, hpcB, hltB⟩ := (HPR.out tw (by omega)).keep (hpsB.turn.block g (by have := HSZ7.out; have := HSZR.out; omega) (fun h => by have := HSZ7.out; rcases h with h | h <;> omega)) (fun k hk => hpsB.turn.block k (by have := HSZ7.out; have := HSZR.out; omega) (fun h => by have := HSZ7.out; rcases h with h | h <;> omega))
      have hadB := second_add hpsB (by have := HSZ7.out; have := HSZR.out; omega) (by have := HSZ7.out; omega) hpcB hltB (back_twice HE.out rfl rfl HN2'.out HTN.out (t := 1) (t0 := 1) (now := 2) (by omega) (by omega) (by omega) (by omega))
      rw [show errV 3 = .iface 52 (.int .i64 3) from rfl] at hadB
      obtain ⟨xB, hxB⟩ : ∃ x, piece (wholeP p) size tw = x := ⟨_, rfl⟩
      rw [hxB] at hpcB
      have hadB' := hadB
      rw [hxB] at hadB'
      obtain ⟨nB, hnB⟩ : ∃ ni, xB.body.length = ni := ⟨_, rfl⟩
      obtain ⟨aB, cB, eB⟩ := len_body' hpcB.2 hnB
      subst eB
      have hcx : wA.cell? ⟨g, tw * 8, none⟩ = some (.int .i64 xB.kind) ∧ wA.cell? ⟨g, tw * 8 + 1, none⟩ = some (.int .i64 xB.ttl) ∧ wA.cell? ⟨g, tw * 8 + 2, none⟩ = some (.int .i64 xB.ident) ∧ wA.cell? ⟨g, tw * 8 + 3, none⟩ = some (.int .i64 xB.src) ∧ wA.cell? ⟨g, tw * 8 + 4, none⟩ = some (.int .i64 xB.dst) ∧ wA.cell? ⟨g, tw * 8 + 5, none⟩ = some (.int .i64 xB.pos) ∧ wA.cell? ⟨g, tw * 8 + 6, none⟩ = some (.bool xB.more) ∧ wA.cell? ⟨g, tw * 8 + 7, none⟩ = some (.slice aB nB cB) := hpcB.1
      obtain ⟨y0, y1, y2, y3, y4, y5, y6, y7⟩ := hcx
      have HXXB : Hid (piece (wholeP p) size tw = xB) := hxB
      clear hadB hpcB hltB hxB hnB hpsB
      go_upto_region 38 with (go_at_call 10; refine hadB'.mono ?_; rintro e vB ⟨pB, qB, rfl, hptB⟩)
      have hbwB : Below vB.heap.size vB (vB.alloc (.cells #[.int .i64 0, .int .i64 0, .int .i64 0, .int .i64 0, .int .i64 0, .int .i64 0, .bool false, .slice pB 0 qB] 40)) := (Below.refl _ _).alloc (Nat.le_refl _) _
      obtain ⟨wX, hwB⟩ : ∃ W, vB.alloc (.cells #[.int .i64 0, .int .i64 0, .int .i64 0, .int .i64 0, .int .i64 0, .int .i64 0, .bool false, .slice pB 0 qB] 40) = W := ⟨_, rfl⟩
      rw [hwB] at hbwB ⊢
      have hpsBn := hptB.below HF2.out hbwB
      clear hadB' y0 y1 y2 y3 y4 y5 y6 y7 hwB hbwB hptB
      have hpsC := hpsBn
      clear hpsBn
      obtain ⟨r, hr⟩ : ∃ r, (tw + 1) % n = r := ⟨_, rfl⟩
      have hrn : r < n := by rw [← hr]; exact Nat.mod_lt _ (by omega)
      have HRN : Hid (r < (splitL (wholeP p) size).length) := by show r < (splitL (wholeP p) size).length; rw [HN.out]; exact hrn
      have r1 : ((tw : Int) + 1).tmod (n : Int) = (r : Int) := by rw [Int.tmod_eq_emod_of_nonneg (by omega), ← hr]; push_cast; rfl
      have r2 : ((tw : Int) + 1) % (n : Int) = (r : Int) := by rw [← hr]; push_cast; rfl
      have r3 : (r : Int) < (n : Int) := by omega
      have r4 : (0 : Int) ≤ (r : Int) := by omega
      have r5 : ((n : Int) == 0) = false := by rw [beq_eq_false_iff_ne]; omega
      have r6 : ¬ (n : Int) = 0 := by omega
      clear hr
      obtain ⟨bvC, hpcC, hltC⟩ := (HPR.out r (by omega)).keep (hpsC.turn.block g (by have := HSZ7.out; have := HSZR.out; omega) (fun h => by have := HSZ7.out; rcases h with h | h <;> omega)) (fun k hk => hpsC.turn.block k (by have := HSZ7.out; have := HSZR.out; omega) (fun h => by have := HSZ7.out; rcases h with h | h <;> omega))
      have hadC := second_add hpsC (by have := HSZ7.out; have := HSZR.out; omega) (by have := HSZ7.out; omega) hpcC hltC (back_bad HE.out rfl rfl HN2'.out HRN.out (t := 2) (t0 := 1) (now := 3) (by omega) (by omega) (by omega) (by omega))
      rw [show errV 6 = .iface 52 (.int .i64 6) from rfl] at hadC
      obtain ⟨xC, hxC⟩ : ∃ x, piece (wholeP p) size r = x := ⟨_, rfl⟩
      rw [hxC] at hpcC
      have hadC' := hadC
      rw [hxC] at hadC'
      obtain ⟨nC, hnC⟩ : ∃ ni, xC.body.length = ni := ⟨_, rfl⟩
      obtain ⟨aC, cC, eC⟩ := len_body' hpcC.2 hnC
      subst eC
      have hcx : wX.cell? ⟨g, r * 8, none⟩ = some (.int .i64 xC.kind) ∧ wX.cell? ⟨g, r * 8 + 1, none⟩ = some (.int .i64 xC.ttl) ∧ wX.cell? ⟨g, r * 8 + 2, none⟩ = some (.int .i64 xC.ident) ∧ wX.cell? ⟨g, r * 8 + 3, none⟩ = some (.int .i64 xC.src) ∧ wX.cell? ⟨g, r * 8 + 4, none⟩ = some (.int .i64 xC.dst) ∧ wX.cell? ⟨g, r * 8 + 5, none⟩ = some (.int .i64 xC.pos) ∧ wX.cell? ⟨g, r * 8 + 6, none⟩ = some (.bool xC.more) ∧ wX.cell? ⟨g, r * 8 + 7, none⟩ = some (.slice aC nC cC) := hpcC.1
      obtain ⟨y0, y1, y2, y3, y4, y5, y6, y7⟩ := hcx
      have HXXC : Hid (piece (wholeP p) size r = xC) := hxC
      clear hadC hpcC hltC hxC hnC hpsC
      go_upto_region 39 with (go_at_call 10; refine hadC'.mono ?_; rintro e vC ⟨pC, qC, rfl, hptC⟩)
      have hbwC : Below vC.heap.size vC (vC.alloc (.cells #[.int .i64 0, .int .i64 0, .int .i64 0, .int .i64 0, .int .i64 0, .int .i64 0, .bool false, .slice pC 0 qC] 40)) := (Below.refl _ _).alloc (Nat.le_refl _) _
      obtain ⟨wY, hwC⟩ : ∃ W, vC.alloc (.cells #[.int .i64 0, .int .i64 0, .int .i64 0, .int .i64 0, .int .i64 0, .int .i64 0, .bool false, .slice pC 0 qC] 40) = W := ⟨_, rfl⟩
      rw [hwC] at hbwC ⊢
      have hpsCn := hptC.below HF2.out hbwC
      clear hadC' y0 y1 y2 y3 y4 y5 y6 y7 hwC hbwC hptC
      have hbelY : Below w.heap.size w wY := Turn.below HBR.out (by have := HBR.out.size; omega) hpsCn.turn (fun k hk => by have := HSZ7.out; rcases hk with h | h <;> omega)
      have her1 := error_val (v := .iface 52 (.int .i64 3)) (k := 3) (.inr rfl) 3 wY (HL.out.below hbelY)
      rw [show ((3 : Int) == 3) = true from rfl] at her1
      have HPY : Hid (PS (TwoF b2) (TwoF b2) wr wY pb2 (poB 3 1 true (wholeP p) [] false)) := hpsCn
      have HBY2 : Hid (Below w.heap.size w wY) := hbelY
      clear hpsCn hbelY r1 r2 r3 r4 r5 r6
      go_upto_region 40 with (go_at_call 6; refine her1.mono ?_; rintro e wE ⟨rfl, bwE⟩)
      have hbelE : Below w.heap.size w wE := HBY2.out.trans (bwE.mono HBY2.out.size)
      have her2 := error_val (v := .iface 52 (.int .i64 6)) (k := 6) (.inr rfl) 6 wE (HL.out.below hbelE)
      rw [show ((6 : Int) == 6) = true from rfl] at her2
      have HPE : Hid (PS (TwoF b2) (TwoF b2) wr wE pb2 (poB 3 1 true (wholeP p) [] false)) := HPY.out.below HF2.out bwE
      clear her1 bwE hbelE
      go_upto_region 41 with (go_at_call 6; refine her2.mono ?_; rintro e wG ⟨rfl, bwG⟩)
      have hpsG := HPE.out.below HF2.out bwG
      have htk := tick_any (Plus (TwoF b2) wr wG) pb2 (poB 3 1 true (wholeP p) [] false) 60 wG hpsG.pool (hpsG.lt HF2.out)
      unfold Ticks ptrV at htk
      rw [(tick_60 (wholeP p)).1, (tick_60 (wholeP p)).2] at htk
      have htk2 : Calls Tryd.prog 8 #[.pointer (some ⟨pb2, 0, none⟩), .int .i64 60] wG fun e w' => e = .returned (.tuple #[.int .i64 0, .nilIface]) ∧ PS (TwoF b2) (TwoF b2) wr w' pb2 (poB 60 1 true (wholeP p) [] false) := by
        refine htk.mono ?_
        rintro e w' ⟨rfl, hpo, ht⟩
        exact ⟨rfl, hpsG.add (fun k hk => hk) (hpo.mono (fun k hk => .inl hk)) ht⟩
      clear her2 bwG hpsG htk
      go_upto_region 42 with (go_at_call 8; refine htk2.mono ?_; rintro e wH ⟨rfl, hpsH⟩)
      have htl := tick_any (Plus (TwoF b2) wr wH) pb2 (poB 60 1 true (wholeP p) [] false) 61 wH hpsH.pool (hpsH.lt HF2.out)
      unfold Ticks ptrV at htl
      rw [(tick_61 (wholeP p)).1, (tick_61 (wholeP p)).2] at htl
      have htl2 : Calls Tryd.prog 8 #[.pointer (some ⟨pb2, 0, none⟩), .int .i64 61] wH fun e w' => e = .returned (.tuple #[.int .i64 1, .nilIface]) ∧ Turn (TwoF b2) wr w' := by
        refine htl.mono ?_
        rintro e w' ⟨rfl, hpo, ht⟩
        refine ⟨rfl, hpsH.turn.andThen ht (fun i hi => ?_)⟩
        rcases hi with h | h
        · exact .inl h
        · exact .inr h.1
      clear htk2 htl hpsH
      go_upto_region 43 with (go_at_call 8; refine htl2.mono ?_; rintro e wI ⟨rfl, htI⟩)
      have HBZ : Hid (Below w.heap.size w wI) := Turn.below HBR.out (by have := HBR.out.size; omega) htI (fun k hk => by have := HSZ7.out; rcases hk with h | h <;> omega)
      clear htl2 htI
      go_wp2_with fail
      go_ret
      exact ⟨rfl, HBZ.out⟩
end Go.Proofs.YtkpbcdnkbokekaaDoor
