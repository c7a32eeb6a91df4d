/- What keep of package frag makes of a group: one piece more. -/
import Derived.Test.YtgodjaffmojhlaaDoorPoolFit2
import Derived.Test.YtgodjaffmojhlaaDoorPoolWhole
import Derived.Deep.RegionWith
namespace Go.Proofs.YtgodjaffmojhlaaDoor
open Go.RowKit Go.Maps
set_option linter.unusedVariables false

/-- Block b is a group that is not bad. -/
def KAt (w : World) (b : Nat) (bg : Int) (m : Nat) (t hd rc fn : Int) : Prop :=
  w.heap[b]? = some (.cells #[.int .i64 bg, .bool false, .map (some m), .int .i64 t, .int .i64 hd, .int .i64 rc, .int .i64 fn] 65 (0, 0))
section
variable {w w' : World} {b m : Nat} {bg t hd rc fn : Int}
theorem KAt.lt (h : KAt w b bg m t hd rc fn) : b < w.heap.size := heap_lt h
theorem KAt.below {B : Nat} (h : KAt w b bg m t hd rc fn) (hB : b < B) (hb : Below B w w') : KAt w' b bg m t hd rc fn := (hb.block b hB).trans h
theorem KAt.blk (h : KAt w b bg m t hd rc fn) (hb : w'.heap[b]? = w.heap[b]?) : KAt w' b bg m t hd rc fn := hb.trans h
theorem KAt.cells (h : KAt w b bg m t hd rc fn) : w.cell? ⟨b, 2, none⟩ = some (.map (some m)) ∧ w.cell? ⟨b, 3, none⟩ = some (.int .i64 t) ∧ w.cell? ⟨b, 4, none⟩ = some (.int .i64 hd) ∧ w.cell? ⟨b, 5, none⟩ = some (.int .i64 rc) ∧ w.cell? ⟨b, 6, none⟩ = some (.int .i64 fn) := by
  refine ⟨?_, ?_, ?_, ?_, ?_⟩ <;> (rw [cell_of_row w b _ _ _ _ h]; rfl)
theorem KAt.free (h : KAt w b bg m t hd rc fn) (j : Nat) : w.frozen? ⟨b, j, none⟩ = false := frozen_of_row w b j _ _ h
theorem KAt.put3 (h : KAt w b bg m t hd rc fn) (x : Int) : KAt (w.setCell ⟨b, 3, none⟩ (.int .i64 x)) b bg m x hd rc fn := heap_setCell_same w b 3 _ _ (.int .i64 x) h
theorem KAt.put4 (h : KAt w b bg m t hd rc fn) (x : Int) : KAt (w.setCell ⟨b, 4, none⟩ (.int .i64 x)) b bg m t x rc fn := heap_setCell_same w b 4 _ _ (.int .i64 x) h
theorem KAt.put5 (h : KAt w b bg m t hd rc fn) (x : Int) : KAt (w.setCell ⟨b, 5, none⟩ (.int .i64 x)) b bg m t hd x fn := heap_setCell_same w b 5 _ _ (.int .i64 x) h
theorem KAt.put6 (h : KAt w b bg m t hd rc fn) (x : Int) : KAt (w.setCell ⟨b, 6, none⟩ (.int .i64 x)) b bg m t hd rc x := heap_setCell_same w b 6 _ _ (.int .i64 x) h
theorem KAt.drewN (h : KAt w b bg m t hd rc fn) (n : Nat) : KAt (w.drewN n) b bg m t hd rc fn := h
end
/-- What keep has made of the first part: the least Ttl. -/
structure Kept (gb m : Nat) (bg t hd rc fn : Int) (l : List (Lit × Value)) (p : Pk) (a : Option Addr) (L c : Nat) (w : World) (W : World) : Prop where
  grp : KAt W gb bg m t hd rc fn
  map : MapIs Tryd.prog 3 W m l
  box : PkAt W w.heap.size p (.slice a L c)
  turn : Turn (fun k => k = gb ∨ k = m) w W
  size : w.heap.size < W.heap.size
/-- .. and of the second: the piece is in the map. -/
structure KeptB (gb m : Nat) (bg t hd rc fn : Int) (l : List (Lit × Value)) (p : Pk) (a : Option Addr) (L c : Nat) (v : Value) (w : World) (W : World) : Prop where
  grp : KAt W gb bg m t hd rc fn
  map : MapIs Tryd.prog 3 W m l
  box : PkAt W w.heap.size p (.slice a L c)
  own : OwnB W w.heap.size v p.body
  turn : Turn (fun k => k = gb ∨ k = m) w W
theorem KeptB.only {gb m : Nat} {bg t hd rc fn t' hd' rc' fn' : Int} {l : List (Lit × Value)} {p : Pk} {a : Option Addr} {L c : Nat} {v : Value} {w W W' : World} (h : KeptB gb m bg t hd rc fn l p a L c v w W) (hg : KAt W' gb bg m t' hd' rc' fn') (o : Only gb W W') (h1 : gb < w.heap.size) (h2 : gb ≠ m) :
    KeptB gb m bg t' hd' rc' fn' l p a L c v w W' :=
  ⟨hg, h.map.block (o.block m (Ne.symm h2)), h.box.only (by omega) o, h.own.only (fun e => by have := (h.own.1.lt _ e).1; omega) o, h.turn.trans (Turn.of_only o (.inl rfl))⟩
set_option maxRecDepth 100000 in
set_option maxHeartbeats 8000000 in
theorem keep_raw (gb m : Nat) (bg t hd rc fn : Int) (l : List (Lit × Value)) (p : Pk) (bv : Value) (w : World) (hk : KAt w gb bg m t hd rc fn) (hm : MapIs Tryd.prog 3 w m l) (hb : Bytes w bv p.body)
    (hp : 0 ≤ p.pos ∧ p.pos ≤ 32767) (hL : p.body.length ≤ 4000) (hh : 0 ≤ hd ∧ hd ≤ 4000) (hr : 0 ≤ rc ∧ rc ≤ 4000) (hl : l.length ≤ 4000) (hne : gb ≠ m) (hbo : ∀ b off len cap, bv = .slice (some ⟨b, off, none⟩) len cap → 0 < len → b ≠ gb ∧ b ≠ m) :
    Calls Tryd.prog 24 #[ptrV gb, pkV p bv] w fun e w' => ∃ v, e = .returned (.tuple #[]) ∧ KAt w' gb bg m (if l = [] ∨ p.ttl < t then p.ttl else t) (hd + (p.body.length : Int)) (max rc (p.pos * 8 + (p.body.length : Int))) (if p.more then fn else max rc (p.pos * 8 + (p.body.length : Int))) ∧
      MapIs Tryd.prog 3 w' m ((.int .i64 p.pos, v) :: l.filter fun x => !x.1.sameKey (.int .i64 p.pos)) ∧ OwnB w' w.heap.size v p.body ∧ Turn (fun k => k = gb ∨ k = m) w w' := by
  have hbox := pkBoxed w p bv hb
  obtain ⟨a, c, hbv⟩ := len_body hb
  subst hbv
  obtain ⟨L, hLe⟩ : ∃ L, p.body.length = L := ⟨_, rfl⟩
  have HLE : Hid (p.body.length = L) := hLe
  have B1 : Below w.heap.size w (w.alloc (.cells #[.int .i64 p.kind, .int .i64 p.ttl, .int .i64 p.ident, .int .i64 p.src, .int .i64 p.dst, .int .i64 p.pos, .bool p.more, .slice a L c] 40)) := (Below.refl _ _).alloc (Nat.le_refl _) _
  have hP1 := PkAt.new w p (.slice a L c)
  have hs1 : w.heap.size < (w.alloc (.cells #[.int .i64 p.kind, .int .i64 p.ttl, .int .i64 p.ident, .int .i64 p.src, .int .i64 p.dst, .int .i64 p.pos, .bool p.more, .slice a L c] 40)).heap.size := by simp
  have K1 : Kept gb m bg t hd rc fn l p a L c w (w.alloc (.cells #[.int .i64 p.kind, .int .i64 p.ttl, .int .i64 p.ident, .int .i64 p.src, .int .i64 p.dst, .int .i64 p.pos, .bool p.more, .slice a L c] 40)) := ⟨hk.below hk.lt B1, hm.block (B1.block m hm.lt), hP1, Turn.of_below B1 _, hs1⟩
  have hB1 : Bytes w (.slice a L c) p.body := by rw [← hLe]; exact hb
  have HBW : Hid (Bytes w (.slice a L c) p.body) := hB1
  have HBO : Hid (∀ b off len cap, Value.slice a L c = .slice (some ⟨b, off, none⟩) len cap → 0 < len → b ≠ gb ∧ b ≠ m) := by rw [← hLe]; exact hbo
  have hgl := hk.lt
  have hml := hm.lt
  rw [hLe] at hL ⊢
  unfold ptrV pkV
  clear hbox hb hB1 hLe hk hm hP1 hbo B1 hs1
  obtain ⟨T, HT⟩ : ∃ T, Hid (T = if l = [] ∨ p.ttl < t then p.ttl else t) := ⟨_, rfl⟩
  rw [← HT.out]
  obtain ⟨RC, HRC⟩ : ∃ RC, Hid (RC = max rc (p.pos * 8 + (L : Int))) := ⟨_, rfl⟩
  rw [← HRC.out]
  obtain ⟨FN, HFN⟩ : ∃ FN, Hid (FN = if p.more then fn else RC) := ⟨_, rfl⟩
  rw [← HFN.out]
  have HR2 : Hid (RC = if rc ≤ p.pos * 8 + (L : Int) then p.pos * 8 + (L : Int) else rc) := by
    show RC = if rc ≤ p.pos * 8 + (L : Int) then p.pos * 8 + (L : Int) else rc
    rw [HRC.out, Int.max_def]
  go_enter Tryd.func24, Tryd.ntmps24
  go_upto_region 1 with fail
  obtain ⟨W1, hW1⟩ : ∃ W1, w.alloc (.cells #[.int .i64 p.kind, .int .i64 p.ttl, .int .i64 p.ident, .int .i64 p.src, .int .i64 p.dst, .int .i64 p.pos, .bool p.more, .slice a L c] 40) = W1 := ⟨_, rfl⟩
  rw [hW1] at K1 ⊢
  clear hW1
  obtain ⟨N, hN⟩ : ∃ N, l.length = N := ⟨_, rfl⟩
  have HN : Hid (l.length = N) := hN
  go_cut [18] (fun x ww => x = .bool (decide (l = [] ∨ p.ttl < t)) ∧ Same W1 ww)
  case first =>
    obtain ⟨g2, g3, g4, g5, g6⟩ := K1.grp.cells
    obtain ⟨_, x1, _, _, _, x5, x6, x7⟩ := K1.box.cells
    have hlen := fun ty => K1.map.len Tryd.underlying63 ty
    rw [hN] at hlen
    have hlenD : ∀ ty, (Builtin.len_ #[63] ty #[.map (some m)]).run Tryd.prog W1.drew = .ok (.int .i64 (N : Int)) W1.drew := fun ty => by
      have hmD : MapIs Tryd.prog 3 W1.drew m l := K1.map.block rfl
      have h1 := hmD.len Tryd.underlying63 ty
      rw [hN] at h1; exact h1
    have hS : W1.cell? ⟨gb, 2, none⟩ = some (.map (some m)) ∧ W1.cell? ⟨w.heap.size, 1, none⟩ = some (.int .i64 p.ttl) ∧ W1.cell? ⟨gb, 3, none⟩ = some (.int .i64 t) ∧ (∀ ty, (Builtin.len_ #[63] ty #[.map (some m)]).run Tryd.prog W1 = .ok (.int .i64 (N : Int)) W1) := ⟨g2, x1, g3, hlen⟩
    have hSD : W1.drew.cell? ⟨gb, 2, none⟩ = some (.map (some m)) ∧ W1.drew.cell? ⟨w.heap.size, 1, none⟩ = some (.int .i64 p.ttl) ∧ W1.drew.cell? ⟨gb, 3, none⟩ = some (.int .i64 t) ∧ (∀ ty, (Builtin.len_ #[63] ty #[.map (some m)]).run Tryd.prog W1.drew = .ok (.int .i64 (N : Int)) W1.drew) := ⟨g2, x1, g3, hlenD⟩
    clear hlen hlenD
    by_cases h0 : N = 0
    · have hl0 : l = [] := List.eq_nil_of_length_eq_zero (by omega)
      have eN : (N : Int) = 0 := by omega
      rw [eN] at hS hSD
      have HD : Hid (decide (l = [] ∨ p.ttl < t) = true) := decide_eq_true (.inl hl0)
      clear h0 hl0 hN eN
      obtain ⟨_, _, _, hl1⟩ := hS
      obtain ⟨_, _, _, hl2⟩ := hSD
      go_region
      all_goals
        go_wp2_with fail
        go_meet
        case rel => exact ⟨by rw [HD.out], by first | exact ⟨1, rfl⟩ | exact ⟨0, rfl⟩⟩
    · have e0 : ((N : Int) == 0) = false := by rw [beq_eq_false_iff_ne]; omega
      have e0' : ¬ (N : Int) = 0 := by omega
      have hl0 : ¬ l = [] := fun e => h0 (by rw [← hN, e]; rfl)
      by_cases ht : p.ttl < t
      · have HD : Hid (decide (l = [] ∨ p.ttl < t) = true) := decide_eq_true (.inr ht)
        clear h0 hl0 hN
        go_region_held3 (fun X => X.cell? ⟨gb, 2, none⟩ = some (.map (some m)) ∧ X.cell? ⟨w.heap.size, 1, none⟩ = some (.int .i64 p.ttl) ∧ X.cell? ⟨gb, 3, none⟩ = some (.int .i64 t) ∧ (∀ ty, (Builtin.len_ #[63] ty #[.map (some m)]).run Tryd.prog X = .ok (.int .i64 (N : Int)) X)) (with_reducible first | assumption | go_keep) (fail)
        go_wp2_with fail
        go_meet
        case rel => exact ⟨by rw [HD.out], ⟨1, rfl⟩⟩
      · have HD : Hid (decide (l = [] ∨ p.ttl < t) = false) := decide_eq_false (fun h => h.elim hl0 ht)
        clear h0 hl0 hN
        go_region_held3 (fun X => X.cell? ⟨gb, 2, none⟩ = some (.map (some m)) ∧ X.cell? ⟨w.heap.size, 1, none⟩ = some (.int .i64 p.ttl) ∧ X.cell? ⟨gb, 3, none⟩ = some (.int .i64 t) ∧ (∀ ty, (Builtin.len_ #[63] ty #[.map (some m)]).run Tryd.prog X = .ok (.int .i64 (N : Int)) X)) (with_reducible first | assumption | go_keep) (fail)
        go_wp2_with fail
        go_meet
        case rel => exact ⟨by rw [HD.out], ⟨1, rfl⟩⟩
  case rest =>
    obtain ⟨hx, hs⟩ := hcut
    subst hx
    have K2 : Kept gb m bg t hd rc fn l p a L c w wc := by
      obtain ⟨q, rfl⟩ := hs
      exact ⟨K1.grp, K1.map.block rfl, K1.box, K1.turn.drewN q, K1.size⟩
    clear hs K1
    go_upto_if 18 with fail
    go_cut [21] (fun _ ww => Kept gb m bg T hd rc fn l p a L c w ww)
    case first =>
      by_cases hq : l = [] ∨ p.ttl < t
      · rw [decide_eq_true hq]
        have HTT : Hid (T = p.ttl) := by show T = p.ttl; rw [HT.out, if_pos hq]
        obtain ⟨g2, g3, g4, g5, g6⟩ := K2.grp.cells
        obtain ⟨_, x1, _, _, _, _, _, _⟩ := K2.box.cells
        have f3 := K2.grp.free 3
        clear hq
        go_wp2_with fail
        go_meet
        case rel =>
          have hp3 := K2.grp.put3 p.ttl
          have o3 : Only gb wc (wc.setCell ⟨gb, 3, none⟩ (.int .i64 p.ttl)) := (Only.refl _ _).setCell _ _
          rw [HTT.out]
          exact ⟨hp3, K2.map.block (o3.block m (Ne.symm hne)), K2.box.only (by omega) o3, K2.turn.trans (Turn.of_only o3 (.inl rfl)), by rw [o3.size]; exact K2.size⟩
      · rw [decide_eq_false hq]
        have HTT : Hid (T = t) := by show T = t; rw [HT.out, if_neg hq]
        clear hq
        go_wp2_with fail
        go_meet
        case rel => rw [HTT.out]; exact K2
    case rest =>
      have K3 := hcut
      clear hcut K2
      obtain ⟨g2, g3, g4, g5, g6⟩ := K3.grp.cells
      obtain ⟨_, _, _, _, _, x5, x6, x7⟩ := K3.box.cells
      have hb3 : Bytes wc (.slice a L c) p.body := by
        rcases HBW.out with h | ⟨b, off, len, cap, h1, h2, h3, h4, h5, h6⟩
        · exact .inl h
        · by_cases hl0 : len = 0
          · subst hl0
            exact .inl ⟨List.eq_nil_of_length_eq_zero h5, _, _, h1, fun h => by cases h⟩
          · obtain ⟨n1, n2⟩ := HBO.out b off len cap h1 (by omega)
            refine .inr ⟨b, off, len, cap, h1, h2, h3, h4, h5, fun i hi => ?_, h6.2⟩
            have hlt := h6.lt (by omega)
            rw [World.cell?_of_block (w := w) (K3.turn.block b hlt (fun h => h.elim n1 n2))]
            exact h6.1 i hi
      have hfr := ffresh_any (.slice a L c) p.body wc.drew (hb3.drewN 1) (by rw [HLE.out]; omega)
      have hwfp : (Lit.int .i64 p.pos).wf = true := wf_small hp.1 (by omega)
      have hS : wc.cell? ⟨gb, 2, none⟩ = some (.map (some m)) ∧ wc.cell? ⟨w.heap.size, 5, none⟩ = some (.int .i64 p.pos) ∧ wc.cell? ⟨w.heap.size, 7, none⟩ = some (.slice a L c) := ⟨g2, x5, x7⟩
      have hneB : w.heap.size ≠ m := by omega
      go_upto_region 3 with fail
      go_region_held3 (fun X => X.cell? ⟨gb, 2, none⟩ = some (.map (some m)) ∧ X.cell? ⟨w.heap.size, 5, none⟩ = some (.int .i64 p.pos) ∧ X.cell? ⟨w.heap.size, 7, none⟩ = some (.slice a L c)) (with_reducible first | assumption | go_keep) (first
        | (go_at_call 20; refine hfr.mono ?_; rintro e w4 ⟨v4, rfl, own4, bw4⟩; obtain ⟨a4, c4, hv4⟩ := len_body' (own4.bytes (by rw [HLE.out]; omega)) HLE.out; subst hv4; have bw4' : Below wc.heap.size wc w4 := bel4R wc bw4; have k4 := K3.grp.below K3.grp.lt bw4'; have p4 := K3.box.below K3.box.lt bw4'; have m4 : MapIs Tryd.prog 3 w4 m l := K3.map.block (bw4'.block m K3.map.lt); obtain ⟨w5, hrun, m5, hg5⟩ := m4.store lawI Tryd.underlying63 (by rw [HN.out]; unfold maxLen; omega) (keyOf_int_mk Tryd.underlying3 hwfp) (.slice a4 L c4); have k5 := k4.blk (hg5.block gb k4.lt (by simpa using hne)); have p5 := p4.grown hg5 (by simpa using hneB.symm); have hS4 : w4.cell? ⟨gb, 2, none⟩ = some (.map (some m)) ∧ w4.cell? ⟨w.heap.size, 5, none⟩ = some (.int .i64 p.pos) ∧ w4.cell? ⟨w.heap.size, 7, none⟩ = some (.slice a L c) := ⟨k4.cells.1, p4.cells.2.2.2.2.2.1, p4.cells.2.2.2.2.2.2.2⟩; have hS5 : w5.cell? ⟨gb, 2, none⟩ = some (.map (some m)) ∧ w5.cell? ⟨w.heap.size, 5, none⟩ = some (.int .i64 p.pos) ∧ w5.cell? ⟨w.heap.size, 7, none⟩ = some (.slice a L c) := ⟨k5.cells.1, p5.cells.2.2.2.2.2.1, p5.cells.2.2.2.2.2.2.2⟩))
      have hKS := K3.size
      have K5 : KeptB gb m bg T hd rc fn ((.int .i64 p.pos, .slice a4 L c4) :: l.filter fun x => !x.1.sameKey (.int .i64 p.pos)) p a L c (.slice a4 L c4) w w5 := by
        have own5 : OwnB w5 wc.heap.size (.slice a4 L c4) p.body := own4.apart hg5 (fun k h1 h2 => by
          have h3 : wc.drew.heap.size ≤ k := (own4.1.lt k h1).1
          have h4 : wc.drew.heap.size = wc.heap.size := rfl
          cases h2
          omega)
        exact ⟨k5, m5, p5, own5.baseLe (by omega), (K3.turn.trans (Turn.of_below bw4' _)).trans (Turn.of_grown hg5 (fun g e => by cases e; exact .inr rfl))⟩
      have wr4 : IntKind.i64.wrap (hd + (L : Int)) = hd + (L : Int) := by rw [IntKind.wrap_i64]; omega
      have wr5 : IntKind.i64.wrap (p.pos * 8) = p.pos * 8 := by rw [IntKind.wrap_i64]; omega
      have wr6 : IntKind.i64.wrap (p.pos * 8 + (L : Int)) = p.pos * 8 + (L : Int) := by rw [IntKind.wrap_i64]; omega
      clear hfr hS hS4 hS5 k4 p4 m4 hrun own4 bw4 bw4' K3 hb3 g2 g3 g4 g5 g6 x5 x6 x7 hg5 k5 p5 m5 hKS
      go_wp2_with fail
      go_cut [40] (fun _ ww => KeptB gb m bg T (hd + (L : Int)) rc fn ((.int .i64 p.pos, .slice a4 L c4) :: l.filter fun x => !x.1.sameKey (.int .i64 p.pos)) p a L c (.slice a4 L c4) w ww)
      case first =>
        obtain ⟨g2, g3, g4, g5, g6⟩ := K5.grp.cells
        obtain ⟨_, _, _, _, _, y5, y6, y7⟩ := K5.box.cells
        have f4 := K5.grp.free 4
        go_region
        all_goals
          go_wp2_with fail
          go_meet
          case rel =>
            first
              | exact K5.only ((K5.grp.put4 (hd + (L : Int))).drewN 1) (((Only.refl _ _).setCell _ _).drewN 1) hgl hne
              | exact K5.only (K5.grp.put4 (hd + (L : Int))) ((Only.refl _ _).setCell _ _) hgl hne
      case rest =>
        have K6 := hcut
        clear hcut K5
        go_wp2_with fail
        go_cut [55] (fun _ ww => KeptB gb m bg T (hd + (L : Int)) RC fn ((.int .i64 p.pos, .slice a4 L c4) :: l.filter fun x => !x.1.sameKey (.int .i64 p.pos)) p a L c (.slice a4 L c4) w ww)
        case first =>
          obtain ⟨g2, g3, g4, g5, g6⟩ := K6.grp.cells
          obtain ⟨_, _, _, _, _, y5, y6, y7⟩ := K6.box.cells
          have f5 := K6.grp.free 5
          by_cases hmx : rc < p.pos * 8 + (L : Int)
          all_goals
            go_region
            all_goals
              go_wp2_with fail
              go_meet
              case rel =>
                first
                  | (have e : RC = p.pos * 8 + (L : Int) := by (have h := HR2.out; split at h <;> omega)
                     rw [e]; exact K6.only ((K6.grp.put5 (p.pos * 8 + (L : Int))).drewN 1) (((Only.refl _ _).setCell _ _).drewN 1) hgl hne)
                  | (have e : RC = rc := by (have h := HR2.out; split at h <;> omega)
                     rw [e]; exact K6.only ((K6.grp.put5 rc).drewN 1) (((Only.refl _ _).setCell _ _).drewN 1) hgl hne)
        case rest =>
          have K7 := hcut
          clear hcut K6
          obtain ⟨g2, g3, g4, g5, g6⟩ := K7.grp.cells
          obtain ⟨_, _, _, _, _, y5, y6, y7⟩ := K7.box.cells
          have f6 := K7.grp.free 6
          rcases hmo : p.more with _ | _
          · have HMO : Hid (FN = RC) := by show FN = RC; rw [HFN.out, hmo]; rfl
            rw [hmo] at y6
            clear hmo
            go_wp2_with fail
            go_end0
            have K8 := K7.only (K7.grp.put6 RC) ((Only.refl _ _).setCell _ _) hgl hne
            have hK8 := K8.grp
            rw [HMO.out]
            first
              | exact ⟨.slice a4 L c4, rfl, hK8, K8.map, K8.own, K8.turn⟩
              | exact ⟨rfl, hK8, .slice a4 L c4, K8.map, K8.own, K8.turn⟩
          · have HMO : Hid (FN = fn) := by show FN = fn; rw [HFN.out, hmo]; rfl
            rw [hmo] at y6
            clear hmo
            go_wp2_with fail
            go_end0
            rw [HMO.out]
            first
              | exact ⟨.slice a4 L c4, rfl, K7.grp, K7.map, K7.own, K7.turn⟩
              | exact ⟨rfl, K7.grp, .slice a4 L c4, K7.map, K7.own, K7.turn⟩
end Go.Proofs.YtgodjaffmojhlaaDoor
