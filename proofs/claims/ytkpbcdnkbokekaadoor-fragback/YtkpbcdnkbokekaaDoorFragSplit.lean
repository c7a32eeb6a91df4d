/- What fresh and Split of package frag return, for every input: a copy of the bytes; the pieces of a packet, or why there are none. -/
import Derived.Test.YtkpbcdnkbokekaaDoorPkRow
import Derived.Test.YtkpbcdnkbokekaaDoorFragMath
namespace Go.Proofs.YtkpbcdnkbokekaaDoor
open Go.RowKit
set_option linter.unusedVariables false

set_option maxHeartbeats 1000000 in
theorem ffresh_any (v : Value) (zs : List Int) (w : World) (h : Bytes w v zs) (hl : zs.length ≤ 140737488355328) :
    Calls Tryd.prog 22 #[v] w fun e w' => ∃ v', e = .returned v' ∧ OwnB w' w.heap.size v' zs ∧ Below w.heap.size w w' := by
  have hn := OwnB.nil w w.heap.size
  go_enter Tryd.func22, Tryd.ntmps22
  go_wp2_with (at_builtin; refine wpList_append_bytes rfl (.const (.slice none 0 0)) (.tmp 3) rfl w.heap.size _ [] rfl hn _ zs rfl h (by simpa using hl) (Nat.le_refl _) ?_; intro v1 w1 own1 grow1)
  go_ret
  rw [List.nil_append] at own1
  exact ⟨_, rfl, own1, (Below.refl _ _).grown grow1 (Nat.le_refl _) (fun k hk => by cases hk)⟩

/-- What Split's answer is. -/
def Splits (p : Pk) (size : Int) (w : World) (e : Ending) (w' : World) : Prop :=
  ∃ v qs, e = .returned (.tuple #[v, errV (splitE p size)]) ∧ qs.map Prod.fst = splitL p size ∧ OwnK w' w.heap.size v qs ∧ Bods w' w.heap.size v qs ∧ Below w.heap.size w w'
theorem splits_no {p : Pk} {size : Int} {w w' : World} {n : Int} (hn : ¬ n = 0) (hE : splitE p size = n) (hw : Below w.heap.size w w') : Splits p size w (.returned (.tuple #[.slice none 0 0, .iface 52 (.int .i64 n)])) w' := by
  refine ⟨.slice none 0 0, [], ?_, ?_, OwnK.nil _ _, Bods.nil _ _ _, hw⟩
  · rw [hE]; unfold errV; rw [if_neg hn]
  · unfold splitL; rw [hE, if_neg hn]; rfl

set_option maxHeartbeats 4000000 in
theorem split_bad (k t i s d o : Int) (m : Bool) (bv : Value) (size : Int) (w : World) (h : size < 8 ∨ 4000 < size) :
    Calls Tryd.prog 13 #[.agg #[.int .i64 k, .int .i64 t, .int .i64 i, .int .i64 s, .int .i64 d, .int .i64 o, .bool m, bv], .int .i64 size] w fun e w' => e = .returned (.tuple #[.slice none 0 0, .iface 52 (.int .i64 1)]) ∧ Below w.heap.size w w' := by
  by_cases h8 : size < 8
  · go_enter Tryd.func13, Tryd.ntmps13
    go_wp2_with fail
    go_ret2
    exact ⟨rfl, (Below.refl _ _).alloc (Nat.le_refl _) _⟩
  · have h4 : 4000 < size := by omega
    go_enter Tryd.func13, Tryd.ntmps13
    go_wp2_with fail
    go_ret2
    exact ⟨rfl, (Below.refl _ _).alloc (Nat.le_refl _) _⟩
set_option maxHeartbeats 4000000 in
theorem split_err (p : Pk) (bv : Value) (size : Int) (w : World) (hb : Bytes w bv p.body) (h8 : 8 ≤ size) (h4 : size ≤ 4000) (he : ¬ pkErr p = 0) :
    Calls Tryd.prog 13 #[pkV p bv, .int .i64 size] w fun e w' => e = .returned (.tuple #[.slice none 0 0, .iface 52 (.int .i64 (pkErr p))]) ∧ Below w.heap.size w w' := by
  have i1 : ¬ size < 8 := by omega
  have i2 : ¬ 4000 < size := by omega
  obtain ⟨a, c, rfl⟩ := len_body hb
  have hbel : Below w.heap.size w (w.alloc (.cells #[.int .i64 p.kind, .int .i64 p.ttl, .int .i64 p.ident, .int .i64 p.src, .int .i64 p.dst, .int .i64 p.pos, .bool p.more, .slice a p.body.length c] 40)) := (Below.refl _ _).alloc (Nat.le_refl _) _
  have hck := check_any p _ _ (hb.below (Nat.le_refl _) hbel)
  unfold pkV at hck ⊢
  rw [show errV (pkErr p) = .iface 52 (.int .i64 (pkErr p)) by unfold errV; rw [if_neg he]] at hck
  have HB : Hid _ := hbel
  generalize pkErr p = m at hck he ⊢
  clear hbel hb h8 h4 he
  go_enter Tryd.func13, Tryd.ntmps13
  go_wp2_with (go_at_call 21; refine hck.mono ?_; rintro e w3 ⟨rfl, bw3⟩)
  go_ret2
  exact ⟨rfl, HB.out.trans (bw3.mono HB.out.size)⟩

theorem pkBoxed (w : World) (p : Pk) (bv : Value) (hb : Bytes w bv p.body) : ∀ w1, Below (w.alloc (.cells #[.int .i64 p.kind, .int .i64 p.ttl, .int .i64 p.ident, .int .i64 p.src, .int .i64 p.dst, .int .i64 p.pos, .bool p.more, bv] 40)).heap.size (w.alloc (.cells #[.int .i64 p.kind, .int .i64 p.ttl, .int .i64 p.ident, .int .i64 p.src, .int .i64 p.dst, .int .i64 p.pos, .bool p.more, bv] 40)) w1 →
    PkAt w1 w.heap.size p bv ∧ Bytes w1 bv p.body ∧ Below w.heap.size w w1 ∧ w.heap.size + 1 ≤ w1.heap.size := by
  intro w1 h
  have hP := PkAt.new w p bv
  have hB : Below w.heap.size w (w.alloc (.cells #[.int .i64 p.kind, .int .i64 p.ttl, .int .i64 p.ident, .int .i64 p.src, .int .i64 p.dst, .int .i64 p.pos, .bool p.more, bv] 40)) := (Below.refl _ _).alloc (Nat.le_refl _) _
  refine ⟨hP.below hP.lt h, (hb.alloc _).below (Nat.le_refl _) h, hB.trans (h.mono hB.size), ?_⟩
  have := h.size; simpa using this
theorem len_body' {w : World} {v : Value} {zs : List Int} {n : Nat} (h : Bytes w v zs) (hn : zs.length = n) : ∃ a c, v = .slice a n c := by subst hn; exact len_body h
theorem bytes_take {w : World} {b off len cap : Nat} {zs : List Int} (n : Nat) (h : Row w b off zs) (hl : len ≤ cap) (hm : cap ≤ maxLen) (h62 : len < 2 ^ 62) (hz : zs.length = len) (hn : n ≤ len) : Bytes w (.slice (some ⟨b, off, none⟩) n cap) (zs.take n) :=
  .inr ⟨b, off, n, cap, rfl, by omega, hm, by omega, by simp; omega, by have := h.part 0 n (by omega); simpa using this⟩
theorem PkAt.put5 {w : World} {b : Nat} {p : Pk} {bv : Value} (h : PkAt w b p bv) (o : Int) : PkAt (w.setCell ⟨b, 5, none⟩ (.int .i64 o)) b { p with pos := o } bv := by
  have e := heap_setCell_same w b 5 _ _ (.int .i64 o) h
  rw [set8_5] at e; exact e
theorem PkAt.put6 {w : World} {b : Nat} {p : Pk} {bv : Value} (h : PkAt w b p bv) (m : Bool) : PkAt (w.setCell ⟨b, 6, none⟩ (.bool m)) b { p with more := m } bv := by
  have e := heap_setCell_same w b 6 _ _ (.bool m) h
  rw [set8_6] at e; exact e
theorem PkAt.put7 {w : World} {b : Nat} {p : Pk} {bv : Value} (h : PkAt w b p bv) (v : Value) (zs : List Int) : PkAt (w.setCell ⟨b, 7, none⟩ v) b { p with body := zs } v := by
  have e := heap_setCell_same w b 7 _ _ v h
  rw [set8_7] at e; exact e
theorem PkAt.grown {w w' : World} {b : Nat} {p : Pk} {bv : Value} {row : Option Nat} (h : PkAt w b p bv) (hg : w.grownBy w' row) (hne : row ≠ some b) : PkAt w' b p bv := by
  unfold PkAt; rw [hg.block b h.lt (fun e => hne e.symm)]; exact h
theorem Bods.off {w w' : World} {base g : Nat} {v : Value} {qs : List (Pk × Value)} (h : Bods w base v qs) (hne : ∀ q ∈ qs, q.2.ownBlock ≠ some g) (ho : Only g w w') : Bods w' base v qs := fun q hq => ⟨(h q hq).1.only (hne q hq) ho, (h q hq).2⟩
theorem Bods.lt {w : World} {base : Nat} {v : Value} {qs : List (Pk × Value)} (h : Bods w base v qs) : ∀ q ∈ qs, q.2.ownBlock ≠ some w.heap.size := fun q hq e => by have := ((h q hq).1.1.lt _ e).2; omega
/-- The loop's state: k pieces are cut off. -/
structure Cut (p : Pk) (s c : Nat) (w : World) (k : Nat) (v : Value) (wr : World) : Prop where
  row : ∃ qs, OwnK wr (w.heap.size + 1) v qs ∧ Bods wr (w.heap.size + 1) v qs ∧ qs.map Prod.fst = (List.range k).map (pcK p s)
  var : ∃ bk, PkAt wr w.heap.size (lsK p s k) bk ∧ Bytes w bk (p.body.drop (k * c))
  fit : p.pos + (k : Int) * s ≤ 32767
  below : Below w.heap.size w wr
  size : w.heap.size + 1 ≤ wr.heap.size
set_option maxRecDepth 100000 in
set_option maxHeartbeats 8000000 in
theorem split_go (p : Pk) (bv : Value) (S : Nat) (w : World) (hb : Bytes w bv p.body) (h8 : 8 ≤ S) (h4 : S ≤ 4000) (he : pkErr p = 0) :
    Calls Tryd.prog 13 #[pkV p bv, .int .i64 (S : Int)] w (Splits p (S : Int) w) := by
  have i1 : ¬ (S : Int) < 8 := by omega
  have i2 : ¬ 4000 < (S : Int) := by omega
  obtain ⟨s, hs⟩ : ∃ s, s = S / 8 := ⟨_, rfl⟩
  have HS : Hid (s = S / 8) := hs
  have hs1 : 1 ≤ s := by omega
  have hs2 : s ≤ 500 := by omega
  obtain ⟨c, hc⟩ : ∃ c, c = 8 * s := ⟨_, rfl⟩
  have HC : Hid (c = 8 * s) := hc
  have hq : (S : Int).tdiv 8 = (s : Int) := by rw [Int.tdiv_eq_ediv_of_nonneg (by omega)]; omega
  have hm : (s : Int) * 8 = (c : Int) := by omega
  have hc1 : c ≤ S := by omega
  have hc8 : 8 ≤ c := by omega
  have HE : Hid (pkErr p = 0) := he
  have hpos := (of_pkIn (pkErr_ok he).1).2.2.2.2.2
  have hlen := (pkErr_ok he).2
  have hbox := pkBoxed w p bv hb
  have HBW : Hid (Bytes w bv p.body) := hb
  have hck := check_any p _ _ (hb.alloc (.cells #[.int .i64 p.kind, .int .i64 p.ttl, .int .i64 p.ident, .int .i64 p.src, .int .i64 p.dst, .int .i64 p.pos, .bool p.more, bv] 40))
  rw [show errV (pkErr p) = .nilIface by unfold errV; rw [if_pos he]] at hck
  unfold pkV at hck ⊢
  obtain ⟨a, c0, hbv⟩ := len_body hb
  subst hbv
  have HX : Hid (∀ w1, Below (w.alloc (.cells #[.int .i64 p.kind, .int .i64 p.ttl, .int .i64 p.ident, .int .i64 p.src, .int .i64 p.dst, .int .i64 p.pos, .bool p.more, .slice a p.body.length c0] 40)).heap.size (w.alloc (.cells #[.int .i64 p.kind, .int .i64 p.ttl, .int .i64 p.ident, .int .i64 p.src, .int .i64 p.dst, .int .i64 p.pos, .bool p.more, .slice a p.body.length c0] 40)) w1 →
    PkAt w1 w.heap.size p (.slice a p.body.length c0) ∧ Bytes w1 (.slice a p.body.length c0) p.body ∧ Below w.heap.size w w1 ∧ w.heap.size + 1 ≤ w1.heap.size) := hbox
  clear hb he hs hc hbox
  go_enter Tryd.func13, Tryd.ntmps13
  go_upto_region 6 with (go_at_call 21; refine hck.mono ?_; rintro e w1 ⟨rfl, bw1⟩)
  obtain ⟨hP2, hb2, bel2, hsz⟩ := HX.out w1 bw1
  have hcut : Cut p s c w 0 (.slice none 0 0) w1 := ⟨⟨[], OwnK.nil _ _, Bods.nil _ _ _, rfl⟩, ⟨_, hP2.of rfl rfl rfl rfl rfl (by simp [lsK]) rfl, by simpa using HBW.out⟩, by simp; omega, bel2, hsz⟩
  have HCUT : Hid (Cut p s c w 0 (.slice none 0 0) w1) := hcut
  clear hck bw1 hP2 hb2 bel2 hsz HX hcut
  go_wp2_with fail
  go_loopw [8] (fun v wr => ∃ k : Nat, k ≤ fK p.body.length S ∧ Cut p s c w k v wr) (fun _ wr => match wr.cell? ⟨w.heap.size, 7, none⟩ with | some (.slice _ n _) => n | _ => 0)
  case atStart => exact ⟨0, Nat.zero_le _, HCUT.out⟩
  case round =>
    obtain ⟨k, hk, hcut⟩ := hrel
    clear HCUT
    have hfit := hcut.fit
    obtain ⟨bk, hpk, hbk⟩ := hcut.var
    obtain ⟨qs, hown, hbods, hqs⟩ := hcut.row
    have hbel := hcut.below
    have hsz := hcut.size
    obtain ⟨ak, ck, hbv⟩ := len_body hbk
    subst hbv
    have hfit0 : (0 : Int) ≤ (k : Int) * s := Int.mul_nonneg (by omega) (by omega)
    obtain ⟨P, hP⟩ : ∃ P, P = p.pos + (k : Int) * s := ⟨_, rfl⟩
    have hP0 : 0 ≤ P ∧ P ≤ 32767 := by omega
    obtain ⟨L, hL⟩ : ∃ L, (p.body.drop (k * c)).length = L := ⟨_, rfl⟩
    have HL : Hid ((p.body.drop (k * c)).length = L) := hL
    have hL4 : L ≤ 4000 := by rw [← hL, List.length_drop]; omega
    have HPP : Hid (P = p.pos + (k : Int) * s) := hP
    rw [hL] at hpk hbk
    have hpk' : PkAt wr w.heap.size { p with pos := P } (.slice ak L ck) := hpk.of rfl rfl rfl rfl rfl hP.symm rfl
    obtain ⟨d0, d1, d2, d3, d4, d5, d6, d7⟩ := hpk'.cells
    simp only at d0 d1 d2 d3 d4 d5 d6 d7
    have HK : Hid (k ≤ fK p.body.length S) := hk
    have d7K : Hid (wr.cell? ⟨w.heap.size, 7, none⟩ = some (.slice ak L ck)) := d7
    have HQS : Hid (qs.map Prod.fst = (List.range k).map (pcK p s)) := hqs
    by_cases hgo : S < L
    · have j1 : (S : Int) < (L : Int) := by omega
      rcases hbk with ⟨h0, _⟩ | ⟨b, off, len, cap, hv, g1, g2, g3, g4, g5⟩
      · exfalso; rw [h0] at hL; simp at hL; omega
      obtain ⟨rfl, rfl, rfl⟩ : ak = some ⟨b, off, none⟩ ∧ L = len ∧ ck = cap := by simpa using hv
      clear hv hP hL hpk hqs hcut hk
      have hcL : c ≤ L := by omega
      have jc : (c : Int) ≤ (ck : Int) := by omega
      have jc0 : (0 : Int) ≤ (c : Int) := by omega
      have hbb : b < w.heap.size := g5.lt (by omega)
      have hB0 : w.heap.size < wr.heap.size := by omega
      have hcap : ck ≤ 9223372036854775807 := by unfold maxLen at g2; omega
      have hkK : k < fK p.body.length S := by
        rw [fK_lt h8, ← HS.out, ← HC.out]
        have := HL.out; rw [List.length_drop] at this; omega
      have hk4 : k ≤ 500 := by have := fK_small (len := p.body.length) h8; omega
      have hql : qs.length ≤ 500 := by have := congrArg List.length HQS.out; simp at this; omega
      have HKK : Hid (k < fK p.body.length S) := hkK
      go_upto_region 11 with fail
      have hp2 := PkAt.new wr { p with pos := P, more := true } (.slice (some ⟨b, off, none⟩) L ck)
      simp only at hp2
      have bw2 : Below wr.heap.size wr (wr.alloc (.cells #[.int .i64 p.kind, .int .i64 p.ttl, .int .i64 p.ident, .int .i64 p.src, .int .i64 p.dst, .int .i64 P, .bool true, .slice (some ⟨b, off, none⟩) L ck] 40)) := (Below.refl _ _).alloc (Nat.le_refl _) _
      obtain ⟨w2, hw2⟩ : ∃ w2, wr.alloc (.cells #[.int .i64 p.kind, .int .i64 p.ttl, .int .i64 p.ident, .int .i64 p.src, .int .i64 p.dst, .int .i64 P, .bool true, .slice (some ⟨b, off, none⟩) L ck] 40) = w2 := ⟨_, rfl⟩
      rw [hw2] at hp2 bw2 ⊢
      have hg2 : wr.heap.size < w2.heap.size := hp2.lt
      obtain ⟨g, hg⟩ : ∃ g, g = wr.heap.size := ⟨_, rfl⟩
      rw [← hg] at hp2 ⊢
      have hP02 := hpk'.below hpk'.lt bw2
      have own2 := hown.below bw2
      have bods2 := hbods.below bw2
      have bel2 := hbel.trans (bw2.mono hbel.size)
      have hl2 : ∀ q ∈ qs, q.2.ownBlock ≠ some g := by rw [hg]; exact hbods.lt
      have hl2' : u8.ownBlock ≠ some g := fun e => by have := (hown.block _ e).2; omega
      have hul : ∀ x, u8.ownBlock = some x → w.heap.size + 1 ≤ x ∧ x < wr.heap.size := hown.block
      have HUL : Hid (∀ x, u8.ownBlock = some x → w.heap.size + 1 ≤ x ∧ x < wr.heap.size) := hul
      have HL2 : Hid (∀ q ∈ qs, q.2.ownBlock ≠ some g) := hl2
      have HL2' : Hid (u8.ownBlock ≠ some g) := hl2'
      have e7 := hP02.cells.2.2.2.2.2.2.2
      have htl : ((p.body.drop (k * c)).take c).length = c := by rw [List.length_take, g4]; omega
      have hfr := ffresh_any _ _ w2 (bytes_take c (g5.below hbb bel2) g1 g2 g3 g4 hcL) (by rw [htl]; omega)
      have HTL : Hid (((p.body.drop (k * c)).take c).length = c) := htl
      obtain ⟨zs, hzs⟩ : ∃ zs, zs = (p.body.drop (k * c)).take c := ⟨_, rfl⟩
      have HZS : Hid (zs = (p.body.drop (k * c)).take c) := hzs
      rw [← hzs] at hfr htl
      have HTZ : Hid (zs.length = c) := htl
      have HG4 : Hid ((p.body.drop (k * c)).length = L) := g4
      have HG5 : Hid (Row w b off (p.body.drop (k * c))) := g5
      have HG : Hid (g = wr.heap.size) := hg
      have hgB : w.heap.size < g := by omega
      rw [← hg] at hg2
      clear hg d0 d1 d2 d3 d4 d5 d6 d7 hw2 hzs htl hown hbods hpk' hul hl2 hl2' g4 g5 bw2
      go_upto_region 12 with (go_at_call 22; refine hfr.mono ?_; rintro e w3 ⟨v3, rfl, own3, bw3⟩; have hp3 := hp2.below hp2.lt bw3; have f7 := hp3.free 7; have c7 := hp3.cells.2.2.2.2.2.2.2; obtain ⟨a3, c3, hv3⟩ := len_body' (own3.bytes (by have := HTZ.out; omega)) HTZ.out; subst hv3)
      have hp4 := hp3.put7 (.slice a3 c c3) zs
      simp only at hp4
      have o4 : Only g w3 (w3.setCell ⟨g, 7, none⟩ (.slice a3 c c3)) := (Only.refl _ _).setCell _ _
      obtain ⟨w4, hw4⟩ : ∃ w4, w3.setCell ⟨g, 7, none⟩ (.slice a3 c c3) = w4 := ⟨_, rfl⟩
      rw [hw4] at hp4 o4 ⊢
      have hP04 := (hP02.below hP02.lt bw3).only (show w.heap.size ≠ g by omega) o4
      have own4 := (own2.below bw3).only HL2'.out o4
      have bods4 := (bods2.below bw3).off HL2.out o4
      have hb4 : OwnB w4 w2.heap.size (.slice a3 c c3) zs := own3.only (fun e => by have := (own3.1.lt _ e).1; omega) o4
      have bel4 := o4.below (show w.heap.size ≤ g by omega) (bel2.trans (bw3.mono bel2.size))
      have hsz4 : w2.heap.size ≤ w4.heap.size := by rw [o4.size]; exact bw3.size
      obtain ⟨x0, x1, x2, x3, x4, x5, x6, x7⟩ := hp4.cells
      simp only at x0 x1 x2 x3 x4 x5 x6 x7
      have hap : ∀ x, (Value.slice a3 c c3).ownBlock = some x → u8.ownBlock ≠ some x := fun x hx e => by have := (hb4.1.lt _ hx).1; have := (HUL.out x e).2; have := HG.out; omega
      have HAP : Hid (∀ x, (Value.slice a3 c c3).ownBlock = some x → u8.ownBlock ≠ some x) := hap
      have hbs4 : w.heap.size + 1 ≤ w4.heap.size := by omega
      clear hw4 hp3 f7 c7 hp2 hP02 own2 bods2 own3 bw3 e7 hfr hap bel2 o4 hp4
      go_upto_region 13 with (at_builtin; refine wpList_append_pk rfl (.tmp 38) (.tmp 40) rfl (w.heap.size + 1) u8 qs rfl (own4.alloc _) w4.heap.size { p with pos := P, more := true, body := zs } a3 c c3 rfl (PkAt.new w4 { p with pos := P, more := true, body := zs } (.slice a3 c c3)) (by omega) (by simp; omega) ?_; intro v5 w5 own5 grow5 at5)
      have hP05 := (hP04.alloc (.cells #[.int .i64 p.kind, .int .i64 p.ttl, .int .i64 p.ident, .int .i64 p.src, .int .i64 p.dst, .int .i64 P, .bool true, .slice a3 c c3] 40)).grown grow5 (fun e => by have := (HUL.out _ e).1; omega)
      have bel5 := (bel4.alloc bel4.size (.cells #[.int .i64 p.kind, .int .i64 p.ttl, .int .i64 p.ident, .int .i64 p.src, .int .i64 p.dst, .int .i64 P, .bool true, .slice a3 c c3] 40)).grown grow5 (by simp; omega) (fun x hx => by have := (HUL.out _ hx).1; omega)
      have bods5 := (bods4.below ((Below.refl _ _).alloc (Nat.le_refl _) (.cells #[.int .i64 p.kind, .int .i64 p.ttl, .int .i64 p.ident, .int .i64 p.src, .int .i64 p.dst, .int .i64 P, .bool true, .slice a3 c c3] 40))).snoc (q := ({ p with pos := P, more := true, body := zs }, .slice a3 c c3)) (own4.alloc _) ((hb4.baseLe (by omega)).alloc _) HAP.out grow5 at5
      have hsz5 : w.heap.size + 1 ≤ w5.heap.size := Nat.le_trans (by simp; omega) grow5.size
      obtain ⟨_, _, _, _, _, y5, _, y7⟩ := hP05.cells
      simp only at y5 y7
      have f5 := hP05.free 5
      have hvl : ∀ x, v5.ownBlock = some x → w.heap.size + 1 ≤ x := fun x hx => (own5.block x hx).1
      have HVL : Hid (∀ x, v5.ownBlock = some x → w.heap.size + 1 ≤ x) := hvl
      clear x0 x1 x2 x3 x4 x5 x6 x7 at5 grow5 hb4 hP04 own4 bods4 bel4 HAP hvl
      go_upto_region 14 with fail
      have hp6 := hP05.put5 (P + (s : Int))
      simp only at hp6
      have o6 : Only w.heap.size w5 (w5.setCell ⟨w.heap.size, 5, none⟩ (.int .i64 (P + (s : Int)))) := (Only.refl _ _).setCell _ _
      obtain ⟨w6, hw6⟩ : ∃ w6, w5.setCell ⟨w.heap.size, 5, none⟩ (.int .i64 (P + (s : Int))) = w6 := ⟨_, rfl⟩
      rw [hw6] at hp6 o6 ⊢
      have own6 := own5.only (fun e => by have := HVL.out _ e; omega) o6
      have bods6 := bods5.only (show w.heap.size < w.heap.size + 1 by omega) o6
      have bel6 := o6.below (Nat.le_refl _) bel5
      obtain ⟨_, _, _, _, _, y5, _, y7⟩ := hp6.cells
      simp only at y5 y7
      have f7 := hp6.free 7
      have hsz6 : w.heap.size + 1 ≤ w6.heap.size := by rw [o6.size]; exact hsz5
      have jL : (c : Int) ≤ (L : Int) := by omega
      have jLc : (L : Int) ≤ (ck : Int) := by omega
      have had : Hid ((if ck = c then some (⟨b, off, none⟩ : Addr) else some ⟨b, off + c, none⟩) = some ⟨b, off + c, none⟩) := if_neg (by omega)
      clear hw6 hP05 f5 own5 bods5 bel5 hsz5 o6
      go_upto_region 15 with fail
      have hp7 := hp6.put7 (.slice (some ⟨b, off + c, none⟩) (L - c) (ck - c)) (p.body.drop ((k + 1) * c))
      simp only at hp7
      have o7 : Only w.heap.size w6 (w6.setCell ⟨w.heap.size, 7, none⟩ (.slice (some ⟨b, off + c, none⟩) (L - c) (ck - c))) := (Only.refl _ _).setCell _ _
      obtain ⟨w7, hw7⟩ : ∃ w7, w6.setCell ⟨w.heap.size, 7, none⟩ (.slice (some ⟨b, off + c, none⟩) (L - c) (ck - c)) = w7 := ⟨_, rfl⟩
      rw [hw7] at hp7 o7 ⊢
      have own7 := own6.only (fun e => by have := HVL.out _ e; omega) o7
      have bods7 := bods6.only (show w.heap.size < w.heap.size + 1 by omega) o7
      have bel7 := o7.below (Nat.le_refl _) bel6
      have hsz7 : w.heap.size + 1 ≤ w7.heap.size := by rw [o7.size]; exact hsz6
      obtain ⟨_, _, _, _, _, z5, _, z7⟩ := hp7.cells
      simp only at z5 z7
      have hbr := bytes_rest c HG5.out g1 g2 g3 HG4.out hcL had.out
      have e1 : ((k : Int) + 1) * s = (k : Int) * s + s := by rw [Int.add_mul, Int.one_mul]
      have e2 : (k + 1) * c = k * c + c := Nat.succ_mul _ _
      have HBR : Hid (Bytes w (.slice (some ⟨b, off + c, none⟩) (L - c) (ck - c)) (p.body.drop ((k + 1) * c))) := by
        show Bytes w (.slice (some ⟨b, off + c, none⟩) (L - c) (ck - c)) (p.body.drop ((k + 1) * c))
        rw [e2, ← List.drop_drop]; exact hbr
      clear hw7 hp6 f7 own6 bods6 bel6 hsz6 o7 hbr had y5 y7
      by_cases hfar : 32767 < P + (s : Int)
      · have HF : Hid (32767 < p.pos + (fK p.body.length (S : Int).toNat : Int) * (((S : Int).toNat / 8 : Nat) : Int)) := by
          show 32767 < p.pos + (fK p.body.length (S : Int).toNat : Int) * (((S : Int).toNat / 8 : Nat) : Int)
          rw [show (S : Int).toNat = S by omega, ← HS.out]
          have h1 : ((k : Int) + 1) * s ≤ (fK p.body.length S : Int) * s := Int.mul_le_mul_of_nonneg_right (by have := HKK.out; omega) (by omega)
          have := HPP.out
          omega
        go_wp2_with fail
        go_ret2
        exact splits_no (by decide) (splitE_far (by omega) HE.out HF.out) bel7
      · go_wp2_with fail
        go_roundw
        case rel =>
          refine ⟨k + 1, HKK.out, ⟨⟨_, own7, bods7, ?_⟩, ⟨_, hp7.of rfl rfl rfl rfl rfl ?_ rfl, HBR.out⟩, ?_, bel7, hsz7⟩⟩
          · rw [List.map_append, HQS.out, List.range_succ, List.map_append]
            congr 1
            show [_] = [pcK p s k]
            unfold pcK
            rw [HPP.out, HZS.out, HC.out]
          · show P + (s : Int) = p.pos + ((k + 1 : Nat) : Int) * s
            have := HPP.out; push_cast; omega
          · have := HPP.out; push_cast; omega
        case measure => simp only [z7, d7K.out]; omega
    · have j1 : ¬ (S : Int) < (L : Int) := by omega
      have hkK : k = fK p.body.length S := by
        rcases Nat.lt_or_ge k (fK p.body.length S) with h1 | h1
        · exfalso
          rw [fK_lt h8, ← HS.out, ← HC.out] at h1
          have := HL.out; rw [List.length_drop] at this; omega
        · have := HK.out; omega
      have hk4 : k ≤ 500 := by have := fK_small (len := p.body.length) h8; omega
      have hql : qs.length ≤ 500 := by have := congrArg List.length HQS.out; simp at this; omega
      have HKK : Hid (k = fK p.body.length S) := hkK
      have hfr := ffresh_any _ _ wr (hbk.below (Nat.le_refl _) hbel) (by rw [hL]; omega)
      obtain ⟨zs, hzs⟩ : ∃ zs, zs = p.body.drop (k * c) := ⟨_, rfl⟩
      have HZS : Hid (zs = p.body.drop (k * c)) := hzs
      rw [← hzs] at hfr hL
      have HTZ : Hid (zs.length = L) := hL
      have hul : ∀ x, u8.ownBlock = some x → w.heap.size + 1 ≤ x ∧ x < wr.heap.size := hown.block
      have HUL : Hid (∀ x, u8.ownBlock = some x → w.heap.size + 1 ≤ x ∧ x < wr.heap.size) := hul
      clear hP hL hpk hqs hcut hk hkK hzs hbk hul
      go_upto_region 18 with (go_at_call 22; refine hfr.mono ?_; rintro e w3 ⟨v3, rfl, own3, bw3⟩; have hp3 := hpk'.below hpk'.lt bw3; have f7 := hp3.free 7; have c7 := hp3.cells.2.2.2.2.2.2.2; obtain ⟨a3, c3, hv3⟩ := len_body' (own3.bytes (by have := HTZ.out; omega)) HTZ.out; subst hv3)
      have hp4 := hp3.put7 (.slice a3 L c3) zs
      simp only at hp4
      have o4 : Only w.heap.size w3 (w3.setCell ⟨w.heap.size, 7, none⟩ (.slice a3 L c3)) := (Only.refl _ _).setCell _ _
      obtain ⟨w4, hw4⟩ : ∃ w4, w3.setCell ⟨w.heap.size, 7, none⟩ (.slice a3 L c3) = w4 := ⟨_, rfl⟩
      rw [hw4] at hp4 o4 ⊢
      have own4 := (hown.below bw3).only (fun e => by have := (HUL.out _ e).1; omega) o4
      have bods4 := (hbods.below bw3).only (show w.heap.size < w.heap.size + 1 by omega) o4
      have hb4 : OwnB w4 wr.heap.size (.slice a3 L c3) zs := own3.only (fun e => by have := (own3.1.lt _ e).1; omega) o4
      have bel4 := o4.below (Nat.le_refl _) (hbel.trans (bw3.mono hbel.size))
      have hsz4 : wr.heap.size ≤ w4.heap.size := by rw [o4.size]; exact bw3.size
      obtain ⟨x0, x1, x2, x3, x4, x5, x6, x7⟩ := hp4.cells
      simp only at x0 x1 x2 x3 x4 x5 x6 x7
      have hap : ∀ x, (Value.slice a3 L c3).ownBlock = some x → u8.ownBlock ≠ some x := fun x hx e => by have := (hb4.1.lt _ hx).1; have := (HUL.out x e).2; omega
      have HAP : Hid (∀ x, (Value.slice a3 L c3).ownBlock = some x → u8.ownBlock ≠ some x) := hap
      clear hw4 hp3 f7 c7 own3 bw3 hfr hap o4 hp4 hown hbods hpk' d0 d1 d2 d3 d4 d5 d6 d7
      go_wp2_with (at_builtin; refine wpList_append_pk rfl (.tmp 61) (.tmp 63) rfl (w.heap.size + 1) u8 qs rfl (own4.alloc _) w4.heap.size { p with pos := P, body := zs } a3 L c3 rfl (PkAt.new w4 { p with pos := P, body := zs } (.slice a3 L c3)) (by omega) (by simp; omega) ?_; intro v5 w5 own5 grow5 at5)
      go_ret2
      have bel5 := (bel4.alloc bel4.size (.cells #[.int .i64 p.kind, .int .i64 p.ttl, .int .i64 p.ident, .int .i64 p.src, .int .i64 p.dst, .int .i64 P, .bool p.more, .slice a3 L c3] 40)).grown grow5 (by simp; omega) (fun x hx => by have := (HUL.out _ hx).1; omega)
      have bods5 := (bods4.below ((Below.refl _ _).alloc (Nat.le_refl _) (.cells #[.int .i64 p.kind, .int .i64 p.ttl, .int .i64 p.ident, .int .i64 p.src, .int .i64 p.dst, .int .i64 P, .bool p.more, .slice a3 L c3] 40))).snoc (q := ({ p with pos := P, body := zs }, .slice a3 L c3)) (own4.alloc _) ((hb4.baseLe (by omega)).alloc _) HAP.out grow5 at5
      have hE : splitE p (S : Int) = 0 := splitE_ok (by omega) HE.out (by
        rw [show (S : Int).toNat = S by omega, ← HS.out, ← HKK.out]; have := HPP.out; omega)
      refine ⟨v5, _, by rw [hE]; rfl, ?_, own5.base (by omega), bods5.base (by omega), bel5⟩
      unfold splitL
      rw [if_pos hE, List.map_append, HQS.out]
      unfold cutL
      rw [show (S : Int).toNat = S by omega, ← HS.out, ← HKK.out]
      congr 1
      show [_] = [lsK p s k]
      unfold lsK
      rw [HPP.out, HZS.out, HC.out]
theorem split_any (p : Pk) (bv : Value) (size : Int) (w : World) (hb : Bytes w bv p.body) : Calls Tryd.prog 13 #[pkV p bv, .int .i64 size] w (Splits p size w) := by
  by_cases h : size < 8 ∨ 4000 < size
  · refine (split_bad p.kind p.ttl p.ident p.src p.dst p.pos p.more bv size w h).mono ?_
    rintro e w' ⟨rfl, hw⟩
    exact splits_no (by decide) (splitE_bad h) hw
  · by_cases he : pkErr p = 0
    · obtain ⟨S, rfl⟩ : ∃ S : Nat, size = S := ⟨size.toNat, by omega⟩
      exact split_go p bv S w hb (by omega) (by omega) he
    · refine (split_err p bv size w hb (by omega) (by omega) he).mono ?_
      rintro e w' ⟨rfl, hw⟩
      exact splits_no he (splitE_err h he) hw
end Go.Proofs.YtkpbcdnkbokekaaDoor
