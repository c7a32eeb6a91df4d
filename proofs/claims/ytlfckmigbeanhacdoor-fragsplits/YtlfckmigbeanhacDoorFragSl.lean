/- The law FragSplits of package portlaw2 returns true, for every packet and every size; the walk of its text. -/
import Derived.Test.YtlfckmigbeanhacDoorRefSplit
import Derived.Test.YtlfckmigbeanhacDoorWireSame
import Derived.Test.YtlfckmigbeanhacDoorTold
import Derived.Deep.RegionHeld3
namespace Go.Proofs.YtlfckmigbeanhacDoor
open Go.RowKit
set_option linter.unusedVariables false

theorem errVal_of (n : Int) : ErrVal (errV n) n := by
  unfold errV
  by_cases h : n = 0
  · rw [if_pos h]; exact .inl ⟨rfl, h⟩
  · rw [if_neg h]; exact .inr rfl
theorem map_len {qs : List (Pk × Value)} {l : List Pk} (h : qs.map Prod.fst = l) : qs.length = l.length := by rw [← h]; simp
theorem map_get {qs : List (Pk × Value)} {l : List Pk} (h : qs.map Prod.fst = l) {i : Nat} (hi : i < qs.length) (hl : i < l.length) : qs[i].1 = l[i] := by
  subst h; simp
set_option maxRecDepth 100000 in
set_option maxHeartbeats 8000000 in
theorem fsplits_walk (p : Pk) (bv : Value) (size : Int) (w : World) {q : Prop} (hb : Bytes w bv p.body) (hq : q) (hL : ErrLaid w) :
    Calls Tryd.prog 5 #[pkV p bv, .int .i64 size] w fun e w' => e = .returned (.bool true) ∧ Below w.heap.size w w' := by
  have hbox := pkBoxed w p bv hb
  have hrs := rsplit_any p bv size _ (hb.alloc (.cells #[.int .i64 p.kind, .int .i64 p.ttl, .int .i64 p.ident, .int .i64 p.src, .int .i64 p.dst, .int .i64 p.pos, .bool p.more, bv] 24))
  obtain ⟨a, c, hbv⟩ := len_body hb
  subst hbv
  have hrs2 : Calls Tryd.prog 22 #[pkV p (.slice a p.body.length c), .int .i64 size] (w.alloc (.cells #[.int .i64 p.kind, .int .i64 p.ttl, .int .i64 p.ident, .int .i64 p.src, .int .i64 p.dst, .int .i64 p.pos, .bool p.more, .slice a p.body.length c] 24)) fun e w1 => ∃ (v : Value) (qs : List (Pk × Value)), e = .returned (.tuple #[v, .int .i64 (splitE p size)]) ∧ qs.map Prod.fst = splitL p size ∧ OwnK w1 w.heap.size v qs ∧ (∀ q ∈ qs, Bytes w1 q.2 q.1.body) ∧ PkAt w1 w.heap.size p (.slice a p.body.length c) ∧ Bytes w1 (.slice a p.body.length c) p.body ∧ Below w.heap.size w w1 := by
    refine hrs.mono ?_
    rintro e w1 ⟨v, qs, rfl, h1, h2, h3, h4⟩
    obtain ⟨k1, k2, k3, _⟩ := hbox w1 h4
    exact ⟨v, qs, rfl, h1, h2.base (by simp), h3, k1, k2, k3⟩
  clear hrs hbox
  unfold pkV at hrs2 ⊢
  obtain ⟨L, hLe⟩ : ∃ L, p.body.length = L := ⟨_, rfl⟩
  rw [hLe] at hrs2 ⊢
  have HL : Hid (ErrLaid w) := hL
  clear hL hb hLe
  go_enter Tryd.func5, Tryd.ntmps5
  go_upto_region 2 with (go_at_call 22; refine hrs2.mono ?_; rintro e w1 ⟨v1, qs1, rfl, hm1, hk1, hb1, hp1, hby1, bel1⟩)
  obtain ⟨d0, d1, d2, d3, d4, d5, d6, d7⟩ := hp1.cells
  have hfs := split_any p (.slice a L c) size w1 hby1
  unfold pkV at hfs
  have HM1 : Hid (qs1.map Prod.fst = splitL p size) := hm1
  have HB1 : Hid (∀ q ∈ qs1, Bytes w1 q.2 q.1.body) := hb1
  obtain ⟨N, hN⟩ : ∃ N, (splitL p size).length = N := ⟨_, rfl⟩
  have HNN : Hid ((splitL p size).length = N) := hN
  have e1 : qs1.length = N := by rw [map_len hm1]; exact hN
  obtain ⟨a1, c1, hv1⟩ := hk1.len
  rw [e1] at hv1
  subst hv1
  have HE1 : Hid (qs1.length = N) := e1
  have HK1 : Hid (OwnK w1 w.heap.size (.slice a1 N c1) qs1) := hk1
  clear hrs2 hm1 hb1 hp1 hby1 hk1 hN e1
  go_upto_region 3 with (go_at_call 23; refine hfs.mono ?_; rintro e w2 ⟨v2, qs2, rfl, hm2, hk2, hb2, bw2⟩)
  have bel2 := bel1.trans (bw2.mono bel1.size)
  have her := error_val (errVal_of (splitE p size)) (splitE p size) w2 (HL.out.below bel2)
  rw [show (splitE p size == splitE p size) = true from beq_self_eq_true _] at her
  have e2 : qs2.length = N := by rw [map_len hm2]; exact HNN.out
  obtain ⟨a2, c2, hv2⟩ := hk2.len
  rw [e2] at hv2
  subst hv2
  have HE2 : Hid (qs2.length = N) := e2
  have HM2 : Hid (qs2.map Prod.fst = splitL p size) := hm2
  have HK1' : Hid (OwnK w2 w.heap.size (.slice a1 N c1) qs1) := HK1.out.below bw2
  have HK2 : Hid (OwnK w2 w1.heap.size (.slice a2 N c2) qs2) := hk2
  have HB2 : Hid (Bods w2 w1.heap.size (.slice a2 N c2) qs2) := hb2
  have HB1' : Hid (∀ q ∈ qs1, Bytes w2 q.2 q.1.body) := fun q hq => (HB1.out q hq).below (Nat.le_refl _) bw2
  have HEV : Hid (N = 0 ∨ splitE p size = 0) := by
    by_cases h : splitE p size = 0
    · exact .inr h
    · left
      have := HNN.out; unfold splitL at this; rw [if_neg h] at this; simpa using this.symm
  generalize errV (splitE p size) = ev at her ⊢
  generalize hsz : splitE p size = n at her HEV ⊢
  have HSZ : Hid (splitE p size = n) := hsz
  clear hfs d0 d1 d2 d3 d4 d5 d6 d7 HK1 HB1 hm2 hk2 hb2 e2 bw2 bel1 hsz
  go_upto_region 6 with (go_at_call 11; refine her.mono ?_; rintro e w3 ⟨rfl, bw3⟩)
  have bel3 := bel2.trans (bw3.mono bel2.size)
  rcases HEV.out with h0 | h0
  · subst h0
    have HZ : Hid (Below w.heap.size w w3) := bel3
    clear her bw3 bel2 bel3
    go_wp2_with fail
    refine wp_loop_rounds 1 ?_
    rw [rounds_succ]
    go_wp2_with fail
    go_ret
    exact ⟨rfl, HZ.out⟩
  · subst h0
    have hEE := HSZ.out
    obtain ⟨h8, h4, he, _⟩ := of_splitE hEE
    have hN0 : 0 < N := by rw [← HNN.out]; unfold splitL; rw [if_pos hEE, cutL_length]; omega
    have hN5 : N ≤ 501 := by
      rw [← HNN.out]; unfold splitL; rw [if_pos hEE, cutL_length]
      have := fK_small (len := p.body.length) (size := size.toNat) (by omega)
      have := (pkErr_ok he).2; omega
    obtain ⟨g1, cap1, hv1, _, hg1, hl1, hx1⟩ := HK1'.out.shape (by rw [HE1.out]; exact hN0)
    obtain ⟨g2, cap2, hv2, _, hg2, hl2, hx2⟩ := HK2.out.shape (by rw [HE2.out]; exact hN0)
    simp only [Value.slice.injEq] at hv1 hv2
    obtain ⟨rfl, _, rfl⟩ := hv1
    obtain ⟨rfl, _, rfl⟩ := hv2
    have hc1 : c1 ≤ 9223372036854775807 := by unfold maxLen at hx1; omega
    have hc2 : c2 ≤ 9223372036854775807 := by unfold maxLen at hx2; omega
    have hl1' : N ≤ c1 := by have := HE1.out; omega
    have hl2' : N ≤ c2 := by have := HE2.out; omega
    have HSE : Hid (splitE p size = 0) := hEE
    have HB22 : Hid (Below w.heap.size w w2) := bel2
    clear her bel2 hl1 hl2 hx1 hx2 hEE he h8 h4
    go_wp2_with fail
    go_loopw [10] (fun i wr => ∃ k : Nat, k ≤ N ∧ i = .int .i64 (k : Int) ∧ Below w2.heap.size w2 wr) (fun i _ => (N - intOf i).toNat)
    case atStart => exact ⟨0, by omega, rfl, bw3⟩
    case round =>
      obtain ⟨k, hk, rfl, hbel⟩ := hrel
      by_cases hkn : k < N
      · have i1 : (k : Int) < (N : Int) := by omega
        have i2 : (0 : Int) ≤ (k : Int) := by omega
        have h1 : k < qs1.length := by have := HE1.out; omega
        have h2 : k < qs2.length := by have := HE2.out; omega
        have hs : k < (splitL p size).length := by have := HNN.out; omega
        have m1 := map_get HM1.out h1 hs
        have m2 := map_get HM2.out h2 hs
        have hsm0 : ((splitL p size)[k]).body.length ≤ 4000 := (pkErr_ok (pieceOf HSE.out k hs).good).2
        have b1 := HB1'.out _ (List.getElem_mem h1)
        have b2 := (HB2.out _ (List.getElem_mem h2)).1.bytes (by rw [m2]; omega)
        have p1 := (HK1'.out.cells k h1 b1).below hbel
        have p2 := (HK2.out.cells k h2 b2).below hbel
        rw [m1] at p1
        rw [m2] at p2
        obtain ⟨x, hx⟩ : ∃ x, x = (splitL p size)[k] := ⟨_, rfl⟩
        obtain ⟨y1, hy1⟩ : ∃ y1, y1 = qs1[k].2 := ⟨_, rfl⟩
        obtain ⟨y2, hy2⟩ : ∃ y2, y2 = qs2[k].2 := ⟨_, rfl⟩
        rw [← hx, ← hy1] at p1
        rw [← hx, ← hy2] at p2
        obtain ⟨nb, hnb⟩ : ∃ nb, x.body.length = nb := ⟨_, rfl⟩
        obtain ⟨a1, c1', e1⟩ := len_body' p1.2 hnb
        obtain ⟨a2, c2', e2⟩ := len_body' p2.2 hnb
        subst e1 e2
        have hsm := samePk x (.slice a2 nb c2') (.slice a1 nb c1') wr.drew (p2.2.drewN 1) (p1.2.drewN 1)
        unfold pkV at hsm
        have hS : (wr.cell? ⟨g2, k * 8, none⟩ = some (.int .i64 x.kind) ∧ wr.cell? ⟨g2, k * 8 + 1, none⟩ = some (.int .i64 x.ttl) ∧ wr.cell? ⟨g2, k * 8 + 2, none⟩ = some (.int .i64 x.ident) ∧ wr.cell? ⟨g2, k * 8 + 3, none⟩ = some (.int .i64 x.src) ∧ wr.cell? ⟨g2, k * 8 + 4, none⟩ = some (.int .i64 x.dst) ∧ wr.cell? ⟨g2, k * 8 + 5, none⟩ = some (.int .i64 x.pos) ∧ wr.cell? ⟨g2, k * 8 + 6, none⟩ = some (.bool x.more) ∧ wr.cell? ⟨g2, k * 8 + 7, none⟩ = some (.slice a2 nb c2')) ∧ (wr.cell? ⟨g1, k * 8, none⟩ = some (.int .i64 x.kind) ∧ wr.cell? ⟨g1, k * 8 + 1, none⟩ = some (.int .i64 x.ttl) ∧ wr.cell? ⟨g1, k * 8 + 2, none⟩ = some (.int .i64 x.ident) ∧ wr.cell? ⟨g1, k * 8 + 3, none⟩ = some (.int .i64 x.src) ∧ wr.cell? ⟨g1, k * 8 + 4, none⟩ = some (.int .i64 x.dst) ∧ wr.cell? ⟨g1, k * 8 + 5, none⟩ = some (.int .i64 x.pos) ∧ wr.cell? ⟨g1, k * 8 + 6, none⟩ = some (.bool x.more) ∧ wr.cell? ⟨g1, k * 8 + 7, none⟩ = some (.slice a1 nb c1')) := ⟨p2.1, p1.1⟩
        clear hx hy1 hy2 m1 m2 b1 b2 hnb hsm0 h1 h2 hs
        go_upto_region 9 with fail
        go_region_held3 (fun W => (W.cell? ⟨g2, k * 8, none⟩ = some (.int .i64 x.kind) ∧ W.cell? ⟨g2, k * 8 + 1, none⟩ = some (.int .i64 x.ttl) ∧ W.cell? ⟨g2, k * 8 + 2, none⟩ = some (.int .i64 x.ident) ∧ W.cell? ⟨g2, k * 8 + 3, none⟩ = some (.int .i64 x.src) ∧ W.cell? ⟨g2, k * 8 + 4, none⟩ = some (.int .i64 x.dst) ∧ W.cell? ⟨g2, k * 8 + 5, none⟩ = some (.int .i64 x.pos) ∧ W.cell? ⟨g2, k * 8 + 6, none⟩ = some (.bool x.more) ∧ W.cell? ⟨g2, k * 8 + 7, none⟩ = some (.slice a2 nb c2')) ∧ (W.cell? ⟨g1, k * 8, none⟩ = some (.int .i64 x.kind) ∧ W.cell? ⟨g1, k * 8 + 1, none⟩ = some (.int .i64 x.ttl) ∧ W.cell? ⟨g1, k * 8 + 2, none⟩ = some (.int .i64 x.ident) ∧ W.cell? ⟨g1, k * 8 + 3, none⟩ = some (.int .i64 x.src) ∧ W.cell? ⟨g1, k * 8 + 4, none⟩ = some (.int .i64 x.dst) ∧ W.cell? ⟨g1, k * 8 + 5, none⟩ = some (.int .i64 x.pos) ∧ W.cell? ⟨g1, k * 8 + 6, none⟩ = some (.bool x.more) ∧ W.cell? ⟨g1, k * 8 + 7, none⟩ = some (.slice a1 nb c1'))) (with_reducible first | assumption | go_keep) (first
          | (go_at_call 24; refine hsm.mono ?_; rintro e w5 ⟨rfl, bw5⟩; have p15 := p1.below (bel4R wr bw5); have p25 := p2.below (bel4R wr bw5); have hS5 : (w5.cell? ⟨g2, k * 8, none⟩ = some (.int .i64 x.kind) ∧ w5.cell? ⟨g2, k * 8 + 1, none⟩ = some (.int .i64 x.ttl) ∧ w5.cell? ⟨g2, k * 8 + 2, none⟩ = some (.int .i64 x.ident) ∧ w5.cell? ⟨g2, k * 8 + 3, none⟩ = some (.int .i64 x.src) ∧ w5.cell? ⟨g2, k * 8 + 4, none⟩ = some (.int .i64 x.dst) ∧ w5.cell? ⟨g2, k * 8 + 5, none⟩ = some (.int .i64 x.pos) ∧ w5.cell? ⟨g2, k * 8 + 6, none⟩ = some (.bool x.more) ∧ w5.cell? ⟨g2, k * 8 + 7, none⟩ = some (.slice a2 nb c2')) ∧ (w5.cell? ⟨g1, k * 8, none⟩ = some (.int .i64 x.kind) ∧ w5.cell? ⟨g1, k * 8 + 1, none⟩ = some (.int .i64 x.ttl) ∧ w5.cell? ⟨g1, k * 8 + 2, none⟩ = some (.int .i64 x.ident) ∧ w5.cell? ⟨g1, k * 8 + 3, none⟩ = some (.int .i64 x.src) ∧ w5.cell? ⟨g1, k * 8 + 4, none⟩ = some (.int .i64 x.dst) ∧ w5.cell? ⟨g1, k * 8 + 5, none⟩ = some (.int .i64 x.pos) ∧ w5.cell? ⟨g1, k * 8 + 6, none⟩ = some (.bool x.more) ∧ w5.cell? ⟨g1, k * 8 + 7, none⟩ = some (.slice a1 nb c1')) := ⟨p25.1, p15.1⟩))
        have bel5 := hbel.trans ((bel4R wr bw5).mono hbel.size)
        clear hS hS5 hsm p1 p2 p15 p25 bw5 hbel
        go_wp2
        go_roundw
        case rel => exact ⟨k + 1, by omega, by go_num, bel5⟩
        case measure => simp [intOf]; omega
      · have hkN : k = N := by omega
        subst hkN
        have i1 : ¬ (k : Int) < (k : Int) := by omega
        have HZ : Hid (Below w.heap.size w wr) := HB22.out.trans (hbel.mono HB22.out.size)
        go_wp2_with fail
        go_ret
        exact ⟨rfl, HZ.out⟩
end Go.Proofs.YtlfckmigbeanhacDoor
