/- The law FragPieces of package portlaw4 returns true, where a packet can be cut; the walk of its text. -/
import Derived.Test.YtlfckmigbeanhadFragPc
namespace Go.Proofs.Ytlfckmigbeanhad
open Go.RowKit
set_option linter.unusedVariables false

/-- The bodies of the first k pieces, one behind the other. -/
def bodsL (p : Pk) (size : Int) (k : Nat) : List Int := (((splitL p size).take k).map Pk.body).flatten
theorem bodsL_succ {p : Pk} {size : Int} {k : Nat} (h : k < (splitL p size).length) : bodsL p size (k + 1) = bodsL p size k ++ ((splitL p size)[k]).body := by
  unfold bodsL; rw [List.take_succ_eq_append_getElem h, List.map_append, List.flatten_append]; simp
theorem bodsL_len {p : Pk} {size : Int} (h : splitE p size = 0) {k : Nat} (hk : k < (splitL p size).length) : (bodsL p size k).length = k * (8 * (size.toNat / 8)) := by
  have e := bodies_take h k (Nat.le_of_lt hk)
  rw [if_pos hk] at e
  unfold bodsL; rw [e, List.length_take]
  have hK : (splitL p size).length = fK p.body.length size.toNat + 1 := by unfold splitL; rw [if_pos h, cutL_length]
  obtain ⟨h8, h4, he, hf⟩ := of_splitE h
  rcases Nat.eq_zero_or_pos k with h0 | h0
  · rw [h0]; omega
  · have := fK_le (len := p.body.length) (size := size.toNat) (k := k - 1) (by omega) (by omega)
    have e : k * (8 * (size.toNat / 8)) = (k - 1) * (8 * (size.toNat / 8)) + 8 * (size.toNat / 8) := by
      rw [← Nat.add_one_mul]; congr 1; omega
    omega
theorem bodsL_le {p : Pk} {size : Int} (h : splitE p size = 0) {k : Nat} (hk : k < (splitL p size).length) : (bodsL p size k).length ≤ 4000 := by
  have e := bodies_take h k (Nat.le_of_lt hk)
  rw [if_pos hk] at e
  have := (pkErr_ok (of_splitE h).2.2.1).2
  unfold bodsL; rw [e, List.length_take]; omega
theorem bodsL_end {p : Pk} {size : Int} (h : splitE p size = 0) : bodsL p size (splitL p size).length = p.body := by
  have e := bodies_take h _ (Nat.le_refl _)
  rw [if_neg (by omega)] at e
  exact e
set_option maxRecDepth 100000 in
set_option maxHeartbeats 8000000 in
theorem pieces_yes (p : Pk) (bv : Value) (size : Int) (w : World) (hb : Bytes w bv p.body) (hE : splitE p size = 0) :
    Calls Try.prog 3 #[pkV p bv, .int .i64 size] w fun e w' => e = .returned (.bool true) ∧ Below w.heap.size w w' := by
  have hbox := boxed w p bv hb
  have hsp := split_any p bv size _ (hb.alloc (.cells #[.int .i64 p.kind, .int .i64 p.ttl, .int .i64 p.ident, .int .i64 p.src, .int .i64 p.dst, .int .i64 p.pos, .bool p.more, bv] 24))
  obtain ⟨a, c, hbv⟩ := len_body hb
  subst hbv
  obtain ⟨h8, h4, he, hf⟩ := of_splitE hE
  have hlen := (pkErr_ok he).2
  have hpp := (of_pkIn (pkErr_ok he).1).2.2.2.2.2
  have hsp2 : Calls Try.prog 4 #[pkV p (.slice a p.body.length c), .int .i64 size] (w.alloc (.cells #[.int .i64 p.kind, .int .i64 p.ttl, .int .i64 p.ident, .int .i64 p.src, .int .i64 p.dst, .int .i64 p.pos, .bool p.more, .slice a p.body.length c] 24)) fun e w1 => ∃ (g n cap : Nat) (qs : List (Pk × Value)), e = .returned (.tuple #[.slice (some ⟨g, 0, none⟩) n cap, .nilIface]) ∧ (qs.length = n ∧ n ≤ cap ∧ cap ≤ maxLen ∧ 0 < n ∧ n ≤ 501 ∧ g < w1.heap.size) ∧ qs.map Prod.fst = splitL p size ∧ (∀ i (h : i < qs.length), PkCells w1 g (i * 8) qs[i].1 qs[i].2) ∧ PkAt w1 w.heap.size p (.slice a p.body.length c) ∧ Bytes w1 (.slice a p.body.length c) p.body ∧ Below w.heap.size w w1 := by
    refine hsp.mono ?_
    rintro e w1 ⟨v, qs, rfl, hq, hk, hbd, hw⟩
    obtain ⟨h1, h2, h3, _⟩ := hbox w1 hw
    have hK : (splitL p size).length = fK p.body.length size.toNat + 1 := by unfold splitL; rw [if_pos hE, cutL_length]
    have hql : qs.length = fK p.body.length size.toNat + 1 := by rw [← hK, ← hq]; simp
    have hsm := fK_small (len := p.body.length) (size := size.toNat) (by omega)
    obtain ⟨g, cap, rfl, _, hg, hl, hm⟩ := hk.shape (by omega)
    refine ⟨g, qs.length, cap, qs, by rw [hE]; rfl, ⟨rfl, hl, hm, by omega, by omega, hg⟩, hq, fun i hi => hk.cells i hi ((hbd _ (List.getElem_mem hi)).1.bytes ?_), h1, h2, h3⟩
    have hx : qs[i].1 = (splitL p size)[i]'(by rw [hK]; omega) := by simp only [← hq]; simp
    have := (pieceOf hE i (by rw [hK]; omega)).small
    rw [hx]; omega
  clear hsp hbox
  unfold pkV at hsp2 ⊢
  obtain ⟨L, hL⟩ : ∃ L, p.body.length = L := ⟨_, rfl⟩
  have HL : Hid (p.body.length = L) := hL
  have HE : Hid (splitE p size = 0) := hE
  rw [hL] at hsp2 hlen ⊢
  clear hb hE he hL hf
  go_enter Try.func3, Try.ntmps3
  go_upto_region 4 with (go_at_call 4; refine hsp2.mono ?_; rintro e w1 ⟨g, n, cap, qs, rfl, ⟨hn, hnc, hcm, hn0, hn5, hg⟩, hq, hcells, hp1, hb1, bel1⟩)
  have HN : Hid (qs.length = n) := hn
  have HQ : Hid (qs.map Prod.fst = splitL p size) := hq
  have HC : Hid (∀ i (h : i < qs.length), PkCells w1 g (i * 8) qs[i].1 qs[i].2) := hcells
  have HB1 : Hid (Bytes w1 (.slice a L c) p.body) := hb1
  have hcm' : cap ≤ 9223372036854775807 := by unfold maxLen at hcm; omega
  have HP1 : Hid (PkAt w1 w.heap.size p (.slice a L c)) := hp1
  have HBE : Hid (Below w.heap.size w w1) := bel1
  clear hsp2 hn hq hcells hb1 hcm hp1 bel1
  go_wp2_with fail
  go_loopw [7, 8] (fun v i wr => ∃ k : Nat, k ≤ n ∧ i = .int .i64 (k : Int) ∧ OwnB wr w1.heap.size v (bodsL p size k) ∧ Below w1.heap.size w1 wr) (fun _ i _ => (n - intOf i).toNat)
  case atStart => exact ⟨0, by omega, rfl, OwnB.nil _ _, Below.refl _ _⟩
  case round =>
    obtain ⟨k, hk, rfl, hown, hbel⟩ := hrel
    by_cases hkn : k < n
    · have i1 : (k : Int) < (n : Int) := by omega
      have i3 : (0 : Int) ≤ (k : Int) := by omega
      have hkq : k < qs.length := by have := HN.out; omega
      have hpk := (HC.out k hkq).below hbel
      have hsl : (splitL p size).length = n := by rw [← HQ.out, List.length_map]; exact HN.out
      have hks : k < (splitL p size).length := by omega
      have hx : qs[k].1 = (splitL p size)[k] := by simp only [← HQ.out]; simp
      have hpo := pieceOf HE.out k hks
      rw [← hx] at hpo
      have hbl := bodsL_len HE.out hks
      have hsucc := bodsL_succ (p := p) (size := size) hks
      rw [← hx] at hsucc
      obtain ⟨q, hqk⟩ : ∃ q, q = qs[k] := ⟨_, rfl⟩
      rw [← hqk] at hpk hpo hsucc
      obtain ⟨x, xv⟩ := q
      simp only at hpo hsucc
      have hbx1 : Bytes w1 xv x.body := by have := (HC.out k hkq).2; rw [← hqk] at this; exact this
      obtain ⟨X5, M, zs, hxe⟩ : ∃ X5 M zs, x = { p with pos := X5, more := M, body := zs } := ⟨x.pos, x.more, x.body, by
        obtain ⟨x1, x2, x3, x4, x5, x6, x7, x8⟩ := x
        have h1 := hpo.kind; have h2 := hpo.ttl; have h3 := hpo.ident; have h4 := hpo.src; have h5 := hpo.dst
        simp only at h1 h2 h3 h4 h5
        simp only [h1, h2, h3, h4, h5]⟩
      subst hxe
      obtain ⟨⟨d0, d1, d2, d3, d4, d5, d6, d7⟩, _⟩ := hpk
      simp only at d0 d1 d2 d3 d4 d5 d6 d7 hbx1 hsucc
      obtain ⟨ax, cx, hxv⟩ := len_body hbx1
      subst hxv
      obtain ⟨nx, hnx⟩ : ∃ nx, zs.length = nx := ⟨_, rfl⟩
      rw [hnx] at d7 hbx1
      have HNX : Hid (zs.length = nx) := hnx
      have HBX : Hid (Bytes w1 (.slice ax nx cx) zs) := hbx1
      have HSU : Hid (bodsL p size (k + 1) = bodsL p size k ++ zs) := hsucc
      have hnxs : (nx : Int) ≤ size := by have := hpo.small; simp only [hnx] at this; exact this
      have hnx0 : ¬ size < (nx : Int) := by omega
      have hat := hpo.at8
      simp only at hat
      have hgd := hpo.good
      have hX5 := (of_pkIn (pkErr_ok hgd).1).2.2.2.2.2
      simp only at hX5
      obtain ⟨au, cu, huv⟩ := len_body' (n := k * (8 * (size.toNat / 8))) (hown.bytes (by rw [hbl]; have := bodsL_le HE.out hks; omega)) hbl
      subst huv
      obtain ⟨nu, hnu⟩ : ∃ nu, k * (8 * (size.toNat / 8)) = nu := ⟨_, rfl⟩
      rw [hnu] at hbl hown hat ⊢
      have hnu4 : nu ≤ 4000 := by rw [← hbl]; exact bodsL_le HE.out hks
      have HNU : Hid ((bodsL p size k).length = nu) := hbl
      have t1 : (8 * (X5 - p.pos) != (nu : Int)) = false := by rw [bne_eq_false_iff_eq]; exact hat
      by_cases hlast : k + 1 = n
      · have hm := hpo.last (by omega)
        simp only at hm
        subst hm
        have t2 : ((k : Int) == (n : Int) - 1) = true := by rw [beq_iff_eq]; omega
        have t2' : (k : Int) = (n : Int) - 1 := by omega
        have HGD : Hid (pkErr { p with pos := X5, more := p.more, body := zs } = 0) := hgd
        clear hx hqk hpo hnx hbl hsucc hnu hat hgd hbx1 hsl hks t2'
        go_upto_region 9 with fail
        have hp2 := PkAt.new wr { p with pos := X5, more := p.more, body := zs } (.slice ax nx cx)
        simp only at hp2
        have bw2 : Below wr.heap.size wr (wr.alloc (.cells #[.int .i64 p.kind, .int .i64 p.ttl, .int .i64 p.ident, .int .i64 p.src, .int .i64 p.dst, .int .i64 X5, .bool p.more, .slice ax nx cx] 24)) := (Below.refl _ _).alloc (Nat.le_refl _) _
        obtain ⟨w2, hw2⟩ : ∃ w2, wr.alloc (.cells #[.int .i64 p.kind, .int .i64 p.ttl, .int .i64 p.ident, .int .i64 p.src, .int .i64 p.dst, .int .i64 X5, .bool p.more, .slice ax nx cx] 24) = w2 := ⟨_, rfl⟩
        rw [hw2] at hp2 bw2 ⊢
        have hg2 := hp2.lt
        obtain ⟨g2, hg2e⟩ : ∃ g2, g2 = wr.heap.size := ⟨_, rfl⟩
        have HG2 : Hid (g2 = wr.heap.size) := hg2e
        rw [← hg2e] at hp2 hg2 ⊢
        have own2 := hown.below bw2
        have bel2 := hbel.trans (bw2.mono hbel.size)
        have hub : ∀ y, (Value.slice au nu cu).ownBlock = some y → w1.heap.size ≤ y ∧ y < g2 := fun y hy => by have := hown.1.lt y hy; rw [hg2e]; exact this
        have HUB : Hid (∀ y, (Value.slice au nu cu).ownBlock = some y → w1.heap.size ≤ y ∧ y < g2) := hub
        have hP2 := HP1.out.below HP1.out.lt bel2
        have hBl : w.heap.size < w1.heap.size := HP1.out.lt
        obtain ⟨y0, y1, y2, y3, y4, y5, y6, y7⟩ := hP2.cells
        obtain ⟨x0, x1, x2, x3, x4, x5, x6, x7⟩ := hp2.cells
        simp only at x0 x1 x2 x3 x4 x5 x6 x7
        have hsz2 : w1.heap.size ≤ w2.heap.size := bel2.size
        clear hw2 hg2e hown hub hbel d0 d1 d2 d3 d4 d5 d6 d7 bw2
        go_upto_region 12 with fail
        go_upto_region 14 with fail
        have hbx2 := HBX.out.below (Nat.le_refl _) bel2
        go_upto_region 15 with (at_builtin; refine wpList_append_bytes rfl (.tmp 141) (.tmp 143) rfl w1.heap.size (.slice au nu cu) (bodsL p size k) rfl own2 (.slice ax nx cx) zs rfl hbx2 (by rw [HNU.out, HNX.out]; omega) hsz2 ?_; intro v3 w3 own3 grow3)
        have hp3 := hp2.grown grow3 (fun e => by have := (HUB.out _ e).2; omega)
        have hP3 := hP2.grown grow3 (fun e => by have := (HUB.out _ e).1; omega)
        have bel3 := bel2.grown grow3 hsz2 (fun y hy => (HUB.out y hy).1)
        have hbx3 := HBX.out.below (Nat.le_refl _) bel3
        have hsp := split_any { p with pos := X5, more := p.more, body := zs } (.slice ax nx cx) size w3 hbx3
        have hself := splitL_self h8 h4 HGD.out (by show ((zs.length : Nat) : Int) ≤ size; rw [HNX.out]; exact hnxs)
        have hsp3 : Calls Try.prog 4 #[pkV { p with pos := X5, more := p.more, body := zs } (.slice ax nx cx), .int .i64 size] w3 fun e w4 => ∃ (g4 cap4 : Nat) (a4 : Option Addr) (c4 : Nat), e = .returned (.tuple #[.slice (some ⟨g4, 0, none⟩) 1 cap4, .nilIface]) ∧ PkCells w4 g4 0 { p with pos := X5, more := p.more, body := zs } (.slice a4 nx c4) ∧ Below w3.heap.size w3 w4 := by
          refine hsp.mono ?_
          rintro e w4 ⟨v4, qs4, rfl, hq4, hk4, hbd4, hw4⟩
          rw [hself.2] at hq4
          obtain ⟨q4, rfl⟩ : ∃ q4, qs4 = [q4] := by
            cases qs4 with
            | nil => simp at hq4
            | cons y r =>
              cases r with
              | nil => exact ⟨y, rfl⟩
              | cons z r => simp at hq4
          have hq5 : q4.1 = { p with pos := X5, more := p.more, body := zs } := by simpa using hq4
          obtain ⟨g4, cap4, rfl, _⟩ := hk4.shape (by simp)
          have hby := (hbd4 q4 (by simp)).1.bytes (by rw [hq5]; show zs.length < _; rw [HNX.out]; omega)
          have hpc := hk4.cells 0 (by simp) hby
          obtain ⟨q41, q42⟩ := q4
          simp only at hq5
          subst hq5
          obtain ⟨a4, c4, e4⟩ := len_body' hby HNX.out
          simp only at e4
          subst e4
          exact ⟨g4, cap4, a4, c4, by rw [hself.1]; rfl, hpc, hw4⟩
        unfold pkV at hsp3
        simp only at hsp3
        obtain ⟨x0, x1, x2, x3, x4, x5, x6, x7⟩ := hp3.cells
        simp only at x0 x1 x2 x3 x4 x5 x6 x7
        clear hsp hself hbx2 hbx3 hP2 hp2 bel2 own2 hg2 grow3 y0 y1 y2 y3 y4 y5 y6 y7
        go_upto_region 18 with (go_at_call 4; refine hsp3.mono ?_; rintro e w4 ⟨g4, cap4, a4, c4, rfl, hpc4, bw4⟩)
        have hp4 := hp3.below hp3.lt bw4
        have bel4 := bel3.trans (bw4.mono bel3.size)
        have own4 := own3.below bw4
        have hbx4 := HBX.out.below (Nat.le_refl _) bel4
        have hsm := samePk { p with pos := X5, more := p.more, body := zs } (.slice a4 nx c4) (.slice ax nx cx) w4.drew (hpc4.2.drewN 1) (hbx4.drewN 1)
        unfold pkV at hsm
        simp only at hsm
        have hc4 := hpc4.1
        simp only [Nat.zero_add] at hc4
        have hS4 : (w4.cell? ⟨g4, 0, none⟩ = some (.int .i64 p.kind) ∧ w4.cell? ⟨g4, 1, none⟩ = some (.int .i64 p.ttl) ∧ w4.cell? ⟨g4, 2, none⟩ = some (.int .i64 p.ident) ∧ w4.cell? ⟨g4, 3, none⟩ = some (.int .i64 p.src) ∧ w4.cell? ⟨g4, 4, none⟩ = some (.int .i64 p.dst) ∧ w4.cell? ⟨g4, 5, none⟩ = some (.int .i64 X5) ∧ w4.cell? ⟨g4, 6, none⟩ = some (.bool p.more) ∧ w4.cell? ⟨g4, 7, none⟩ = some (.slice a4 nx c4)) ∧ (w4.cell? ⟨g2, 0, none⟩ = some (.int .i64 p.kind) ∧ w4.cell? ⟨g2, 1, none⟩ = some (.int .i64 p.ttl) ∧ w4.cell? ⟨g2, 2, none⟩ = some (.int .i64 p.ident) ∧ w4.cell? ⟨g2, 3, none⟩ = some (.int .i64 p.src) ∧ w4.cell? ⟨g2, 4, none⟩ = some (.int .i64 p.dst) ∧ w4.cell? ⟨g2, 5, none⟩ = some (.int .i64 X5) ∧ w4.cell? ⟨g2, 6, none⟩ = some (.bool p.more) ∧ w4.cell? ⟨g2, 7, none⟩ = some (.slice ax nx cx)) := ⟨hc4, hp4.cells⟩
        clear hsp3 hp3 hP3 x0 x1 x2 x3 x4 x5 x6 x7 hc4 bel3 own3 bw4
        go_region_held3 (fun W => (W.cell? ⟨g4, 0, none⟩ = some (.int .i64 p.kind) ∧ W.cell? ⟨g4, 1, none⟩ = some (.int .i64 p.ttl) ∧ W.cell? ⟨g4, 2, none⟩ = some (.int .i64 p.ident) ∧ W.cell? ⟨g4, 3, none⟩ = some (.int .i64 p.src) ∧ W.cell? ⟨g4, 4, none⟩ = some (.int .i64 p.dst) ∧ W.cell? ⟨g4, 5, none⟩ = some (.int .i64 X5) ∧ W.cell? ⟨g4, 6, none⟩ = some (.bool p.more) ∧ W.cell? ⟨g4, 7, none⟩ = some (.slice a4 nx c4)) ∧ (W.cell? ⟨g2, 0, none⟩ = some (.int .i64 p.kind) ∧ W.cell? ⟨g2, 1, none⟩ = some (.int .i64 p.ttl) ∧ W.cell? ⟨g2, 2, none⟩ = some (.int .i64 p.ident) ∧ W.cell? ⟨g2, 3, none⟩ = some (.int .i64 p.src) ∧ W.cell? ⟨g2, 4, none⟩ = some (.int .i64 p.dst) ∧ W.cell? ⟨g2, 5, none⟩ = some (.int .i64 X5) ∧ W.cell? ⟨g2, 6, none⟩ = some (.bool p.more) ∧ W.cell? ⟨g2, 7, none⟩ = some (.slice ax nx cx))) (with_reducible first | assumption | go_keep) (first
          | (go_at_call 6; refine hsm.mono ?_; rintro e w5 ⟨rfl, bw5⟩; have hpc5 := hpc4.below (bel4R w4 bw5); have hp5 := hp4.below hp4.lt (bel4R w4 bw5); have hc5 := hpc5.1; simp only [Nat.zero_add] at hc5; have hS5 : (w5.cell? ⟨g4, 0, none⟩ = some (.int .i64 p.kind) ∧ w5.cell? ⟨g4, 1, none⟩ = some (.int .i64 p.ttl) ∧ w5.cell? ⟨g4, 2, none⟩ = some (.int .i64 p.ident) ∧ w5.cell? ⟨g4, 3, none⟩ = some (.int .i64 p.src) ∧ w5.cell? ⟨g4, 4, none⟩ = some (.int .i64 p.dst) ∧ w5.cell? ⟨g4, 5, none⟩ = some (.int .i64 X5) ∧ w5.cell? ⟨g4, 6, none⟩ = some (.bool p.more) ∧ w5.cell? ⟨g4, 7, none⟩ = some (.slice a4 nx c4)) ∧ (w5.cell? ⟨g2, 0, none⟩ = some (.int .i64 p.kind) ∧ w5.cell? ⟨g2, 1, none⟩ = some (.int .i64 p.ttl) ∧ w5.cell? ⟨g2, 2, none⟩ = some (.int .i64 p.ident) ∧ w5.cell? ⟨g2, 3, none⟩ = some (.int .i64 p.src) ∧ w5.cell? ⟨g2, 4, none⟩ = some (.int .i64 p.dst) ∧ w5.cell? ⟨g2, 5, none⟩ = some (.int .i64 X5) ∧ w5.cell? ⟨g2, 6, none⟩ = some (.bool p.more) ∧ w5.cell? ⟨g2, 7, none⟩ = some (.slice ax nx cx)) := ⟨hc5, hp5.cells⟩))
        have bel5 := bel4.trans ((bel4R w4 bw5).mono bel4.size)
        have own5 := own4.below (bel4R w4 bw5)
        clear hS4 hS5 hsm hpc4 hpc5 hp4 hp5 bw5 hc5 hbx4 bel4 own4
        go_wp2
        go_roundw
        case rel => exact ⟨k + 1, by omega, by go_num, by rw [HSU.out]; exact own5, bel5⟩
        case measure => simp [intOf]; omega
      · have hm := hpo.more (by omega)
        simp only at hm
        obtain ⟨hm1, hm2⟩ := hm
        subst hm1
        have t2 : ((k : Int) == (n : Int) - 1) = false := by rw [beq_eq_false_iff_ne]; omega
        have t3 : ((nx : Int).tmod 8 != 0) = false := by
          rw [bne_eq_false_iff_eq, Int.tmod_eq_emod_of_nonneg (by omega)]; omega
        have t3' : (nx : Int) % 8 = 0 := by omega
        have t4 : ¬ (nx : Int) + 8 ≤ size := by omega
        have HGD : Hid (pkErr { p with pos := X5, more := true, body := zs } = 0) := hgd
        clear hx hqk hpo hnx hbl hsucc hnu hat hgd hbx1 hsl hks hm2
        go_upto_region 9 with fail
        have hp2 := PkAt.new wr { p with pos := X5, more := true, body := zs } (.slice ax nx cx)
        simp only at hp2
        have bw2 : Below wr.heap.size wr (wr.alloc (.cells #[.int .i64 p.kind, .int .i64 p.ttl, .int .i64 p.ident, .int .i64 p.src, .int .i64 p.dst, .int .i64 X5, .bool true, .slice ax nx cx] 24)) := (Below.refl _ _).alloc (Nat.le_refl _) _
        obtain ⟨w2, hw2⟩ : ∃ w2, wr.alloc (.cells #[.int .i64 p.kind, .int .i64 p.ttl, .int .i64 p.ident, .int .i64 p.src, .int .i64 p.dst, .int .i64 X5, .bool true, .slice ax nx cx] 24) = w2 := ⟨_, rfl⟩
        rw [hw2] at hp2 bw2 ⊢
        have hg2 := hp2.lt
        obtain ⟨g2, hg2e⟩ : ∃ g2, g2 = wr.heap.size := ⟨_, rfl⟩
        have HG2 : Hid (g2 = wr.heap.size) := hg2e
        rw [← hg2e] at hp2 hg2 ⊢
        have own2 := hown.below bw2
        have bel2 := hbel.trans (bw2.mono hbel.size)
        have hub : ∀ y, (Value.slice au nu cu).ownBlock = some y → w1.heap.size ≤ y ∧ y < g2 := fun y hy => by have := hown.1.lt y hy; rw [hg2e]; exact this
        have HUB : Hid (∀ y, (Value.slice au nu cu).ownBlock = some y → w1.heap.size ≤ y ∧ y < g2) := hub
        have hP2 := HP1.out.below HP1.out.lt bel2
        have hBl : w.heap.size < w1.heap.size := HP1.out.lt
        obtain ⟨y0, y1, y2, y3, y4, y5, y6, y7⟩ := hP2.cells
        obtain ⟨x0, x1, x2, x3, x4, x5, x6, x7⟩ := hp2.cells
        simp only at x0 x1 x2 x3 x4 x5 x6 x7
        have hsz2 : w1.heap.size ≤ w2.heap.size := bel2.size
        clear hw2 hg2e hown hub hbel d0 d1 d2 d3 d4 d5 d6 d7 bw2
        go_upto_region 12 with fail
        go_upto_region 14 with fail
        have hbx2 := HBX.out.below (Nat.le_refl _) bel2
        go_upto_region 15 with (at_builtin; refine wpList_append_bytes rfl (.tmp 141) (.tmp 143) rfl w1.heap.size (.slice au nu cu) (bodsL p size k) rfl own2 (.slice ax nx cx) zs rfl hbx2 (by rw [HNU.out, HNX.out]; omega) hsz2 ?_; intro v3 w3 own3 grow3)
        have hp3 := hp2.grown grow3 (fun e => by have := (HUB.out _ e).2; omega)
        have hP3 := hP2.grown grow3 (fun e => by have := (HUB.out _ e).1; omega)
        have bel3 := bel2.grown grow3 hsz2 (fun y hy => (HUB.out y hy).1)
        have hbx3 := HBX.out.below (Nat.le_refl _) bel3
        have hsp := split_any { p with pos := X5, more := true, body := zs } (.slice ax nx cx) size w3 hbx3
        have hself := splitL_self h8 h4 HGD.out (by show ((zs.length : Nat) : Int) ≤ size; rw [HNX.out]; exact hnxs)
        have hsp3 : Calls Try.prog 4 #[pkV { p with pos := X5, more := true, body := zs } (.slice ax nx cx), .int .i64 size] w3 fun e w4 => ∃ (g4 cap4 : Nat) (a4 : Option Addr) (c4 : Nat), e = .returned (.tuple #[.slice (some ⟨g4, 0, none⟩) 1 cap4, .nilIface]) ∧ PkCells w4 g4 0 { p with pos := X5, more := true, body := zs } (.slice a4 nx c4) ∧ Below w3.heap.size w3 w4 := by
          refine hsp.mono ?_
          rintro e w4 ⟨v4, qs4, rfl, hq4, hk4, hbd4, hw4⟩
          rw [hself.2] at hq4
          obtain ⟨q4, rfl⟩ : ∃ q4, qs4 = [q4] := by
            cases qs4 with
            | nil => simp at hq4
            | cons y r =>
              cases r with
              | nil => exact ⟨y, rfl⟩
              | cons z r => simp at hq4
          have hq5 : q4.1 = { p with pos := X5, more := true, body := zs } := by simpa using hq4
          obtain ⟨g4, cap4, rfl, _⟩ := hk4.shape (by simp)
          have hby := (hbd4 q4 (by simp)).1.bytes (by rw [hq5]; show zs.length < _; rw [HNX.out]; omega)
          have hpc := hk4.cells 0 (by simp) hby
          obtain ⟨q41, q42⟩ := q4
          simp only at hq5
          subst hq5
          obtain ⟨a4, c4, e4⟩ := len_body' hby HNX.out
          simp only at e4
          subst e4
          exact ⟨g4, cap4, a4, c4, by rw [hself.1]; rfl, hpc, hw4⟩
        unfold pkV at hsp3
        simp only at hsp3
        obtain ⟨x0, x1, x2, x3, x4, x5, x6, x7⟩ := hp3.cells
        simp only at x0 x1 x2 x3 x4 x5 x6 x7
        clear hsp hself hbx2 hbx3 hP2 hp2 bel2 own2 hg2 grow3 y0 y1 y2 y3 y4 y5 y6 y7
        go_upto_region 18 with (go_at_call 4; refine hsp3.mono ?_; rintro e w4 ⟨g4, cap4, a4, c4, rfl, hpc4, bw4⟩)
        have hp4 := hp3.below hp3.lt bw4
        have bel4 := bel3.trans (bw4.mono bel3.size)
        have own4 := own3.below bw4
        have hbx4 := HBX.out.below (Nat.le_refl _) bel4
        have hsm := samePk { p with pos := X5, more := true, body := zs } (.slice a4 nx c4) (.slice ax nx cx) w4.drew (hpc4.2.drewN 1) (hbx4.drewN 1)
        unfold pkV at hsm
        simp only at hsm
        have hc4 := hpc4.1
        simp only [Nat.zero_add] at hc4
        have hS4 : (w4.cell? ⟨g4, 0, none⟩ = some (.int .i64 p.kind) ∧ w4.cell? ⟨g4, 1, none⟩ = some (.int .i64 p.ttl) ∧ w4.cell? ⟨g4, 2, none⟩ = some (.int .i64 p.ident) ∧ w4.cell? ⟨g4, 3, none⟩ = some (.int .i64 p.src) ∧ w4.cell? ⟨g4, 4, none⟩ = some (.int .i64 p.dst) ∧ w4.cell? ⟨g4, 5, none⟩ = some (.int .i64 X5) ∧ w4.cell? ⟨g4, 6, none⟩ = some (.bool true) ∧ w4.cell? ⟨g4, 7, none⟩ = some (.slice a4 nx c4)) ∧ (w4.cell? ⟨g2, 0, none⟩ = some (.int .i64 p.kind) ∧ w4.cell? ⟨g2, 1, none⟩ = some (.int .i64 p.ttl) ∧ w4.cell? ⟨g2, 2, none⟩ = some (.int .i64 p.ident) ∧ w4.cell? ⟨g2, 3, none⟩ = some (.int .i64 p.src) ∧ w4.cell? ⟨g2, 4, none⟩ = some (.int .i64 p.dst) ∧ w4.cell? ⟨g2, 5, none⟩ = some (.int .i64 X5) ∧ w4.cell? ⟨g2, 6, none⟩ = some (.bool true) ∧ w4.cell? ⟨g2, 7, none⟩ = some (.slice ax nx cx)) := ⟨hc4, hp4.cells⟩
        clear hsp3 hp3 hP3 x0 x1 x2 x3 x4 x5 x6 x7 hc4 bel3 own3 bw4
        go_region_held3 (fun W => (W.cell? ⟨g4, 0, none⟩ = some (.int .i64 p.kind) ∧ W.cell? ⟨g4, 1, none⟩ = some (.int .i64 p.ttl) ∧ W.cell? ⟨g4, 2, none⟩ = some (.int .i64 p.ident) ∧ W.cell? ⟨g4, 3, none⟩ = some (.int .i64 p.src) ∧ W.cell? ⟨g4, 4, none⟩ = some (.int .i64 p.dst) ∧ W.cell? ⟨g4, 5, none⟩ = some (.int .i64 X5) ∧ W.cell? ⟨g4, 6, none⟩ = some (.bool true) ∧ W.cell? ⟨g4, 7, none⟩ = some (.slice a4 nx c4)) ∧ (W.cell? ⟨g2, 0, none⟩ = some (.int .i64 p.kind) ∧ W.cell? ⟨g2, 1, none⟩ = some (.int .i64 p.ttl) ∧ W.cell? ⟨g2, 2, none⟩ = some (.int .i64 p.ident) ∧ W.cell? ⟨g2, 3, none⟩ = some (.int .i64 p.src) ∧ W.cell? ⟨g2, 4, none⟩ = some (.int .i64 p.dst) ∧ W.cell? ⟨g2, 5, none⟩ = some (.int .i64 X5) ∧ W.cell? ⟨g2, 6, none⟩ = some (.bool true) ∧ W.cell? ⟨g2, 7, none⟩ = some (.slice ax nx cx))) (with_reducible first | assumption | go_keep) (first
          | (go_at_call 6; refine hsm.mono ?_; rintro e w5 ⟨rfl, bw5⟩; have hpc5 := hpc4.below (bel4R w4 bw5); have hp5 := hp4.below hp4.lt (bel4R w4 bw5); have hc5 := hpc5.1; simp only [Nat.zero_add] at hc5; have hS5 : (w5.cell? ⟨g4, 0, none⟩ = some (.int .i64 p.kind) ∧ w5.cell? ⟨g4, 1, none⟩ = some (.int .i64 p.ttl) ∧ w5.cell? ⟨g4, 2, none⟩ = some (.int .i64 p.ident) ∧ w5.cell? ⟨g4, 3, none⟩ = some (.int .i64 p.src) ∧ w5.cell? ⟨g4, 4, none⟩ = some (.int .i64 p.dst) ∧ w5.cell? ⟨g4, 5, none⟩ = some (.int .i64 X5) ∧ w5.cell? ⟨g4, 6, none⟩ = some (.bool true) ∧ w5.cell? ⟨g4, 7, none⟩ = some (.slice a4 nx c4)) ∧ (w5.cell? ⟨g2, 0, none⟩ = some (.int .i64 p.kind) ∧ w5.cell? ⟨g2, 1, none⟩ = some (.int .i64 p.ttl) ∧ w5.cell? ⟨g2, 2, none⟩ = some (.int .i64 p.ident) ∧ w5.cell? ⟨g2, 3, none⟩ = some (.int .i64 p.src) ∧ w5.cell? ⟨g2, 4, none⟩ = some (.int .i64 p.dst) ∧ w5.cell? ⟨g2, 5, none⟩ = some (.int .i64 X5) ∧ w5.cell? ⟨g2, 6, none⟩ = some (.bool true) ∧ w5.cell? ⟨g2, 7, none⟩ = some (.slice ax nx cx)) := ⟨hc5, hp5.cells⟩))
        have bel5 := bel4.trans ((bel4R w4 bw5).mono bel4.size)
        have own5 := own4.below (bel4R w4 bw5)
        clear hS4 hS5 hsm hpc4 hpc5 hp4 hp5 bw5 hc5 hbx4 bel4 own4
        go_wp2
        go_roundw
        case rel => exact ⟨k + 1, by omega, by go_num, by rw [HSU.out]; exact own5, bel5⟩
        case measure => simp [intOf]; omega
    · have hkn' : k = n := by omega
      subst hkn'
      have i1 : ¬ (k : Int) < (k : Int) := by omega
      have hsl : (splitL p size).length = k := by rw [← HQ.out, List.length_map]; exact HN.out
      have hend := bodsL_end HE.out
      rw [hsl] at hend
      rw [hend] at hown
      obtain ⟨au, cu, huv⟩ := len_body' (hown.bytes (by rw [HL.out]; omega)) HL.out
      subst huv
      have q1 := conv_bytes (hown.bytes (by rw [HL.out]; omega))
      have q2 := conv_bytes (HB1.out.below (Nat.le_refl _) hbel)
      generalize strOfNums p.body = SS at q1 q2
      have hP2 := HP1.out.below HP1.out.lt hbel
      have y7 := hP2.cells.2.2.2.2.2.2.2
      have HBZ : Hid (Below w.heap.size w wr) := HBE.out.trans (hbel.mono HBE.out.size)
      clear hown hbel hP2 hend hsl
      go_wp2_with fail
      go_ret
      exact ⟨rfl, HBZ.out⟩
theorem pieces_walk (p : Pk) (bv : Value) (size : Int) (w : World) (hb : Bytes w bv p.body) (hw : (Lit.int .i64 size).wf = true) :
    Calls Try.prog 3 #[pkV p bv, .int .i64 size] w fun e w' => e = .returned (.bool true) ∧ Below w.heap.size w w' := by
  by_cases h : splitE p size = 0
  · exact pieces_yes p bv size w hb h
  · exact pieces_no p bv size w hb h
end Go.Proofs.Ytlfckmigbeanhad
