/- What Split of package portref2 returns, for every input: the pieces of a packet, or why there are none. -/
import Derived.Test.YtlfckmigbeanhacDoorFragSplit
import Derived.Test.YtlfckmigbeanhacDoorRefPk
namespace Go.Proofs.YtlfckmigbeanhacDoor
open Go.RowKit
set_option linter.unusedVariables false

/-- What the document's Split answers. -/
def RSplits (p : Pk) (size : Int) (w : World) (e : Ending) (w' : World) : Prop :=
  ∃ v qs, e = .returned (.tuple #[v, .int .i64 (splitE p size)]) ∧ qs.map Prod.fst = splitL p size ∧ OwnK w' w.heap.size v qs ∧ (∀ q ∈ qs, Bytes w' q.2 q.1.body) ∧ Below w.heap.size w w'
theorem rsplits_no {p : Pk} {size : Int} {w w' : World} {n : Int} (hn : ¬ n = 0) (hE : splitE p size = n) (hw : Below w.heap.size w w') : RSplits p size w (.returned (.tuple #[.slice none 0 0, .int .i64 n])) w' := by
  refine ⟨.slice none 0 0, [], by rw [hE], ?_, OwnK.nil _ _, fun q hq => (by cases hq), hw⟩
  unfold splitL; rw [hE, if_neg hn]; rfl
set_option maxHeartbeats 4000000 in
theorem rsplit_bad (k t i s d o : Int) (m : Bool) (bv : Value) (size : Int) (w : World) (h : size < 8 ∨ 4000 < size) :
    Calls Tryd.prog 22 #[.agg #[.int .i64 k, .int .i64 t, .int .i64 i, .int .i64 s, .int .i64 d, .int .i64 o, .bool m, bv], .int .i64 size] w fun e w' => e = .returned (.tuple #[.slice none 0 0, .int .i64 1]) ∧ Below w.heap.size w w' := by
  by_cases h8 : size < 8
  · go_enter Tryd.func22, Tryd.ntmps22
    go_wp2_with fail
    go_ret2
    exact ⟨rfl, (Below.refl _ _).alloc (Nat.le_refl _) _⟩
  · have h4 : 4000 < size := by omega
    go_enter Tryd.func22, Tryd.ntmps22
    go_wp2_with fail
    go_ret2
    exact ⟨rfl, (Below.refl _ _).alloc (Nat.le_refl _) _⟩
set_option maxHeartbeats 4000000 in
theorem rsplit_err (p : Pk) (bv : Value) (size : Int) (w : World) (hb : Bytes w bv p.body) (h8 : 8 ≤ size) (h4 : size ≤ 4000) (he : ¬ pkErr p = 0) :
    Calls Tryd.prog 22 #[pkV p bv, .int .i64 size] w fun e w' => e = .returned (.tuple #[.slice none 0 0, .int .i64 (pkErr p)]) ∧ Below w.heap.size w w' := by
  have i1 : ¬ size < 8 := by omega
  have i2 : ¬ 4000 < size := by omega
  have hbox := pkBoxed w p bv hb
  have hck := refPacket_any p _ _ (hb.alloc (.cells #[.int .i64 p.kind, .int .i64 p.ttl, .int .i64 p.ident, .int .i64 p.src, .int .i64 p.dst, .int .i64 p.pos, .bool p.more, bv] 24))
  obtain ⟨a, c, hbv⟩ := len_body hb
  subst hbv
  unfold pkV at hck ⊢
  have HX : Hid (∀ w1, Below (w.alloc (.cells #[.int .i64 p.kind, .int .i64 p.ttl, .int .i64 p.ident, .int .i64 p.src, .int .i64 p.dst, .int .i64 p.pos, .bool p.more, .slice a p.body.length c] 24)).heap.size (w.alloc (.cells #[.int .i64 p.kind, .int .i64 p.ttl, .int .i64 p.ident, .int .i64 p.src, .int .i64 p.dst, .int .i64 p.pos, .bool p.more, .slice a p.body.length c] 24)) w1 →
    PkAt w1 w.heap.size p (.slice a p.body.length c) ∧ Bytes w1 (.slice a p.body.length c) p.body ∧ Below w.heap.size w w1 ∧ w.heap.size + 1 ≤ w1.heap.size) := hbox
  have he' : (pkErr p != 0) = true := by rw [bne_iff_ne]; exact he
  generalize pkErr p = m at hck he he' ⊢
  clear hb h8 h4 he hbox
  go_enter Tryd.func22, Tryd.ntmps22
  go_wp2_with (go_at_call 8; refine hck.mono ?_; rintro e w3 ⟨rfl, bw3⟩)
  go_ret2
  exact ⟨rfl, (HX.out _ bw3).2.2.1⟩
/-- The first loop's state: k pieces are cut off. -/
structure RCut (p : Pk) (bv : Value) (s : Nat) (w : World) (k : Nat) (v : Value) (wr : World) : Prop where
  row : ∃ qs, OwnK wr (w.heap.size + 1) v qs ∧ (∀ q ∈ qs, Bytes w q.2 q.1.body) ∧ qs.map Prod.fst = (List.range k).map (pcK p s)
  var : PkAt wr w.heap.size p bv
  below : Below w.heap.size w wr
  size : w.heap.size + 1 ≤ wr.heap.size
theorem bytes_mid {w : World} {b off len cap : Nat} {zs : List Int} (o n : Nat) (h : Row w b off zs) (hl : len ≤ cap) (hm : cap ≤ maxLen) (h62 : len < 2 ^ 62) (hz : zs.length = len) (hn : o + n ≤ len) : Bytes w (.slice (some ⟨b, off + o, none⟩) n (cap - o)) ((zs.drop o).take n) :=
  .inr ⟨b, off + o, n, cap - o, rfl, by omega, by unfold maxLen at *; omega, by omega, by simp; omega, h.part o n (by omega)⟩
set_option maxRecDepth 100000 in
set_option maxHeartbeats 8000000 in
theorem rsplit_go (p : Pk) (bv : Value) (S : Nat) (w : World) (hb : Bytes w bv p.body) (h8 : 8 ≤ S) (h4 : S ≤ 4000) (he : pkErr p = 0) :
    Calls Tryd.prog 22 #[pkV p bv, .int .i64 (S : Int)] w (RSplits p (S : Int) w) := by
  have i1 : ¬ (S : Int) < 8 := by omega
  have i2 : ¬ 4000 < (S : Int) := by omega
  obtain ⟨s, hs⟩ : ∃ s, s = S / 8 := ⟨_, rfl⟩
  have HS : Hid (s = S / 8) := hs
  have hs1 : 1 ≤ s := by omega
  have hs2 : s ≤ 500 := by omega
  obtain ⟨c, hc⟩ : ∃ c, c = 8 * s := ⟨_, rfl⟩
  have HC : Hid (c = 8 * s) := hc
  have hm : (S : Int) - (S : Int).tmod 8 = (c : Int) := by rw [Int.tmod_eq_emod_of_nonneg (by omega)]; omega
  have hm' : (S : Int) - (S : Int) % 8 = (c : Int) := by omega
  have hc1 : c ≤ S := by omega
  have hc8 : 8 ≤ c := by omega
  have HE : Hid (pkErr p = 0) := he
  have hpos := (of_pkIn (pkErr_ok he).1).2.2.2.2.2
  have hlen := (pkErr_ok he).2
  have hbox := pkBoxed w p bv hb
  have HBW : Hid (Bytes w bv p.body) := hb
  have hck := refPacket_any p _ _ (hb.alloc (.cells #[.int .i64 p.kind, .int .i64 p.ttl, .int .i64 p.ident, .int .i64 p.src, .int .i64 p.dst, .int .i64 p.pos, .bool p.more, bv] 24))
  rw [he] at hck
  unfold pkV at hck ⊢
  obtain ⟨a, c0, hbv⟩ := len_body hb
  subst hbv
  obtain ⟨L, hL⟩ : ∃ L, p.body.length = L := ⟨_, rfl⟩
  have HL : Hid (p.body.length = L) := hL
  have HX : Hid (∀ w1, Below (w.alloc (.cells #[.int .i64 p.kind, .int .i64 p.ttl, .int .i64 p.ident, .int .i64 p.src, .int .i64 p.dst, .int .i64 p.pos, .bool p.more, .slice a L c0] 24)).heap.size (w.alloc (.cells #[.int .i64 p.kind, .int .i64 p.ttl, .int .i64 p.ident, .int .i64 p.src, .int .i64 p.dst, .int .i64 p.pos, .bool p.more, .slice a L c0] 24)) w1 →
    PkAt w1 w.heap.size p (.slice a L c0) ∧ Bytes w1 (.slice a L c0) p.body ∧ Below w.heap.size w w1 ∧ w.heap.size + 1 ≤ w1.heap.size) := by rw [← hL]; exact hbox
  rw [hL] at hck hlen HBW ⊢
  clear hb he hs hc hbox hL
  go_enter Tryd.func22, Tryd.ntmps22
  go_upto_region 6 with (go_at_call 8; refine hck.mono ?_; rintro e w1 ⟨rfl, bw1⟩)
  obtain ⟨hP2, hb2, bel2, hsz⟩ := HX.out w1 bw1
  have HCUT : Hid (RCut p (.slice a L c0) s w 0 (.slice none 0 0) w1) := ⟨⟨[], OwnK.nil _ _, fun q hq => (by cases hq), rfl⟩, hP2, bel2, hsz⟩
  clear hck bw1 hP2 hb2 bel2 hsz HX
  go_wp2_with fail
  go_loopw [7, 9] (fun v f wr => ∃ k : Nat, k ≤ fK p.body.length S ∧ f = .int .i64 ((k * c : Nat) : Int) ∧ RCut p (.slice a L c0) s w k v wr) (fun _ f _ => (L - intOf f).toNat)
  case atStart => exact ⟨0, Nat.zero_le _, by simp, HCUT.out⟩
  case round =>
    obtain ⟨k, hk, rfl, hcut⟩ := hrel
    clear HCUT
    obtain ⟨qs, hown, hbods, hqs⟩ := hcut.row
    have hpk := hcut.var
    have hbel := hcut.below
    have hsz := hcut.size
    obtain ⟨d0, d1, d2, d3, d4, d5, d6, d7⟩ := hpk.cells
    obtain ⟨kc, hkc⟩ : ∃ kc, k * c = kc := ⟨_, rfl⟩
    obtain ⟨ks, hks⟩ : ∃ ks, k * s = ks := ⟨_, rfl⟩
    have h8k : kc = 8 * ks := by rw [← hkc, ← hks, HC.out, Nat.mul_left_comm]
    have hkL : kc ≤ L := by
      rw [← hkc, ← HL.out]
      rcases Nat.eq_zero_or_pos k with h0 | h0
      · rw [h0]; omega
      · have := fK_le (len := p.body.length) (size := S) (k := k - 1) h8 (by omega)
        rw [← HS.out, ← HC.out] at this
        have e : k * c = (k - 1) * c + c := by rw [← Nat.add_one_mul]; congr 1; omega
        omega
    have hq2 : (kc : Int).tdiv 8 = (ks : Int) := by rw [Int.tdiv_eq_ediv_of_nonneg (by omega)]; omega
    have hq2' : (kc : Int) / 8 = (ks : Int) := by omega
    have HKC : Hid (k * c = kc) := hkc
    have HKS : Hid (k * s = ks) := hks
    have hks5 : ks ≤ 500 := by omega
    have HK : Hid (k ≤ fK p.body.length S) := hk
    have HQS : Hid (qs.map Prod.fst = (List.range k).map (pcK p s)) := hqs
    have HBO : Hid (∀ q ∈ qs, Bytes w q.2 q.1.body) := hbods
    have hk4 : k ≤ 500 := by have := fK_small (len := p.body.length) h8; have := HL.out; omega
    have hql : qs.length ≤ 500 := by have := congrArg List.length HQS.out; simp at this; omega
    have HUL : Hid (∀ x, u7.ownBlock = some x → w.heap.size + 1 ≤ x ∧ x < wr.heap.size) := hown.block
    rw [hkc]
    by_cases hgo : S + kc < L
    · have j1 : (S : Int) < (L : Int) - (kc : Int) := by omega
      have hbw := HBW.out
      rcases hbw with ⟨h0, _⟩ | ⟨b, off, len, cap, hv, g1, g2, g3, g4, g5⟩
      · exfalso; have := HL.out; rw [h0] at this; simp at this; omega
      obtain ⟨rfl, rfl, rfl⟩ : a = some ⟨b, off, none⟩ ∧ L = len ∧ c0 = cap := by simpa using hv
      obtain ⟨kd, hkd⟩ : ∃ kd, kd = kc + c := ⟨_, rfl⟩
      have j2 : (kc : Int) + (c : Int) = (kd : Int) := by omega
      have j3 : (kc : Int) ≤ (kd : Int) := by omega
      have j4 : (kd : Int) ≤ (c0 : Int) := by omega
      have j5 : (0 : Int) ≤ (kc : Int) := by omega
      have j6 : kd - kc = c := by omega
      have hcap : c0 ≤ 9223372036854775807 := by unfold maxLen at g2; omega
      have hKD : Hid (kd = kc + c) := hkd
      clear hv hqs hcut hk hkc hks h8k hbods hkd
      go_upto_region 11 with fail
      have hp2 := PkAt.new wr p (.slice (some ⟨b, off, none⟩) L c0)
      have bw2 : Below wr.heap.size wr (wr.alloc (.cells #[.int .i64 p.kind, .int .i64 p.ttl, .int .i64 p.ident, .int .i64 p.src, .int .i64 p.dst, .int .i64 p.pos, .bool p.more, .slice (some ⟨b, off, none⟩) L c0] 24)) := (Below.refl _ _).alloc (Nat.le_refl _) _
      obtain ⟨w2, hw2⟩ : ∃ w2, wr.alloc (.cells #[.int .i64 p.kind, .int .i64 p.ttl, .int .i64 p.ident, .int .i64 p.src, .int .i64 p.dst, .int .i64 p.pos, .bool p.more, .slice (some ⟨b, off, none⟩) L c0] 24) = w2 := ⟨_, rfl⟩
      rw [hw2] at hp2 bw2 ⊢
      obtain ⟨g, hg⟩ : ∃ g, g = wr.heap.size := ⟨_, rfl⟩
      rw [← hg] at hp2 ⊢
      have HG : Hid (g = wr.heap.size) := hg
      have hgB : w.heap.size < g := by omega
      have hgne : w.heap.size ≠ g := by omega
      have hul' : u7.ownBlock ≠ some g := fun e => by have := (HUL.out _ e).2; omega
      have HUG : Hid (u7.ownBlock ≠ some g) := hul'
      have P02 := hpk.below hpk.lt bw2
      have own2 := hown.below bw2
      have bel2 := hbel.trans (bw2.mono hbel.size)
      have hsz2 : w.heap.size + 1 ≤ w2.heap.size := by have := bw2.size; omega
      obtain ⟨_, _, _, _, _, y5, _, y7⟩ := P02.cells
      have c5 := hp2.cells.2.2.2.2.2.1
      have f5 := hp2.free 5
      clear hw2 hg hown hbel hpk d0 d1 d2 d3 d4 d5 d6 d7 bw2 hul' hsz
      go_upto_region 12 with fail
      have hp3 := hp2.put5 (p.pos + (ks : Int))
      try simp only at hp3
      have o3 : Only g w2 (w2.setCell ⟨g, 5, none⟩ (.int .i64 (p.pos + (ks : Int)))) := (Only.refl _ _).setCell _ _
      obtain ⟨w3, hw3⟩ : ∃ w3, w2.setCell ⟨g, 5, none⟩ (.int .i64 (p.pos + (ks : Int))) = w3 := ⟨_, rfl⟩
      rw [hw3] at hp3 o3 ⊢
      have P03 := P02.only hgne o3
      have own3 := own2.only HUG.out o3
      have bel3 := o3.below (Nat.le_of_lt hgB) bel2
      have hsz3 : w.heap.size + 1 ≤ w3.heap.size := by rw [o3.size]; exact hsz2
      have c6 := hp3.cells.2.2.2.2.2.2.1
      have f6 := hp3.free 6
      try simp only at c6
      clear hw3 hp2 P02 own2 bel2 hsz2 o3 c5 f5 y5 y7
      go_upto_region 13 with fail
      have hp4 := hp3.put6 (true)
      try simp only at hp4
      have o4 : Only g w3 (w3.setCell ⟨g, 6, none⟩ (.bool true)) := (Only.refl _ _).setCell _ _
      obtain ⟨w4, hw4⟩ : ∃ w4, w3.setCell ⟨g, 6, none⟩ (.bool true) = w4 := ⟨_, rfl⟩
      rw [hw4] at hp4 o4 ⊢
      have P04 := P03.only hgne o4
      have own4 := own3.only HUG.out o4
      have bel4 := o4.below (Nat.le_of_lt hgB) bel3
      have hsz4 : w.heap.size + 1 ≤ w4.heap.size := by rw [o4.size]; exact hsz3
      obtain ⟨_, _, _, _, _, _, _, y7⟩ := P04.cells
      have c7 := hp4.cells.2.2.2.2.2.2.2
      have f7 := hp4.free 7
      try simp only at c7
      have j7 : (kd : Int) ≤ (L : Int) := by have := hKD.out; omega
      clear hw4 hp3 P03 own3 bel3 hsz3 o4 c6 f6
      go_upto_region 14 with fail
      have hp5 := hp4.put7 (.slice (some ⟨b, off + kc, none⟩) c (c0 - kc)) ((p.body.drop kc).take c)
      try simp only at hp5
      have o5 : Only g w4 (w4.setCell ⟨g, 7, none⟩ (.slice (some ⟨b, off + kc, none⟩) c (c0 - kc))) := (Only.refl _ _).setCell _ _
      obtain ⟨w5, hw5⟩ : ∃ w5, w4.setCell ⟨g, 7, none⟩ (.slice (some ⟨b, off + kc, none⟩) c (c0 - kc)) = w5 := ⟨_, rfl⟩
      rw [hw5] at hp5 o5 ⊢
      have P05 := P04.only hgne o5
      have own5 := own4.only HUG.out o5
      have bel5 := o5.below (Nat.le_of_lt hgB) bel4
      have hsz5 : w.heap.size + 1 ≤ w5.heap.size := by rw [o5.size]; exact hsz4
      obtain ⟨zs, hzs⟩ : ∃ zs, zs = (p.body.drop kc).take c := ⟨_, rfl⟩
      have HZS : Hid (zs = (p.body.drop kc).take c) := hzs
      rw [← hzs] at hp5
      obtain ⟨x0, x1, x2, x3, x4, x5, x6, x7⟩ := hp5.cells
      simp only at x0 x1 x2 x3 x4 x5 x6 x7
      have hbn : Bytes w (.slice (some ⟨b, off + kc, none⟩) c (c0 - kc)) zs := by rw [hzs]; exact bytes_mid kc c g5 g1 g2 g3 g4 (by have := hKD.out; omega)
      have HBN : Hid (Bytes w (.slice (some ⟨b, off + kc, none⟩) c (c0 - kc)) zs) := hbn
      clear hw5 hp4 P04 own4 bel4 hsz4 o5 c7 f7 y7 hzs hbn hp5
      go_upto_region 15 with (at_builtin; refine wpList_append_pk rfl (.tmp 51) (.tmp 53) rfl (w.heap.size + 1) u7 qs rfl (own5.alloc _) w5.heap.size { p with pos := p.pos + (ks : Int), more := true, body := zs } (some ⟨b, off + kc, none⟩) c (c0 - kc) rfl (PkAt.new w5 { p with pos := p.pos + (ks : Int), more := true, body := zs } (.slice (some ⟨b, off + kc, none⟩) c (c0 - kc))) (by omega) (by simp; omega) ?_; intro v6 w6 own6 grow6 at6)
      have P06 := (P05.alloc (.cells #[.int .i64 p.kind, .int .i64 p.ttl, .int .i64 p.ident, .int .i64 p.src, .int .i64 p.dst, .int .i64 (p.pos + (ks : Int)), .bool true, .slice (some ⟨b, off + kc, none⟩) c (c0 - kc)] 24)).grown grow6 (fun e => by have := (HUL.out _ e).1; omega)
      have bel6 := (bel5.alloc bel5.size (.cells #[.int .i64 p.kind, .int .i64 p.ttl, .int .i64 p.ident, .int .i64 p.src, .int .i64 p.dst, .int .i64 (p.pos + (ks : Int)), .bool true, .slice (some ⟨b, off + kc, none⟩) c (c0 - kc)] 24)).grown grow6 (by simp; omega) (fun x hx => by have := (HUL.out _ hx).1; omega)
      have hsz6 : w.heap.size + 1 ≤ w6.heap.size := Nat.le_trans (by simp; omega) grow6.size
      clear own5 P05 bel5 grow6 at6 x0 x1 x2 x3 x4 x5 x6 x7
      go_wp2_with fail
      go_roundw
      case rel =>
        refine ⟨k + 1, ?_, ?_, ⟨⟨_, own6, ?_, ?_⟩, P06, bel6, hsz6⟩⟩
        · have : k < fK p.body.length S := by
            rw [fK_lt h8, ← HS.out, ← HC.out, HKC.out, HL.out]; omega
          omega
        · rw [Nat.add_one_mul k c, HKC.out, ← hKD.out]
        · intro q hq
          rcases List.mem_append.1 hq with h | h
          · exact HBO.out q h
          · rw [List.mem_singleton.1 h]; exact HBN.out
        · rw [List.map_append, HQS.out, List.range_succ, List.map_append]
          congr 1
          show [_] = [pcK p s k]
          unfold pcK
          rw [HZS.out, ← HC.out, HKC.out, ← HKS.out]
          simp
      case measure => simp [intOf]; have := hKD.out; omega
    · have hkK : k = fK p.body.length S := by
        rcases Nat.lt_or_ge k (fK p.body.length S) with h1 | h1
        · exfalso
          rw [fK_lt h8, ← HS.out, ← HC.out, HKC.out, HL.out] at h1; omega
        · have := HK.out; omega
      have HKK : Hid (k = fK p.body.length S) := hkK
      have j1 : ¬ (S : Int) < (L : Int) - (kc : Int) := by omega
      have j5 : (0 : Int) ≤ (kc : Int) := by omega
      have j6 : (kc : Int) ≤ (L : Int) := by omega
      have hpk' := hpk
      clear hqs hcut hk hkc hks h8k hbods hkK hpk'
      go_upto_region 17 with fail
      have hp2 := PkAt.new wr p (.slice a L c0)
      have bw2 : Below wr.heap.size wr (wr.alloc (.cells #[.int .i64 p.kind, .int .i64 p.ttl, .int .i64 p.ident, .int .i64 p.src, .int .i64 p.dst, .int .i64 p.pos, .bool p.more, .slice a L c0] 24)) := (Below.refl _ _).alloc (Nat.le_refl _) _
      obtain ⟨w2, hw2⟩ : ∃ w2, wr.alloc (.cells #[.int .i64 p.kind, .int .i64 p.ttl, .int .i64 p.ident, .int .i64 p.src, .int .i64 p.dst, .int .i64 p.pos, .bool p.more, .slice a L c0] 24) = w2 := ⟨_, rfl⟩
      rw [hw2] at hp2 bw2 ⊢
      obtain ⟨g, hg⟩ : ∃ g, g = wr.heap.size := ⟨_, rfl⟩
      rw [← hg] at hp2 ⊢
      have HG : Hid (g = wr.heap.size) := hg
      have hgB : w.heap.size < g := by omega
      have hgne : w.heap.size ≠ g := by omega
      have hul' : u7.ownBlock ≠ some g := fun e => by have := (HUL.out _ e).2; omega
      have HUG : Hid (u7.ownBlock ≠ some g) := hul'
      have P02 := hpk.below hpk.lt bw2
      have own2 := hown.below bw2
      have bel2 := hbel.trans (bw2.mono hbel.size)
      have hsz2 : w.heap.size + 1 ≤ w2.heap.size := by have := bw2.size; omega
      obtain ⟨_, _, _, _, _, y5, _, y7⟩ := P02.cells
      have c5 := hp2.cells.2.2.2.2.2.1
      have f5 := hp2.free 5
      clear hw2 hg hown hbel hpk d0 d1 d2 d3 d4 d5 d6 d7 bw2 hul' hsz
      go_upto_region 18 with fail
      have hp3 := hp2.put5 (p.pos + (ks : Int))
      try simp only at hp3
      have o3 : Only g w2 (w2.setCell ⟨g, 5, none⟩ (.int .i64 (p.pos + (ks : Int)))) := (Only.refl _ _).setCell _ _
      obtain ⟨w3, hw3⟩ : ∃ w3, w2.setCell ⟨g, 5, none⟩ (.int .i64 (p.pos + (ks : Int))) = w3 := ⟨_, rfl⟩
      rw [hw3] at hp3 o3 ⊢
      have P03 := P02.only hgne o3
      have own3 := own2.only HUG.out o3
      have bel3 := o3.below (Nat.le_of_lt hgB) bel2
      have hsz3 : w.heap.size + 1 ≤ w3.heap.size := by rw [o3.size]; exact hsz2
      obtain ⟨_, _, _, _, _, _, _, y7⟩ := P03.cells
      have c7 := hp3.cells.2.2.2.2.2.2.2
      have f7 := hp3.free 7
      try simp only at c7
      clear hw3 hp2 P02 own2 bel2 hsz2 o3 c5 f5 y5
      go_cut [68] (fun _ ww => ∃ (a7 : Option Addr) (n7 c7 : Nat), ww = w3.setCell ⟨g, 7, none⟩ (.slice a7 n7 c7) ∧ Bytes w (.slice a7 n7 c7) (p.body.drop kc))
      case first =>
        rcases HBW.out with ⟨h0, a', cap', hv, hnn⟩ | ⟨b, off, len, cap, hv, g1, g2, g3, g4, g5⟩
        · have hL0 : L = 0 := by have := HL.out; rw [h0] at this; simpa using this.symm
          have hk0 : kc = 0 := by omega
          subst hL0 hk0
          have HH : Hid (p.body = []) := h0
          rcases a with _ | ad
          · simp only [Value.slice.injEq] at hv
            obtain ⟨rfl, _, rfl⟩ := hv
            obtain rfl := hnn rfl
            clear hnn h0
            go_wp2_with fail
            go_meet
            case rel => exact ⟨_, _, _, rfl, .inl ⟨by rw [HH.out]; rfl, _, _, rfl, fun _ => rfl⟩⟩
          · clear hv hnn h0
            go_wp2_with fail
            go_meet
            case rel => exact ⟨_, _, _, rfl, .inl ⟨by rw [HH.out]; rfl, _, _, rfl, fun h => by cases h⟩⟩
        · obtain ⟨rfl, rfl, rfl⟩ : a = some ⟨b, off, none⟩ ∧ L = len ∧ c0 = cap := by simpa using hv
          have hcap : c0 ≤ 9223372036854775807 := by unfold maxLen at g2; omega
          have j4 : (L : Int) ≤ (c0 : Int) := by omega
          obtain ⟨ad, had⟩ : ∃ ad, (if c0 = kc then some (⟨b, off, none⟩ : Addr) else some ⟨b, off + kc, none⟩) = ad := ⟨_, rfl⟩
          have HR := bytes_rest kc g5 g1 g2 g3 g4 (by omega) had
          have HRR : Hid (Bytes w (.slice ad (L - kc) (c0 - kc)) (p.body.drop kc)) := HR
          clear hv HR g5
          go_wp2_with fail
          go_meet
          case rel => exact ⟨_, _, _, rfl, HRR.out⟩
      case rest =>
        obtain ⟨a7, n7, c7, hwc, hb7⟩ := hcut
        obtain ⟨zs, hzs⟩ : ∃ zs, zs = p.body.drop kc := ⟨_, rfl⟩
        have HZS : Hid (zs = p.body.drop kc) := hzs
        rw [← hzs] at hb7
        have HB7 : Hid (Bytes w (.slice a7 n7 c7) zs) := hb7
        have hp4 := hp3.put7 (.slice a7 n7 c7) zs
        try simp only at hp4
        have o4 : Only g w3 (w3.setCell ⟨g, 7, none⟩ (.slice a7 n7 c7)) := (Only.refl _ _).setCell _ _
        rw [← hwc] at hp4 o4
        have own4 := own3.only HUG.out o4
        have bel4 := o4.below (Nat.le_of_lt hgB) bel3
        have hsz4 : w.heap.size + 1 ≤ wc.heap.size := by rw [o4.size]; exact hsz3
        obtain ⟨x0, x1, x2, x3, x4, x5, x6, x7⟩ := hp4.cells
        try simp only at x0 x1 x2 x3 x4 x5 x6 x7
        clear hwc hzs hb7 hp3 o4 own3 bel3 hsz3 P03 y7 f7 hp4
        go_upto_region 20 with (at_builtin; refine wpList_append_pk rfl (.tmp 70) (.tmp 72) rfl (w.heap.size + 1) u7 qs rfl (own4.alloc _) wc.heap.size { p with pos := p.pos + (ks : Int), body := zs } a7 n7 c7 rfl (PkAt.new wc { p with pos := p.pos + (ks : Int), body := zs } (.slice a7 n7 c7)) (by omega) (by simp; omega) ?_; intro v6 w6 own6 grow6 at6)
        have bel6 := (bel4.alloc bel4.size (.cells #[.int .i64 p.kind, .int .i64 p.ttl, .int .i64 p.ident, .int .i64 p.src, .int .i64 p.dst, .int .i64 (p.pos + (ks : Int)), .bool p.more, .slice a7 n7 c7] 24)).grown grow6 (by simp; omega) (fun x hx => by have := (HUL.out _ hx).1; omega)
        have hsz6 : w.heap.size + 1 ≤ w6.heap.size := Nat.le_trans (by simp; omega) grow6.size
        obtain ⟨QS, hQS⟩ : ∃ QS, QS = qs ++ [({ p with pos := p.pos + (ks : Int), body := zs }, .slice a7 n7 c7)] := ⟨_, rfl⟩
        rw [← hQS] at own6
        have hbo : ∀ q ∈ QS, Bytes w q.2 q.1.body := by
          intro q hq
          rw [hQS] at hq
          rcases List.mem_append.1 hq with h | h
          · exact HBO.out q h
          · rw [List.mem_singleton.1 h]; exact HB7.out
        have hcutL : QS.map Prod.fst = cutL p S := by
          rw [hQS, List.map_append, HQS.out]
          unfold cutL
          rw [← HS.out, ← HKK.out]
          congr 1
          show [_] = [lsK p s k]
          unfold lsK
          rw [HZS.out, ← HC.out, HKC.out, ← HKS.out]
          simp
        have hN : QS.length = k + 1 := by rw [hQS, List.length_append, List.length_singleton]; have := congrArg List.length HQS.out; simp at this; omega
        obtain ⟨g6, cap6, hv6, _, hg6, hl6, hm6⟩ := own6.shape (by omega)
        subst hv6
        obtain ⟨N, hNN⟩ : ∃ N, QS.length = N := ⟨_, rfl⟩
        have hcells : ∀ j (h : j < N), w6.cell? ⟨g6, j * 8 + 5, none⟩ = some (.int .i64 (p.pos + ((j * s : Nat) : Int))) := by
          intro j hj
          have hj' : j < QS.length := by omega
          have hc := (own6.cells j hj' ((hbo _ (List.getElem_mem hj')).below (Nat.le_refl _) bel6)).1.2.2.2.2.2.1
          have e1 : QS[j].1 = (cutL p S)[j]'(by rw [← hcutL]; simpa using hj') := by simp only [← hcutL]; simp
          have e2 : QS[j].1.pos = p.pos + (j : Int) * ((s : Nat) : Int) := by
            rw [e1, cutL_get, ← HS.out]
            split <;> rfl
          rw [hc, e2]; simp
        have HCE : Hid (∀ j (h : j < N), w6.cell? ⟨g6, j * 8 + 5, none⟩ = some (.int .i64 (p.pos + ((j * s : Nat) : Int)))) := hcells
        have HNN : Hid (QS.length = N) := hNN
        have hNk : N = k + 1 := by omega
        have HNK : Hid (N = k + 1) := hNk
        rw [hNN] at hl6 ⊢
        have hN5 : N ≤ 501 := by omega
        have HO6 : Hid (OwnK w6 (w.heap.size + 1) (.slice (some ⟨g6, 0, none⟩) N cap6) QS) := by rw [← hNN]; exact own6
        have HBO6 : Hid (∀ q ∈ QS, Bytes w q.2 q.1.body) := hbo
        have HCL : Hid (QS.map Prod.fst = cutL p S) := hcutL
        have hcm6 : cap6 ≤ 9223372036854775807 := by unfold maxLen at hm6; omega
        clear own6 hbo hcutL hN hcells hNN hNk hQS own4 bel4 grow6 at6 x0 x1 x2 x3 x4 x5 x6 x7
        go_wp2_with fail
        go_loopw [12] (fun i ww => ∃ j : Nat, j ≤ N ∧ i = .int .i64 (j : Int) ∧ ww = w6 ∧ (j = N → p.pos + (k : Int) * (s : Int) ≤ 32767)) (fun i _ => (N - intOf i).toNat)
        case atStart => exact ⟨0, by omega, rfl, rfl, fun h => by have := HNK.out; omega⟩
        case round =>
          obtain ⟨j, hj, rfl, hww, hlast⟩ := hrel
          subst hww
          have HLA : Hid (j = N → p.pos + (k : Int) * (s : Int) ≤ 32767) := hlast
          clear hlast
          by_cases hjn : j < N
          · have t1 : (j : Int) < (N : Int) := by omega
            have t2 : (0 : Int) ≤ (j : Int) := by omega
            have x5 := HCE.out j hjn
            obtain ⟨js, hjs⟩ : ∃ js, js = j * s := ⟨_, rfl⟩
            rw [← hjs] at x5
            have HJS : Hid (js = j * s) := hjs
            clear hjs
            by_cases hfar : 32767 < p.pos + (js : Int)
            · go_wp2_with fail
              go_ret2
              refine rsplits_no (by decide) (splitE_far (by omega) HE.out ?_) bel6
              rw [show (S : Int).toNat = S by omega, ← HS.out, ← HKK.out]
              have h1 : (j : Int) * (s : Int) ≤ (k : Int) * (s : Int) := Int.mul_le_mul_of_nonneg_right (by have := HNK.out; omega) (by omega)
              have h2 : ((js : Nat) : Int) = (j : Int) * (s : Int) := by rw [HJS.out]; simp
              omega
            · go_wp2_with fail
              go_roundw
              case rel =>
                refine ⟨j + 1, by omega, by go_num, by first | rfl | trivial, fun h => ?_⟩
                have h2 : ((js : Nat) : Int) = (j : Int) * (s : Int) := by rw [HJS.out]; simp
                have h3 : j = k := by have := HNK.out; omega
                rw [h3] at h2
                omega
              case measure => simp [intOf]; omega
          · have hjN : j = N := by omega
            subst hjN
            have t1 : ¬ (j : Int) < (j : Int) := by omega
            have hE : splitE p (S : Int) = 0 := splitE_ok (by omega) HE.out (by
              rw [show (S : Int).toNat = S by omega, ← HS.out, ← HKK.out]; have := HLA.out rfl; omega)
            have HEE : Hid (splitE p (S : Int) = 0) := hE
            clear hE
            go_wp2_with fail
            go_ret2
            refine ⟨.slice (some ⟨g6, 0, none⟩) j cap6, QS, by rw [HEE.out]; rfl, ?_, HO6.out.base (by omega), fun q hq => (HBO6.out q hq).below (Nat.le_refl _) bel6, bel6⟩
            unfold splitL
            rw [if_pos HEE.out, HCL.out, show (S : Int).toNat = S by omega]
theorem rsplit_any (p : Pk) (bv : Value) (size : Int) (w : World) (hb : Bytes w bv p.body) : Calls Tryd.prog 22 #[pkV p bv, .int .i64 size] w (RSplits p size w) := by
  by_cases h : size < 8 ∨ 4000 < size
  · refine (rsplit_bad p.kind p.ttl p.ident p.src p.dst p.pos p.more bv size w h).mono ?_
    rintro e w' ⟨rfl, hw⟩
    exact rsplits_no (by decide) (splitE_bad h) hw
  · by_cases he : pkErr p = 0
    · obtain ⟨S, rfl⟩ : ∃ S : Nat, size = S := ⟨size.toNat, by omega⟩
      exact rsplit_go p bv S w hb (by omega) (by omega) he
    · refine (rsplit_err p bv size w hb (by omega) (by omega) he).mono ?_
      rintro e w' ⟨rfl, hw⟩
      exact rsplits_no he (splitE_err h he) hw
end Go.Proofs.YtlfckmigbeanhacDoor
