/- The law WireRow of package portlaw4 returns true, for every list of packets; the walk of its text. -/
import Derived.Test.YtpenenaifajejabWireEnc
import Derived.Test.YtpenenaifajejabWireSame
namespace Go.Proofs.Ytpenenaifajejab
open Go.RowKit
set_option linter.unusedVariables false

/-- Packets that lie one behind the other in memory. -/
def PkCells (w : World) (b o : Nat) (p : Pk) (bv : Value) : Prop :=
  (w.cell? ⟨b, o, none⟩ = some (.int .i64 p.kind) ∧ w.cell? ⟨b, o + 1, none⟩ = some (.int .i64 p.ttl) ∧ w.cell? ⟨b, o + 2, none⟩ = some (.int .i64 p.ident) ∧ w.cell? ⟨b, o + 3, none⟩ = some (.int .i64 p.src) ∧
    w.cell? ⟨b, o + 4, none⟩ = some (.int .i64 p.dst) ∧ w.cell? ⟨b, o + 5, none⟩ = some (.int .i64 p.pos) ∧ w.cell? ⟨b, o + 6, none⟩ = some (.bool p.more) ∧ w.cell? ⟨b, o + 7, none⟩ = some bv) ∧ Bytes w bv p.body
def Packs (w : World) (v : Value) (ps : List (Pk × Value)) : Prop :=
  (ps = [] ∧ ∃ a cap, v = .slice a 0 cap) ∨
  ∃ b off len cap, v = .slice (some ⟨b, off, none⟩) len cap ∧ len ≤ cap ∧ cap ≤ maxLen ∧ ps.length = len ∧ ∀ i (h : i < ps.length), PkCells w b (off + i * 8) ps[i].1 ps[i].2
theorem PkCells.lt {w : World} {b o : Nat} {p : Pk} {bv : Value} (h : PkCells w b o p bv) : b < w.heap.size := by
  rcases Nat.lt_or_ge b w.heap.size with h1 | h1
  · exact h1
  · have := h.1.1; simp [World.cell?, Array.getElem?_eq_none h1] at this
theorem PkCells.below {w w' : World} {b o : Nat} {p : Pk} {bv : Value} (h : PkCells w b o p bv) (hb : Below w.heap.size w w') : PkCells w' b o p bv := by
  have hl := h.lt
  obtain ⟨⟨h0, h1, h2, h3, h4, h5, h6, h7⟩, h8⟩ := h
  refine ⟨⟨?_, ?_, ?_, ?_, ?_, ?_, ?_, ?_⟩, h8.below (Nat.le_refl _) hb⟩
  · rw [hb.cell (p := ⟨b, o, none⟩) hl]; exact h0
  · rw [hb.cell (p := ⟨b, o + 1, none⟩) hl]; exact h1
  · rw [hb.cell (p := ⟨b, o + 2, none⟩) hl]; exact h2
  · rw [hb.cell (p := ⟨b, o + 3, none⟩) hl]; exact h3
  · rw [hb.cell (p := ⟨b, o + 4, none⟩) hl]; exact h4
  · rw [hb.cell (p := ⟨b, o + 5, none⟩) hl]; exact h5
  · rw [hb.cell (p := ⟨b, o + 6, none⟩) hl]; exact h6
  · rw [hb.cell (p := ⟨b, o + 7, none⟩) hl]; exact h7
theorem OwnB.below {w w' : World} {base : Nat} {v : Value} {zs : List Int} (h : OwnB w base v zs) (hb : Below w.heap.size w w') : OwnB w' base v zs := by
  refine ⟨⟨h.1.1, ?_⟩, h.2⟩
  rcases h.1.2 with h2 | ⟨g, cap, cur, hv, hg, hh, hr⟩
  · exact .inl h2
  · refine .inr ⟨g, cap, cur, hv, hg, ?_, hr⟩
    have hlt : g < w.heap.size := by
      rcases Nat.lt_or_ge g w.heap.size with h1 | h1
      · exact h1
      · simp [Array.getElem?_eq_none h1] at hh
    rw [hb.block g hlt]; exact hh

/-- Their bytes, one behind the other. -/
def encs (ps : List (Pk × Value)) : List Int := (ps.map fun q => encL q.1).flatten
theorem encs_snoc (ps : List (Pk × Value)) (k : Nat) (h : k < ps.length) : encs (ps.take (k + 1)) = encs (ps.take k) ++ encL ps[k].1 := by
  unfold encs; rw [List.take_succ_eq_append_getElem h, List.map_append, List.flatten_append]
  show _ ++ (encL _ ++ []) = _
  rw [List.append_nil]
theorem encs_cons (ps : List (Pk × Value)) (k : Nat) (h : k < ps.length) : encs (ps.drop k) = encL ps[k].1 ++ encs (ps.drop (k + 1)) := by
  unfold encs; rw [List.drop_eq_getElem_cons h, List.map_cons, List.flatten_cons]
set_option maxRecDepth 100000 in
theorem encs_len (ps : List (Pk × Value)) : ∀ k, (∀ q ∈ ps.take k, pkErr q.1 = 0) → (encs (ps.take k)).length ≤ k * 4018 := by
  intro k
  induction k with
  | zero => intro _; simp [encs]
  | succ k ih =>
    intro h
    by_cases hk : k < ps.length
    · rw [encs_snoc ps k hk, List.length_append, encL_length]
      have h1 := ih (fun q hq => h q (by rw [List.take_succ_eq_append_getElem hk]; exact List.mem_append_left _ hq))
      have h2 := (pkErr_ok (h ps[k] (by rw [List.take_succ_eq_append_getElem hk]; exact List.mem_append_right _ (List.mem_singleton.2 rfl)))).2
      omega
    · have e1 : ps.take (k + 1) = ps.take k := by rw [List.take_of_length_le (show ps.length ≤ k + 1 by omega), List.take_of_length_le (show ps.length ≤ k by omega)]
      rw [e1] at h ⊢
      have h1 := ih h
      omega
theorem bytes_rest {w : World} {b off len cap : Nat} {zs : List Int} (n : Nat) (h : Row w b off zs) (hl : len ≤ cap) (hm : cap ≤ maxLen) (h62 : len < 2 ^ 62) (hz : zs.length = len) (hn : n ≤ len) {ad : Option Addr}
    (ha : (if cap = n then some ⟨b, off, none⟩ else some ⟨b, off + n, none⟩) = ad) : Bytes w (.slice ad (len - n) (cap - n)) (zs.drop n) := by
  by_cases hc : n = len
  · subst hc
    refine .inl ⟨List.drop_eq_nil_of_le (by omega), ad, cap - n, by simp, fun h => ?_⟩
    subst h; split at ha <;> cases ha
  · rw [if_neg (by omega)] at ha
    subst ha
    have e : (zs.drop n).take (len - n) = zs.drop n := List.take_of_length_le (by simp; omega)
    exact .inr ⟨b, off + n, len - n, cap - n, rfl, by omega, by unfold maxLen at *; omega, by omega, by simp; omega, e ▸ h.part n (len - n) (by omega)⟩

theorem bel4R (w : World) {w' : World} (h : Below w.drew.heap.size w.drew w') : Below w.heap.size w w' := ⟨h.os, h.tape, h.output, h.size, h.block⟩
theorem encBytes {w : World} {g nb : Nat} {p : Pk} {E : List Int} (hE : E = encL p) (hn : p.body.length = nb) (hl : p.body.length ≤ 4000) (h : RowB w g E) : Bytes w (.slice (some ⟨g, 0, none⟩) (18 + nb) (18 + nb)) E := by
  have e := encL_length p
  rw [← hE] at e
  have hb := h.bytes 0 (18 + nb) (18 + nb) (by omega) (by omega) (by unfold maxLen; omega) (by omega)
  rw [List.drop_zero, List.take_of_length_le (by omega)] at hb
  exact hb

set_option maxRecDepth 100000 in
set_option maxHeartbeats 8000000 in
theorem row_any (b off len cap : Nat) (ps : List (Pk × Value)) (w : World) (hl : len ≤ cap) (hm : cap ≤ maxLen) (hz : ps.length = len) (hp : ∀ i (h : i < ps.length), PkCells w b (off + i * 8) ps[i].1 ps[i].2) :
    Calls Try.prog 3 #[.slice (some ⟨b, off, none⟩) len cap] w fun e w' => e = .returned (.bool true) ∧ Below w.heap.size w w' := by
  have hm' := hm
  unfold maxLen at hm'
  have hrd := read_any (.slice none 0 0) [] w (.inl ⟨rfl, _, _, rfl, fun _ => rfl⟩)
  rw [show meas [] = (0, 8) from rfl, show readF [] = zeroK from rfl, show errV 8 = .iface 40 (.int .i64 8) from rfl] at hrd
  unfold pkV zeroK at hrd
  simp only at hrd
  have HP : Hid (∀ i (h : i < ps.length), PkCells w b (off + i * 8) ps[i].1 ps[i].2) := hp
  have HZ : Hid (ps.length = len) := hz
  clear hp
  go_enter Try.func3, Try.ntmps3
  go_upto_region 2 with (go_at_call 4; refine hrd.mono ?_; rintro e w1 ⟨v1, rfl, hv1, bw1⟩; obtain ⟨a1, c1, rfl⟩ := len_body hv1)
  have bw2 : Below w.heap.size w (w1.alloc (.cells #[.int .i64 0, .int .i64 0, .int .i64 0, .int .i64 0, .int .i64 0, .int .i64 0, .bool false, .slice a1 0 c1] 25)) := bw1.alloc bw1.size _
  obtain ⟨w2, hw2⟩ : ∃ w2, w1.alloc (.cells #[.int .i64 0, .int .i64 0, .int .i64 0, .int .i64 0, .int .i64 0, .int .i64 0, .bool false, .slice a1 0 c1] 25) = w2 := ⟨_, rfl⟩
  have hw2' : w1.alloc (.cells #[.int .i64 0, .int .i64 0, .int .i64 0, .int .i64 0, .int .i64 0, .int .i64 0, .bool false, .slice a1 ([] : List Int).length c1] 25) = w2 := hw2
  rw [hw2] at bw2
  first | rw [hw2] | rw [hw2']
  clear hw2 hw2' hrd hv1 bw1
  go_wp2_with fail
  go_loopw [6, 7] (fun v i wr => ∃ k : Nat, k ≤ len ∧ k ≤ 20 ∧ i = .int .i64 (k : Int) ∧ OwnB wr w.heap.size v (encs (ps.take k)) ∧ Hid (∀ q ∈ ps.take k, pkErr q.1 = 0) ∧ Below w.heap.size w wr) (fun _ i _ => (20 - intOf i).toNat)
  case atStart => exact ⟨0, by omega, by omega, rfl, OwnB.nil _ _, fun q hq => by simp at hq, bw2⟩
  case round =>
    obtain ⟨k, hk, hk20, rfl, hown, HE, hbel⟩ := hrel
    by_cases hc : k < len ∧ k < 20
    · obtain ⟨hc1, hc2⟩ := hc
      have i1 : (k : Int) < (len : Int) := by omega
      have i2 : (k : Int) < 20 := by omega
      have hkz : k < ps.length := by omega
      obtain ⟨q, hq⟩ : ∃ q, q = ps[k] := ⟨_, rfl⟩
      have hpk := (HP.out k hkz).below hbel
      rw [← hq] at hpk
      obtain ⟨p, bv⟩ := q
      obtain ⟨⟨d0, d1, d2, d3, d4, d5, d6, d7⟩, hbv⟩ := hpk
      simp only at d0 d1 d2 d3 d4 d5 d6 d7 hbv
      have hen := encode_any p bv wr hbv
      obtain ⟨ab, cb, rfl⟩ := len_body hbv
      unfold pkV at hen
      have HQ : Hid ((p, Value.slice ab p.body.length cb) = ps[k]) := hq
      obtain ⟨nb, hnb⟩ : ∃ nb, p.body.length = nb := ⟨_, rfl⟩
      rw [hnb] at d7
      rw [show Value.slice ab p.body.length cb = Value.slice ab nb cb by rw [hnb]] at hen
      have HNB : Hid (p.body.length = nb) := hnb
      clear hq hnb
      by_cases he : pkErr p = 0
      · have HI : Hid (pkErr p = 0) := he
        have hlen := (pkErr_ok he).2
        have hel := encs_len ps k HE.out
        have heL := encL_length p
        obtain ⟨E, HEe⟩ : ∃ E, Hid (E = encL p) := ⟨_, rfl⟩
        rw [← HEe.out] at hen heL
        obtain ⟨ys, hys⟩ : ∃ ys, ys = encs (ps.take k) := ⟨_, rfl⟩
        have HY : Hid (ys = encs (ps.take k)) := hys
        rw [← hys] at hown hel
        have hl1 : ys.length ≤ 80360 := by omega
        have hl2 : E.length ≤ 4018 := by omega
        have hne : 0 < E.length := by omega
        generalize hm : pkErr p = m at hen he
        subst he
        rw [show p.body.length = nb from HNB.out] at hen
        clear hm hys hel heL
        go_wp2_with (first
          | (go_at_call 5; refine hen.mono ?_; rintro e w3 ⟨hyes, _, bw3⟩; obtain ⟨g, rfl, hrow, hg⟩ := hyes rfl; have own3 := hown.below bw3; have bel3 := hbel.trans (bw3.mono hbel.size); have hbE : Bytes w3 (.slice (some ⟨g, 0, none⟩) (18 + nb) (18 + nb)) E := encBytes HEe.out HNB.out hlen hrow)
          | (at_builtin; refine wpList_append_bytes rfl (.tmp 42) (.tmp 43) rfl w.heap.size _ ys rfl own3 _ E rfl hbE (by omega) bel3.size ?_; intro v4 w4 own4 grow4; have bel4 := bel3.grown grow4 bel3.size (fun k hk => (own3.1.lt k hk).1)))
        go_roundw
        case rel =>
          refine ⟨k + 1, by omega, by omega, by go_num, ?_, ?_, bel4⟩
          · rw [encs_snoc ps k hkz, ← HY.out, ← HQ.out, ← HEe.out]; exact own4
          · intro q hq
            rw [List.take_succ_eq_append_getElem hkz] at hq
            rcases List.mem_append.1 hq with h | h
            · exact HE.out q h
            · rw [List.mem_singleton.1 h, ← HQ.out]; exact HI.out
        case measure => simp [intOf]; omega
      · have HI : Hid (¬ pkErr p = 0) := he
        generalize pkErr p = m at hen he
        clear HI
        go_wp2_with (go_at_call 5; refine hen.mono ?_; rintro e w3 ⟨_, hno, bw3⟩; obtain rfl := hno he; clear hno)
        go_ret
        exact ⟨rfl, hbel.trans (bw3.mono hbel.size)⟩
    · have hkz : len ≤ k ∨ 20 ≤ k := by omega
      have hkq : ps.take k = ps.take 20 := by
        have hz := HZ.out
        rcases hkz with h | h
        · rw [List.take_of_length_le (show ps.length ≤ k by omega), List.take_of_length_le (show ps.length ≤ 20 by omega)]
        · rw [show k = 20 by omega]
      obtain ⟨qs, HQS⟩ : ∃ qs, Hid (qs = ps.take 20) := ⟨_, rfl⟩
      rw [hkq, ← HQS.out] at hown HE
      have hK : qs.length ≤ len ∧ qs.length ≤ 20 ∧ (qs.length = len ∨ qs.length = 20) := by
        rw [HQS.out, List.length_take, HZ.out]; omega
      have hel := encs_len qs qs.length (by rw [List.take_length]; exact HE.out)
      rw [List.take_length] at hel
      have hl1 : (encs qs).length ≤ 80360 := by omega
      have hbs := hown.bytes (by omega)
      obtain ⟨zs0, hzs0⟩ : ∃ zs0, zs0 = encs qs := ⟨_, rfl⟩
      rw [← hzs0] at hbs
      have HB0 : Hid (zs0 = encs qs) := hzs0
      obtain ⟨aS, cS, rfl⟩ := len_body hbs
      have HPQ : Hid (∀ i (h : i < qs.length), PkCells w b (off + i * 8) qs[i].1 qs[i].2 ∧ pkErr qs[i].1 = 0) := by
        intro i h
        have hi : i < ps.length := by rw [HQS.out, List.length_take] at h; omega
        have e : qs[i] = ps[i] := by
          have hq := HQS.out
          subst hq
          simp
        rw [e]
        refine ⟨HP.out i hi, ?_⟩
        rw [← e]
        exact HE.out _ (List.getElem_mem _)
      clear hown HE hzs0 hel hl1 hkq
      go_upto_region 6 with fail
      go_cut [29] (fun s ww => s = .bool false ∧ ww = wr)
      case first =>
        by_cases h1 : k < len
        · have i1 : (k : Int) < (len : Int) := by omega
          have i2 : ¬ (k : Int) < 20 := by omega
          go_wp2_with fail
          go_meet
          case rel => exact ⟨rfl, rfl⟩
        · have i1 : ¬ (k : Int) < (len : Int) := by omega
          go_wp2_with fail
          go_meet
          case rel => exact ⟨rfl, rfl⟩
      case rest =>
        obtain ⟨hx, hy⟩ := hcut
        subst hx hy
        go_wp2_with fail
        go_loopw [6, 10] (fun v i wr => ∃ j : Nat, j ≤ qs.length ∧ i = .int .i64 (j : Int) ∧ Bytes wr v (encs (qs.drop j)) ∧ Below w.heap.size w wr) (fun _ i _ => (20 - intOf i).toNat)
        case atStart => exact ⟨0, by omega, rfl, by rw [List.drop_zero, ← HB0.out]; exact hbs, hbel⟩
        case round =>
          obtain ⟨j, hj, rfl, hbj, hbelj⟩ := hrel
          by_cases hjc : j < qs.length
          · have i1 : (j : Int) < (len : Int) := by omega
            have i2 : (j : Int) < 20 := by omega
            have i3 : (0 : Int) ≤ (j : Int) := by omega
            have hpk0 := HPQ.out j hjc
            have hcs := encs_cons qs j hjc
            obtain ⟨q, hq⟩ : ∃ q, q = qs[j] := ⟨_, rfl⟩
            rw [← hq] at hpk0 hcs
            obtain ⟨p, bv⟩ := q
            obtain ⟨hpk, he⟩ := hpk0
            simp only at he hpk hcs
            rw [hcs] at hbj
            have hlt := hpk.lt
            have hrd := read_any _ _ wr hbj
            rw [meas_enc p _ he, readF_enc p _ he, errV_ok] at hrd
            have hlen := (pkErr_ok he).2
            have hel := encL_length p
            obtain ⟨nb, hnb⟩ : ∃ nb, p.body.length = nb := ⟨_, rfl⟩
            obtain ⟨N, hN⟩ : ∃ N, N = 18 + nb := ⟨_, rfl⟩
            have eN : 18 + (p.body.length : Int) = (N : Int) := by omega
            unfold pkV at hrd
            simp only [eN] at hrd
            have hN1 : 18 + nb ≤ N ∧ N ≤ 18 + nb := by omega
            have hnb1 : nb ≤ 4000 := by omega
            have hqn : ((N : Int) != 18 + (nb : Int)) = false := by
              rw [bne_eq_false_iff_eq]; omega
            rcases hbj with ⟨h0, _⟩ | ⟨bb, bo, bl, bc, hv, g1, g2, g3, g4, g5⟩
            · exfalso
              have := congrArg List.length h0
              rw [List.length_append, hel] at this
              simp at this
            subst hv
            have hNl : N ≤ bl := by rw [← g4, List.length_append, hel]; omega
            have hN0 : (0 : Int) ≤ (N : Int) := by omega
            have hNl' : (N : Int) ≤ (bl : Int) := by omega
            have hNc' : (N : Int) ≤ (bc : Int) := by omega
            have blc : (bl : Int) ≤ (bc : Int) := by omega
            obtain ⟨ad, had⟩ : ∃ ad, (if bc = N then some (⟨bb, bo, none⟩ : Addr) else some ⟨bb, bo + N, none⟩) = ad := ⟨_, rfl⟩
            have HD : Hid ((encL p ++ encs (qs.drop (j + 1))).drop N = encs (qs.drop (j + 1))) := by
              show (encL p ++ encs (qs.drop (j + 1))).drop N = encs (qs.drop (j + 1))
              rw [List.drop_append, List.drop_eq_nil_of_le (by omega), hel, show N - (18 + p.body.length) = 0 by omega]; rfl
            have HNB : Hid (p.body.length = nb) := hnb
            have hbb : bb < wr.heap.size := g5.lt (by omega)
            obtain ⟨zs, hzs⟩ : ∃ zs, zs = encL p ++ encs (qs.drop (j + 1)) := ⟨_, rfl⟩
            rw [← hzs] at HD g5 g4
            have hpk1 := hpk.below hbelj
            obtain ⟨_, hbv⟩ := hpk
            obtain ⟨ab, cb, hab⟩ := len_body hbv
            subst hab
            rw [hnb] at hpk1
            clear hcs hnb hN eN hq he hlen hel hzs
            go_upto_region 16 with (go_at_call 4; refine hrd.mono ?_; rintro e w3 ⟨v3, rfl, hv3, bw3⟩; obtain ⟨ar, cr, rfl⟩ := len_body hv3)
            have hp4 := PkAt.new w3 p (.slice ar p.body.length cr)
            have bel4 : Below wr.heap.size wr (w3.alloc (.cells #[.int .i64 p.kind, .int .i64 p.ttl, .int .i64 p.ident, .int .i64 p.src, .int .i64 p.dst, .int .i64 p.pos, .bool p.more, .slice ar p.body.length cr] 25)) := bw3.alloc bw3.size _
            have hbr4 := hv3.alloc (.cells #[.int .i64 p.kind, .int .i64 p.ttl, .int .i64 p.ident, .int .i64 p.src, .int .i64 p.dst, .int .i64 p.pos, .bool p.more, .slice ar p.body.length cr] 25)
            obtain ⟨w4, hw4⟩ : ∃ w4, w3.alloc (.cells #[.int .i64 p.kind, .int .i64 p.ttl, .int .i64 p.ident, .int .i64 p.src, .int .i64 p.dst, .int .i64 p.pos, .bool p.more, .slice ar p.body.length cr] 25) = w4 := ⟨_, rfl⟩
            rw [hw4] at hp4 bel4 hbr4 ⊢
            rw [HNB.out] at hp4 hbr4
            obtain ⟨B, hB⟩ : ∃ B, B = w3.heap.size := ⟨_, rfl⟩
            rw [← hB] at hp4 ⊢
            have hB0 : wr.heap.size ≤ B := by have := bw3.size; omega
            have hpk4 := hpk1.below bel4
            have belw4 : Below w.heap.size w w4 := hbelj.trans (bel4.mono hbelj.size)
            have hbv4 := hbv.below (Nat.le_refl _) belw4
            rw [HNB.out] at hbv4
            have hg4 := g5.below hbb bel4
            clear hw4 hv3 bw3 hpk1 hrd hB g5 hbv
            have hsm := samePk p (.slice ar nb cr) (.slice ab nb cb) w4.drew (hbr4.drewN 1) (hbv4.drewN 1)
            unfold pkV at hsm
            have hS4 : (w4.cell? ⟨B, 0, none⟩ = some (.int .i64 p.kind) ∧ w4.cell? ⟨B, 1, none⟩ = some (.int .i64 p.ttl) ∧ w4.cell? ⟨B, 2, none⟩ = some (.int .i64 p.ident) ∧ w4.cell? ⟨B, 3, none⟩ = some (.int .i64 p.src) ∧ w4.cell? ⟨B, 4, none⟩ = some (.int .i64 p.dst) ∧ w4.cell? ⟨B, 5, none⟩ = some (.int .i64 p.pos) ∧ w4.cell? ⟨B, 6, none⟩ = some (.bool p.more) ∧ w4.cell? ⟨B, 7, none⟩ = some (.slice ar nb cr)) ∧ (w4.cell? ⟨b, off + j * 8, none⟩ = some (.int .i64 p.kind) ∧ w4.cell? ⟨b, off + j * 8 + 1, none⟩ = some (.int .i64 p.ttl) ∧ w4.cell? ⟨b, off + j * 8 + 2, none⟩ = some (.int .i64 p.ident) ∧ w4.cell? ⟨b, off + j * 8 + 3, none⟩ = some (.int .i64 p.src) ∧ w4.cell? ⟨b, off + j * 8 + 4, none⟩ = some (.int .i64 p.dst) ∧ w4.cell? ⟨b, off + j * 8 + 5, none⟩ = some (.int .i64 p.pos) ∧ w4.cell? ⟨b, off + j * 8 + 6, none⟩ = some (.bool p.more) ∧ w4.cell? ⟨b, off + j * 8 + 7, none⟩ = some (.slice ab nb cb)) := ⟨hp4.cells, hpk4.1⟩
            clear hbr4 hbv4
            go_region_held3 (fun w' => (w'.cell? ⟨B, 0, none⟩ = some (.int .i64 p.kind) ∧ w'.cell? ⟨B, 1, none⟩ = some (.int .i64 p.ttl) ∧ w'.cell? ⟨B, 2, none⟩ = some (.int .i64 p.ident) ∧ w'.cell? ⟨B, 3, none⟩ = some (.int .i64 p.src) ∧ w'.cell? ⟨B, 4, none⟩ = some (.int .i64 p.dst) ∧ w'.cell? ⟨B, 5, none⟩ = some (.int .i64 p.pos) ∧ w'.cell? ⟨B, 6, none⟩ = some (.bool p.more) ∧ w'.cell? ⟨B, 7, none⟩ = some (.slice ar nb cr)) ∧ (w'.cell? ⟨b, off + j * 8, none⟩ = some (.int .i64 p.kind) ∧ w'.cell? ⟨b, off + j * 8 + 1, none⟩ = some (.int .i64 p.ttl) ∧ w'.cell? ⟨b, off + j * 8 + 2, none⟩ = some (.int .i64 p.ident) ∧ w'.cell? ⟨b, off + j * 8 + 3, none⟩ = some (.int .i64 p.src) ∧ w'.cell? ⟨b, off + j * 8 + 4, none⟩ = some (.int .i64 p.dst) ∧ w'.cell? ⟨b, off + j * 8 + 5, none⟩ = some (.int .i64 p.pos) ∧ w'.cell? ⟨b, off + j * 8 + 6, none⟩ = some (.bool p.more) ∧ w'.cell? ⟨b, off + j * 8 + 7, none⟩ = some (.slice ab nb cb))) (with_reducible first | assumption | go_keep) (first
              | (go_at_call 6; refine hsm.mono ?_; rintro e w5 ⟨rfl, bw5⟩; have hp5 := hp4.below hp4.lt (bel4R w4 bw5); have hpk5 := hpk4.below (bel4R w4 bw5); have hS5 : (w5.cell? ⟨B, 0, none⟩ = some (.int .i64 p.kind) ∧ w5.cell? ⟨B, 1, none⟩ = some (.int .i64 p.ttl) ∧ w5.cell? ⟨B, 2, none⟩ = some (.int .i64 p.ident) ∧ w5.cell? ⟨B, 3, none⟩ = some (.int .i64 p.src) ∧ w5.cell? ⟨B, 4, none⟩ = some (.int .i64 p.dst) ∧ w5.cell? ⟨B, 5, none⟩ = some (.int .i64 p.pos) ∧ w5.cell? ⟨B, 6, none⟩ = some (.bool p.more) ∧ w5.cell? ⟨B, 7, none⟩ = some (.slice ar nb cr)) ∧ (w5.cell? ⟨b, off + j * 8, none⟩ = some (.int .i64 p.kind) ∧ w5.cell? ⟨b, off + j * 8 + 1, none⟩ = some (.int .i64 p.ttl) ∧ w5.cell? ⟨b, off + j * 8 + 2, none⟩ = some (.int .i64 p.ident) ∧ w5.cell? ⟨b, off + j * 8 + 3, none⟩ = some (.int .i64 p.src) ∧ w5.cell? ⟨b, off + j * 8 + 4, none⟩ = some (.int .i64 p.dst) ∧ w5.cell? ⟨b, off + j * 8 + 5, none⟩ = some (.int .i64 p.pos) ∧ w5.cell? ⟨b, off + j * 8 + 6, none⟩ = some (.bool p.more) ∧ w5.cell? ⟨b, off + j * 8 + 7, none⟩ = some (.slice ab nb cb)) := ⟨hp5.cells, hpk5.1⟩))
            have c7 := hp5.cells.2.2.2.2.2.2.2
            have hg5 := hg4.below (Nat.lt_of_lt_of_le hbb bel4.size) (bel4R w4 bw5)
            have bel5 : Below w.heap.size w w5 := belw4.trans ((bel4R w4 bw5).mono belw4.size)
            clear hS4 hS5 hsm hpk4 hpk5 hp4 hp5 bw5 hg4 bel4 belw4
            go_wp2
            go_roundw
            case rel =>
              refine ⟨j + 1, by omega, by go_num, ?_, bel5⟩
              rw [← HD.out]
              exact bytes_rest N hg5 g1 g2 g3 g4 hNl had
            case measure => simp [intOf]; omega
          · have hbz : encs (qs.drop j) = [] := by rw [List.drop_eq_nil_of_le (by omega)]; rfl
            rw [hbz] at hbj
            obtain ⟨az, cz, rfl⟩ := len_body hbj
            go_upto_region 13 with fail
            go_cut [52] (fun s ww => s = .bool false ∧ ww = wr)
            case first =>
              by_cases h1 : j < len
              · have i1 : (j : Int) < (len : Int) := by omega
                have i2 : ¬ (j : Int) < 20 := by omega
                go_wp2_with fail
                go_meet
                case rel => exact ⟨rfl, rfl⟩
              · have i1 : ¬ (j : Int) < (len : Int) := by omega
                go_wp2_with fail
                go_meet
                case rel => exact ⟨rfl, rfl⟩
            case rest =>
              obtain ⟨hx, hy⟩ := hcut
              subst hx hy
              go_wp2
              go_ret
              exact ⟨rfl, hbelj⟩
end Go.Proofs.Ytpenenaifajejab
