/- What the reference's Wire returns of a packet that is right (package portref1): the packet's bytes, in a row of the call's own. -/
import Derived.Test.YtpenenaifajejabDoorRefBytes
import Derived.Test.YtpenenaifajejabDoorWireStep
namespace Go.Proofs.YtpenenaifajejabDoor
open Go.RowKit
set_option linter.unusedVariables false

theorem pw8 : pw (8 * ((1 : Nat) : Int)) = 256 := by decide
theorem pw0 : pw (8 * ((0 : Nat) : Int)) = 1 := by decide
theorem pw16 : pw (8 * ((2 : Nat) : Int)) = 65536 := by decide
theorem pw24 : pw (8 * ((3 : Nat) : Int)) = 16777216 := by decide
theorem be2 (n : Int) : beL 2 n = [n / 256 % 256, n % 256] := by
  show [n / pw (8 * ((1 : Nat) : Int)) % 256, n / pw (8 * ((0 : Nat) : Int)) % 256] = _
  rw [pw8, pw0, Int.ediv_one]
theorem be4 (n : Int) : beL 4 n = [n / 256 / 256 / 256 % 256, n / 256 / 256 % 256, n / 256 % 256, n % 256] := by
  show [n / pw (8 * ((3 : Nat) : Int)) % 256, n / pw (8 * ((2 : Nat) : Int)) % 256, n / pw (8 * ((1 : Nat) : Int)) % 256, n / pw (8 * ((0 : Nat) : Int)) % 256] = _
  rw [pw24, pw16, pw8, pw0, Int.ediv_one]
  have e1 : n / 16777216 = n / 256 / 256 / 256 := by omega
  have e2 : n / 65536 = n / 256 / 256 := by omega
  rw [e1, e2]
theorem refBytes2 {v : Value} {ys : List Int} {base : Nat} {w : World} (hown : OwnB w base v ys) (n : Int) (hn0 : 0 ≤ n) (hn1 : n ≤ 4294967295) (hy : ys.length ≤ 100000) (hbase : base ≤ w.heap.size) :
    Calls Tryd.prog 38 #[v, .int .i64 n, .int .i64 2] w fun e w' => ∃ v', e = .returned v' ∧ OwnB w' base v' (ys ++ [n / 256 % 256, n % 256]) ∧ Grew v v' w w' := by
  have h := refBytes_any v ys n 2 base w hown hn0 hn1 (by omega) hy hbase
  rw [be2] at h; exact h
theorem refBytes4 {v : Value} {ys : List Int} {base : Nat} {w : World} (hown : OwnB w base v ys) (n : Int) (hn0 : 0 ≤ n) (hn1 : n ≤ 4294967295) (hy : ys.length ≤ 100000) (hbase : base ≤ w.heap.size) :
    Calls Tryd.prog 38 #[v, .int .i64 n, .int .i64 4] w fun e w' => ∃ v', e = .returned v' ∧ OwnB w' base v' (ys ++ [n / 256 / 256 / 256 % 256, n / 256 / 256 % 256, n / 256 % 256, n % 256]) ∧ Grew v v' w w' := by
  have h := refBytes_any v ys n 4 base w hown hn0 hn1 (by omega) hy hbase
  rw [be4] at h; exact h
theorem own_lit (w : World) (base : Nat) (hb : base ≤ w.heap.size) (zs : List Int) (h : ∀ x ∈ zs, 0 ≤ x ∧ x ≤ 255) (hm : zs.length ≤ maxLen) :
    OwnB (w.alloc (.cells (zs.map (Value.int .u8)).toArray 5)) base (.slice (some ⟨w.heap.size, 0, none⟩) zs.length zs.length) zs :=
  ⟨World.ownsRow_lit w (zs.map (Value.int .u8)).toArray zs.length hb hm (by simp), h⟩
/-- A row beside one that grows. -/
theorem OwnB.beside {w w' : World} {base b' : Nat} {t v v' : Value} {zs ys : List Int} (h : OwnB w base t zs) (hv : OwnB w b' v ys) (hlt : ∀ k, v.ownBlock = some k → k < base) (hg : w.grownBy w' v.ownBlock) : OwnB w' base t zs := by
  refine ⟨h.1.kept hg ?_, h.2⟩
  rcases ht : t.ownBlock with _ | k
  · exact .inl rfl
  · refine .inr (fun he => ?_)
    have h1 := (h.1.lt k ht).1
    have h2 := hlt k (by rw [← he])
    omega
theorem OwnB.block_lt {w : World} {base : Nat} {v : Value} {zs : List Int} (h : OwnB w base v zs) : ∀ k, v.ownBlock = some k → k < w.heap.size := fun k hk => (h.1.lt k hk).2
theorem OwnB.block_ge {w : World} {base : Nat} {v : Value} {zs : List Int} (h : OwnB w base v zs) : ∀ k, v.ownBlock = some k → base ≤ k := fun k hk => (h.1.lt k hk).1

theorem OwnB.apart {w w' : World} {base : Nat} {t : Value} {zs : List Int} {row : Option Nat} (h : OwnB w base t zs) (hg : w.grownBy w' row) (hne : ∀ k, t.ownBlock = some k → row = some k → False) : OwnB w' base t zs := by
  refine ⟨h.1.kept hg ?_, h.2⟩
  rcases ht : t.ownBlock with _ | k
  · exact .inl rfl
  · exact .inr (fun he => hne k ht he.symm)
theorem enc_list (p : Pk) (nb : Nat) (hnb : p.body.length = nb) (hk : 0 ≤ p.kind ∧ p.kind ≤ 15) (ht : 0 ≤ p.ttl ∧ p.ttl ≤ 255) {H T : List Int} {S : Int} (hH : H = [80 + p.kind, p.ttl] ++ [(18 + (nb : Int)) / 256 % 256, (18 + (nb : Int)) % 256] ++ [p.ident / 256 % 256, p.ident % 256] ++ [plc p / 256 % 256, plc p % 256])
    (hT : T = [] ++ [p.src / 256 / 256 / 256 % 256, p.src / 256 / 256 % 256, p.src / 256 % 256, p.src % 256] ++ [p.dst / 256 / 256 / 256 % 256, p.dst / 256 / 256 % 256, p.dst / 256 % 256, p.dst % 256]) (hS : S = sumH p) : H ++ [S / 256 % 256, S % 256] ++ T ++ p.body = encL p := by
  subst hH hT hS
  have e1 : (80 + p.kind) % 256 = 80 + p.kind := by omega
  have e2 : p.ttl % 256 = p.ttl := by omega
  unfold encL headZ
  rw [e1, e2, hnb]
  rfl
theorem enc_tot (p : Pk) (nb : Nat) (hnb : p.body.length = nb) (hk : 0 ≤ p.kind ∧ p.kind ≤ 15) (ht : 0 ≤ p.ttl ∧ p.ttl ≤ 255) {H T : List Int} (hH : H = [80 + p.kind, p.ttl] ++ [(18 + (nb : Int)) / 256 % 256, (18 + (nb : Int)) % 256] ++ [p.ident / 256 % 256, p.ident % 256] ++ [plc p / 256 % 256, plc p % 256])
    (hT : T = [] ++ [p.src / 256 / 256 / 256 % 256, p.src / 256 / 256 % 256, p.src / 256 % 256, p.src % 256] ++ [p.dst / 256 / 256 / 256 % 256, p.dst / 256 / 256 % 256, p.dst / 256 % 256, p.dst % 256]) (hb : ∀ x ∈ [] ++ H ++ T, 0 ≤ x ∧ x ≤ 255) : tot 0 ([] ++ H ++ T) = tot 0 (headZ p 0) := by
  rw [tot_norm _ 0 hb (by omega) (by omega), tot_norm _ 0 (headZ_byte p 0) (by omega) (by omega)]
  congr 2
  subst hH hT
  simp only [List.nil_append, List.cons_append, wsum, headZ, hnb]
  omega

set_option maxRecDepth 100000 in
set_option maxHeartbeats 8000000 in
theorem refWire_any (p : Pk) (a : Option Addr) (nb cb : Nat) (w : World) (hnb : p.body.length = nb) (hb : Bytes w (.slice a nb cb) p.body) (he : pkErr p = 0) :
    Calls Tryd.prog 19 #[pkV p (.slice a nb cb)] w fun e w' => ∃ v, e = .returned v ∧ OwnB w' w.heap.size v (encL p) ∧ Below w.heap.size w w' := by
  obtain ⟨hpk, hlen⟩ := pkErr_ok he
  obtain ⟨hk, ht, hi, hs, hd, ho⟩ := of_pkIn hpk
  have hpl := plc_range hpk
  have hp1 := PkAt.new w p (.slice a nb cb)
  have b1 : Below w.heap.size w (w.alloc (.cells #[.int .i64 p.kind, .int .i64 p.ttl, .int .i64 p.ident, .int .i64 p.src, .int .i64 p.dst, .int .i64 p.pos, .bool p.more, .slice a nb cb] 47)) := (Below.refl _ _).alloc (Nat.le_refl _) _
  have HNB : Hid (p.body.length = nb) := hnb
  have HB : Hid (Bytes w (.slice a nb cb) p.body) := hb
  have hnb1 : nb ≤ 4000 := by omega
  unfold pkV
  clear hnb hb he hpk hlen
  go_enter Tryd.func19, Tryd.ntmps19
  go_upto_region 1 with fail
  generalize Value.agg #[.int .i64 p.kind, .int .i64 p.ttl, .int .i64 p.ident, .int .i64 p.src, .int .i64 p.dst, .int .i64 p.pos, .bool p.more, .slice a nb cb] = V0
  obtain ⟨w1, hw1⟩ : ∃ w1, w.alloc (.cells #[.int .i64 p.kind, .int .i64 p.ttl, .int .i64 p.ident, .int .i64 p.src, .int .i64 p.dst, .int .i64 p.pos, .bool p.more, .slice a nb cb] 47) = w1 := ⟨_, rfl⟩
  have hsz : w1.heap.size = w.heap.size + 1 := by rw [← hw1]; simp
  rw [hw1] at hp1 b1 ⊢
  obtain ⟨B, hB⟩ : ∃ B, B = w.heap.size := ⟨_, rfl⟩
  rw [← hB] at hp1 hsz ⊢
  have HBw : Hid (B = w.heap.size) := hB
  have hs1 : B + 1 ≤ w1.heap.size := by omega
  have hs2 : w1.heap.size ≤ B + 1 := by omega
  clear hw1 hB hsz
  obtain ⟨c0, c1, c2, c3, c4, c5, c6, c7⟩ := hp1.cells
  go_upto_if 10 with fail
  go_cut [3] (fun s ww => s = .int .i64 (plc p) ∧ ww = w1)
  case first =>
    rcases hm : p.more with _ | _
    · have e : Hid (p.pos = plc p) := by unfold plc; rw [hm]; rfl
      go_wp2_with fail
      go_meet
      case rel => exact ⟨congrArg (Value.int .i64) e.out, rfl⟩
    · have e : Hid (p.pos + 32768 = plc p) := by unfold plc; rw [hm]; rfl
      go_wp2_with fail
      go_meet
      case rel => exact ⟨congrArg (Value.int .i64) e.out, rfl⟩
  case rest =>
    obtain ⟨hx, hy⟩ := hcut
    subst hx hy
    go_upto_region 5 with fail
    have o2 := own_lit wc (B + 1) hs1 [80 + p.kind, p.ttl] (by intro x hx; simp at hx; omega) (by simp [maxLen])
    simp only [List.length_cons, List.length_nil, Nat.zero_add, Nat.reduceAdd, List.map_cons, List.map_nil] at o2
    have e2 : Below (B + 1) wc (wc.alloc (.cells #[.int .u8 (80 + p.kind), .int .u8 p.ttl] 5)) := (Below.refl _ _).alloc hs1 _
    have hb5 := refBytes2 o2 (18 + (nb : Int)) (by omega) (by omega) (by simp) (by have := e2.size; omega)
    have d7 := (hp1.below (Nat.lt_succ_self _) e2).cells.2.2.2.2.2.2.2
    clear c0 c1 c2 c3 c4 c5 c6 c7
    go_wp2_with fail
    refine hb5.mono ?_
    rintro e w3 ⟨v3, rfl, o3, g3⟩
    have e3 := g3.below e2 (Nat.le_trans hs1 e2.size) o2.block_ge
    have d2 := (hp1.below (Nat.lt_succ_self _) e3).cells.2.2.1
    have z3 : B + 1 ≤ w3.heap.size := Nat.le_trans hs1 e3.size
    have hb6 := refBytes2 o3 p.ident (by omega) (by omega) (by simp) z3
    clear d7 hb5 g3 o2 e2
    go_wp2_with fail
    refine hb6.mono ?_
    rintro e w4 ⟨v4, rfl, o4, g4⟩
    have e4 := g4.below e3 z3 o3.block_ge
    have z4 : B + 1 ≤ w4.heap.size := Nat.le_trans hs1 e4.size
    have hb7 := refBytes2 o4 (plc p) (by omega) (by omega) (by simp) z4
    clear d2 hb6 g4 o3 e3 z3
    go_wp2_with fail
    refine hb7.mono ?_
    rintro e w5 ⟨v5, rfl, o5, g5⟩
    have e5 := g5.below e4 z4 o4.block_ge
    have z5 : B + 1 ≤ w5.heap.size := Nat.le_trans hs1 e5.size
    have d3 := (hp1.below (Nat.lt_succ_self _) e5).cells.2.2.2.1
    have hb8 := refBytes4 (OwnB.nil w5 w5.heap.size) p.src (by omega) (by omega) (by simp) (Nat.le_refl _)
    obtain ⟨H, hH⟩ : ∃ H, H = [80 + p.kind, p.ttl] ++ [(18 + (nb : Int)) / 256 % 256, (18 + (nb : Int)) % 256] ++ [p.ident / 256 % 256, p.ident % 256] ++ [plc p / 256 % 256, plc p % 256] := ⟨_, rfl⟩
    rw [← hH] at o5
    have hHl : H.length ≤ 8 := by rw [hH]; simp
    have HH : Hid (H = [80 + p.kind, p.ttl] ++ [(18 + (nb : Int)) / 256 % 256, (18 + (nb : Int)) % 256] ++ [p.ident / 256 % 256, p.ident % 256] ++ [plc p / 256 % 256, plc p % 256]) := hH
    clear hb7 g5 o4 e4 z4 hH
    go_wp2_with fail
    refine hb8.mono ?_
    rintro e w6 ⟨v6, rfl, t6, g6⟩
    have e6 := g6.below e5 z5 (fun k hk => by cases hk)
    have z6 : B + 1 ≤ w6.heap.size := Nat.le_trans hs1 e6.size
    have o6 := o5.apart g6.1 (fun k _ h => by cases h)
    have hv5 := o5.block_lt
    have d4 := (hp1.below (Nat.lt_succ_self _) e6).cells.2.2.2.2.1
    have hb9 := refBytes4 t6 p.dst (by omega) (by omega) (by simp) g6.1.size
    have z56 := g6.1.size
    clear d3 hb8 g6 o5 e5
    go_wp2_with fail
    refine hb9.mono ?_
    rintro e w7 ⟨v7, rfl, t7, g7⟩
    have e7 := g7.below e6 z6 (fun k hk => Nat.le_trans (by omega) (t6.block_ge k hk))
    have z7 : B + 1 ≤ w7.heap.size := Nat.le_trans hs1 e7.size
    have o7 := o6.apart g7.1 (fun k hk h => by have h1 := hv5 k hk; have h2 := t6.block_ge k h; omega)
    obtain ⟨T, hT⟩ : ∃ T, T = [] ++ [p.src / 256 / 256 / 256 % 256, p.src / 256 / 256 % 256, p.src / 256 % 256, p.src % 256] ++ [p.dst / 256 / 256 / 256 % 256, p.dst / 256 / 256 % 256, p.dst / 256 % 256, p.dst % 256] := ⟨_, rfl⟩
    rw [← hT] at t7
    have hTl : T.length ≤ 8 := by rw [hT]; simp
    have HT : Hid (T = [] ++ [p.src / 256 / 256 / 256 % 256, p.src / 256 / 256 % 256, p.src / 256 % 256, p.src % 256] ++ [p.dst / 256 / 256 / 256 % 256, p.dst / 256 / 256 % 256, p.dst / 256 % 256, p.dst % 256]) := hT
    have hv7 := t7.block_lt
    have z57 : w5.heap.size ≤ w7.heap.size := Nat.le_trans z56 g7.1.size
    clear d4 hb9 g7 t6 o6 e6 z6 hT
    go_upto_region 12 with (at_builtin; refine wpList_append_bytes rfl (.tmp 41) (.tmp 42) rfl w7.heap.size _ [] rfl (OwnB.nil _ _) _ H rfl (o7.bytes (by omega)) (by simp; omega) (Nat.le_refl _) ?_; intro v8 w8 a8 g8)
    have e8 := e7.grown g8 z7 (fun k hk => by cases hk)
    have z8 : B + 1 ≤ w8.heap.size := Nat.le_trans hs1 e8.size
    have o8 := o7.apart g8 (fun k _ h => by cases h)
    have t8 := t7.apart g8 (fun k _ h => by cases h)
    have z78 := g8.size
    clear g8 o7 t7 e7
    go_upto_region 13 with (at_builtin; refine wpList_append_bytes rfl (.tmp 44) (.tmp 45) rfl w7.heap.size _ _ rfl a8 _ T rfl (t8.bytes (by omega)) (by simp; omega) z78 ?_; intro v9 w9 a9 g9)
    have e9 := e8.grown g9 z8 (fun k hk => Nat.le_trans z7 (a8.block_ge k hk))
    have z9 : B + 1 ≤ w9.heap.size := Nat.le_trans hs1 e9.size
    have o9 := o8.apart g9 (fun k hk h => by have h1 := hv5 k hk; have h2 := a8.block_ge k h; omega)
    have t9 := t8.apart g9 (fun k hk h => by have h1 := hv7 k hk; have h2 := a8.block_ge k h; omega)
    have htt := refTotal_bytes (a9.bytes (by simp; omega))
    have eT : tot 0 ([] ++ H ++ T) = tot 0 (headZ p 0) := enc_tot p nb HNB.out hk ht HH.out HT.out a9.2
    rw [eT] at htt
    have hsr := sumH_range p
    have HS : Hid (65535 - tot 0 (headZ p 0) = sumH p) := rfl
    have htr := tot_range (headZ p 0) 0 (headZ_byte p 0) (by omega) (by omega)
    generalize tot 0 (headZ p 0) = Tt at htt HS htr
    have hb10 := refBytes2 o9 (65535 - Tt) (by omega) (by omega) (by omega) z9
    clear eT g9 o8 t8 e8 z8 a8 a9
    go_wp2_with (go_at_call 39; refine htt.mono ?_; rintro e w' ⟨rfl, rfl⟩)
    refine hb10.mono ?_
    rintro e w10 ⟨v10, rfl, o10, g10⟩
    have e10 := g10.below e9 z9 o9.block_ge
    have z10 : B + 1 ≤ w10.heap.size := Nat.le_trans hs1 e10.size
    have t10 := t9.apart g10.1 (fun k hk h => by have h1 := t9.block_ge k hk; have h2 := hv5 k h; omega)
    clear hb10 g10 o9 t9 e9 z9 htt
    go_upto_region 15 with (at_builtin; refine wpList_append_bytes rfl (.tmp 52) (.tmp 53) rfl (B + 1) _ _ rfl o10 _ T rfl (t10.bytes (by omega)) (by simp; omega) z10 ?_; intro v11 w11 o11 g11)
    have e11 := e10.grown g11 z10 o10.block_ge
    have z11 : B + 1 ≤ w11.heap.size := Nat.le_trans hs1 e11.size
    have d7 := (hp1.below (Nat.lt_succ_self _) e11).cells.2.2.2.2.2.2.2
    have bw : Below w.heap.size w w11 := b1.trans (e11.mono (by have := HBw.out; omega))
    have hbb := HB.out.below (Nat.le_refl _) bw
    have hll := HNB.out
    obtain ⟨X, hX⟩ : ∃ X, X = H ++ [(65535 - Tt) / 256 % 256, (65535 - Tt) % 256] ++ T := ⟨_, rfl⟩
    rw [← hX] at o11
    have hXl : X.length ≤ 18 := by rw [hX]; simp; omega
    have HX : Hid (X = H ++ [(65535 - Tt) / 256 % 256, (65535 - Tt) % 256] ++ T) := hX
    have hlb : X.length + p.body.length ≤ 140737488355328 := by omega
    clear g11 o10 t10 e10 z10 hll hX hXl
    go_wp2_with (at_builtin; refine wpList_append_bytes rfl (.tmp 55) (.tmp 57) rfl (B + 1) _ _ rfl o11 _ p.body rfl hbb hlb z11 ?_; intro v12 w12 o12 g12)
    go_ret
    have e12 := e11.grown g12 z11 o11.block_ge
    refine ⟨_, rfl, ?_, b1.trans (e12.mono (by have := HBw.out; omega))⟩
    have e : X ++ p.body = encL p := by
      rw [HX.out, enc_list p nb HNB.out hk ht HH.out HT.out HS.out]
    rw [e] at o12
    exact o12.base (by have := HBw.out; omega)
end Go.Proofs.YtpenenaifajejabDoor
