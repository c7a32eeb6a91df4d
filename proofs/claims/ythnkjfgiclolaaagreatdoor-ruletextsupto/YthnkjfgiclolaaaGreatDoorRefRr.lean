/- What the reference's ReadRule returns (package portref1): 'refR' of a line's words. -/
import Derived.Test.YthnkjfgiclolaaaGreatDoorMgR
import Derived.Test.YthnkjfgiclolaaaGreatDoorRuleRd4
import Derived.Deep.DeepCutAuto
import Derived.Deep.DeepMust
namespace Go.Proofs.YthnkjfgiclolaaaGreatDoor
open Go.RowKit
set_option linter.unusedVariables false
set_option maxRecDepth 10000

theorem wayF_len {ws : Ws} (h : ∀ x ∈ ws, x.length ≤ 1048576) : ∀ x ∈ (wayF ws).2, x.length ≤ 1048576 := by
  unfold wayF
  split
  · exact tail_len h
  · split
    · exact tail_len h
    · exact h
theorem kindF_len {ws : Ws} {bad : Bool} (h : ∀ x ∈ ws, x.length ≤ 1048576) : ∀ x ∈ (kindF ws bad).2.1, x.length ≤ 1048576 := by
  unfold kindF
  split
  · exact tail_len (tail_len h)
  · exact h
theorem cutL_ne (c : UInt8) (l : List UInt8) : cutL c l ≠ [] := by rw [cutL_splitX]; exact List.cons_ne_nil _ _
theorem eqB (x y : List UInt8) : ((mkB x).toList == y) = decide (x = y) := by
  rw [ByteArray.toList_eq, mkB_toList]
  by_cases h : x = y
  · simp [h]
  · simp [h]
theorem RlAt.at1 {W : World} {b : Nat} {r : Rl} {fv tv : Value} (h : RlAt W b r fv tv) : (W.cell? ⟨b, 0, none⟩ = some (.bool r.pass) ∧ W.frozen? ⟨b, 0, none⟩ = false) ∧ (W.cell? ⟨b, 1, none⟩ = some (.bool r.quick) ∧ W.frozen? ⟨b, 1, none⟩ = false) ∧ (W.cell? ⟨b, 2, none⟩ = some (.bool r.keep) ∧ W.frozen? ⟨b, 2, none⟩ = false) ∧ (W.cell? ⟨b, 3, none⟩ = some (.int .i64 r.way) ∧ W.frozen? ⟨b, 3, none⟩ = false) ∧ (W.cell? ⟨b, 4, none⟩ = some (.int .i64 r.kind) ∧ W.frozen? ⟨b, 4, none⟩ = false) := by
  obtain ⟨d0, d1, d2, d3, d4, _⟩ := h.cells
  exact ⟨⟨d0, h.freeA 0⟩, ⟨d1, h.freeA 1⟩, ⟨d2, h.freeA 2⟩, ⟨d3, h.freeA 3⟩, ⟨d4, h.freeA 4⟩⟩
def RrEnd (s : List UInt8) (w : World) (e : Ending) (w' : World) : Prop :=
  ((∃ r fv tv, refR (cutL 32 s) = some r ∧ e = .returned (.tuple #[rlV r fv tv, .bool true]) ∧ OwnSp w' w.heap.size fv r.fr ∧ OwnSp w' w.heap.size tv r.tl) ∨ (refR (cutL 32 s) = none ∧ ∃ r a n c a' n' c', e = .returned (.tuple #[rlV r (.slice a n c) (.slice a' n' c'), .bool false]))) ∧ Below w.heap.size w w'
set_option maxHeartbeats 16000000 in
theorem refReadR_any (s : List UInt8) (w : World) (hs : s.length ≤ 1048576) :
    Calls Tryz.prog 23 #[.string (mkB s)] w (RrEnd s w) := by
  obtain ⟨Q, hQ⟩ : ∃ Q : Ending → World → Prop, Q = RrEnd s w := ⟨_, rfl⟩
  have HYES : Hid (∀ r fv tv w', refR (cutL 32 s) = some r → OwnSp w' w.heap.size fv r.fr → OwnSp w' w.heap.size tv r.tl → Below w.heap.size w w' → Q (.returned (.tuple #[rlV r fv tv, .bool true])) w') := by rw [hQ]; exact fun r fv tv w' h1 h2 h3 h4 => ⟨.inl ⟨r, fv, tv, h1, rfl, h2, h3⟩, h4⟩
  have HNO : Hid (∀ r a n c a' n' c' w', refR (cutL 32 s) = none → Below w.heap.size w w' → Q (.returned (.tuple #[rlV r (.slice a n c) (.slice a' n' c'), .bool false])) w') := by rw [hQ]; exact fun r a n c a' n' c' w' h1 h4 => ⟨.inr ⟨h1, r, a, n, c, a', n', c', rfl⟩, h4⟩
  rw [← hQ]
  clear hQ
  have a0 := RlAt.new w nilR (.slice none 0 0) (.slice none 0 0)
  have b0 : Below w.heap.size w (w.alloc (.cells #[.bool false, .bool false, .bool false, .int .i64 0, .int .i64 0, .int .i64 0, .int .i64 0, .int .i64 0, .int .i64 0, .slice none 0 0, .slice none 0 0] 33)) := (Below.refl _ _).alloc (Nat.le_refl _) _
  have a1 : RlAt (w.alloc (.cells #[.bool false, .bool false, .bool false, .int .i64 0, .int .i64 0, .int .i64 0, .int .i64 0, .int .i64 0, .int .i64 0, .slice none 0 0, .slice none 0 0] 33)) w.heap.size nilR (.slice none 0 0) (.slice none 0 0) := a0
  clear a0
  obtain ⟨W0, hW0⟩ : ∃ W0, w.alloc (.cells #[.bool false, .bool false, .bool false, .int .i64 0, .int .i64 0, .int .i64 0, .int .i64 0, .int .i64 0, .int .i64 0, .slice none 0 0, .slice none 0 0] 33) = W0 := ⟨_, rfl⟩
  rw [hW0] at b0 a1
  obtain ⟨S, hS⟩ : ∃ S, w.heap.size = S := ⟨_, rfl⟩
  have HSS := hidE hS
  rw [hS] at b0 a1
  have HW0 := hidE hW0
  have HA1 := hidE a1
  have HB0 := hidE b0
  have g1 := cut_any (mkB s) 32 W0 (by rw [mkB_size]; exact hs)
  rw [mkB_toList, show (((32 : UInt8).toNat : Nat) : Int) = 32 from rfl] at g1
  have HL0 := hidE (show ∀ x ∈ cutL 32 s, x.length ≤ 1048576 from fun x hx => Nat.le_trans (cut_sizes 32 _ s (Nat.le_refl _) x hx) hs)
  have HNE := hidE (cutL_ne 32 s)
  obtain ⟨ws, hws⟩ : ∃ ws, cutL 32 s = ws := ⟨_, rfl⟩
  rw [hws] at g1 HL0 HNE HYES HNO
  have g1' : Calls Tryz.prog 22 #[.string (mkB s), .int .u8 32] W0 fun e w' => ∃ g c, e = .returned (.slice (some ⟨g, 0, none⟩) ws.length c) ∧ OwnS w' W0.heap.size (.slice (some ⟨g, 0, none⟩) ws.length c) (ws.map mkB) ∧ Below W0.heap.size W0 w' := by
    refine g1.mono ?_
    rintro e w' ⟨v, rfl, own, bb⟩
    obtain ⟨g, c, hv, _⟩ := WAt.of_own own HNE.out
    subst hv
    exact ⟨g, c, rfl, own, bb⟩
  obtain ⟨L, hL⟩ : ∃ L, ws.length = L := ⟨_, rfl⟩
  rw [hL] at g1'
  generalize mkB s = sb at g1' ⊢
  clear g1 hws hW0 hs a1 b0 hL
  go_enter Tryz.func23, Tryz.ntmps23
  go_upto_region 1 with fail
  rw [HW0.out]
  go_upto_region 3 with (go_at_call 22; go_must (refine g1'.mono ?_; rintro e W1 ⟨g, c, rfl, own1, b1⟩))
  have St := RrSt.new (w := w) (HA1.out.below HA1.out.lt b1) (HB0.out.trans (b1.mono (Nat.le_of_lt HA1.out.lt))) own1 HNE.out
  clear g1' own1 b1 HW0 HB0 HA1
  obtain ⟨W2, hW2⟩ : ∃ W2, (W1.alloc (.cells #[.slice (some ⟨g, 0, none⟩) L c, .bool false] 96)).alloc (.cells #[.bool false, .bool false, .bool false, .int .i64 0, .int .i64 0, .int .i64 0, .int .i64 0, .int .i64 0, .int .i64 0, .slice none 0 0, .slice none 0 0] 33) = W2 := ⟨_, rfl⟩
  rw [hW2] at St ⊢
  obtain ⟨B, hB⟩ : ∃ B, W1.heap.size = B := ⟨_, rfl⟩
  rw [hB] at St ⊢
  obtain ⟨R, hR⟩ : ∃ R, B + 1 = R := ⟨_, rfl⟩
  rw [hR] at St ⊢
  clear hW2 hB hR
  have g2 := wNext_any B ws false W2 St.rd
  have HSt := hidE St
  clear St
  obtain ⟨x, hx⟩ : ∃ x, ws.headD [] = x := ⟨_, rfl⟩
  rw [hx, Bool.false_or] at g2
  have HX := hidE hx
  clear hx
  have p1 := eqB x passL
  have p2 := eqB x blockL
  unfold passL at p1
  unfold blockL at p2
  obtain ⟨pb, hpb⟩ : ∃ b, decide (x = [112, 97, 115, 115]) = b := ⟨_, rfl⟩
  obtain ⟨qb, hqb⟩ : ∃ b, decide (x = [98, 108, 111, 99, 107]) = b := ⟨_, rfl⟩
  rw [hpb] at p1
  rw [hqb] at p2
  have HPB := hidE (show decide (x = passL) = pb from hpb)
  have HQB := hidE (show decide (x = blockL) = qb from hqb)
  clear hpb hqb
  obtain ⟨xb, hxb⟩ : ∃ b, mkB x = b := ⟨_, rfl⟩
  rw [hxb] at g2 p1 p2
  clear hxb
  have HC := hidE (fun (W' : World) (o : Only B W2 W') => (HSt.out.rl.keep (o.block R (by have := HSt.out.o2; omega))).at1)
  go_upto_region 4 with (go_at_call 50; go_must (refine g2.mono ?_; rintro e W3 ⟨rfl, rd3, o3⟩))
  obtain ⟨⟨q1, q2⟩, _⟩ := HC.out W3 o3
  have HSt3 := hidE (HSt.out.only o3 rd3)
  clear g2 o3 rd3 HC HSt
  obtain ⟨W4, hW4, r4, o4⟩ := HSt3.out.rl.storeB 0 pb { nilR with pass := pb } rfl
  have HSt4 := hidE (HSt3.out.rule r4 o4 (OwnSp.nil _ _) (OwnSp.nil _ _))
  have HW4 := hidE hW4
  clear hW4 r4 o4
  go_upto_region 5 with fail
  rw [HW4.out]
  clear HW4 q1 q2 HSt3
  obtain ⟨tb, htb⟩ : ∃ b, (!pb && !qb) = b := ⟨_, rfl⟩
  have HTB := hidE htb
  clear htb
  go_cut [21] (fun t wr => t = .bool tb ∧ wr = W4)
  case first =>
    cases pb with
    | true =>
      go_wp2_with fail
      go_meet
      case rel => exact ⟨by rw [← HTB.out]; rfl, rfl⟩
    | false =>
      cases qb with
      | true =>
        go_wp2_with fail
        go_meet
        case rel => exact ⟨by rw [← HTB.out]; rfl, rfl⟩
      | false =>
        go_wp2_with fail
        go_meet
        case rel => exact ⟨by rw [← HTB.out]; rfl, rfl⟩
  case rest =>
  obtain ⟨hc1, hc2⟩ := hcut
  subst hc1
  rw [hc2]
  clear hc2 p1 p2
  -- how a wrong line ends
  have HBAD := hidE (fun (W : World) (ws' : Ws) (bd : Bool) (r : Rl) (fv tv : Value) (h : RrSt w W S B R ws' bd r fv tv) (hn : refR ws = none) => (show ∃ W', (((((((((((W.setCell ⟨S, 0, none⟩ (.bool false)).setCell ⟨S, 1, none⟩ (.bool false)).setCell ⟨S, 2, none⟩ (.bool false)).setCell ⟨S, 3, none⟩ (.int .i64 0)).setCell ⟨S, 4, none⟩ (.int .i64 0)).setCell ⟨S, 5, none⟩ (.int .i64 0)).setCell ⟨S, 6, none⟩ (.int .i64 0)).setCell ⟨S, 7, none⟩ (.int .i64 0)).setCell ⟨S, 8, none⟩ (.int .i64 0)).setCell ⟨S, 9, none⟩ (.slice none 0 0)).setCell ⟨S, 10, none⟩ (.slice none 0 0)) = W' ∧ RlAt W' S nilR (.slice none 0 0) (.slice none 0 0) ∧ Q (.returned (.tuple #[rlV nilR (.slice none 0 0) (.slice none 0 0), .bool false])) W' from by
    obtain ⟨W20, hW20, r20, o20⟩ := h.rs.storeAll nilR (.slice none 0 0) (.slice none 0 0)
    exact ⟨W20, hW20, r20, HNO.out nilR none 0 0 none 0 0 W20 hn (by rw [HSS.out]; exact o20.below (Nat.le_refl S) h.bel)⟩))
  cases tb with
  | true =>
    have hn : refR ws = none := by
      unfold refR
      rw [if_neg]
      rintro ⟨hh, _⟩
      have ht := HTB.out
      rw [HX.out] at hh
      rw [← HPB.out, ← HQB.out] at ht
      rcases hh with hh | hh <;> simp [hh] at ht
    obtain ⟨W20, hW20, r20, hq⟩ := HBAD.out W4 _ _ _ _ _ HSt4.out hn
    have HW20 := hidE hW20
    have HQ20 := hidE hq
    have HR20 := hidE r20
    obtain ⟨x0, x1, x2, x3, x4, x5, x6, x7, x8, x9, x10⟩ := HSt4.out.rs.cells
    have y0 := HSt4.out.rs.freeA 0
    have y1 := HSt4.out.rs.freeA 1
    have y2 := HSt4.out.rs.freeA 2
    have y3 := HSt4.out.rs.freeA 3
    have y4 := HSt4.out.rs.freeA 4
    have y5 := HSt4.out.rs.freeA 5
    have y6 := HSt4.out.rs.freeA 6
    have y7 := HSt4.out.rs.freeA 7
    have y8 := HSt4.out.rs.freeA 8
    have y9 := HSt4.out.rs.freeA 9
    have y10 := HSt4.out.rs.freeA 10
    clear hW20 hq r20 hn
    go_wp2_with fail
    rw [HW20.out]
    obtain ⟨z0, z1, z2, z3, z4, z5, z6, z7, z8, z9, z10⟩ := HR20.out.cells
    exact bodyPost_ret (v := .tuple #[rlV nilR (.slice none 0 0) (.slice none 0 0), .bool false]) (by simp [results, Tryz.results23, go_sem, rlV, z0, z1, z2, z3, z4, z5, z6, z7, z8, z9, z10]) rfl HQ20.out
  | false =>
  have HHD : Hid (ws.headD [] = passL ∨ ws.headD [] = blockL) := by
    rw [Hid, HX.out]
    have ht := HTB.out
    rw [← HPB.out, ← HQB.out] at ht
    by_cases h1 : x = passL
    · exact .inl h1
    · by_cases h2 : x = blockL
      · exact .inr h2
      · simp [h1, h2] at ht
  clear HTB HQB
  obtain ⟨bd, hbd⟩ : ∃ b, ws.isEmpty = b := ⟨_, rfl⟩
  rw [hbd] at HSt4
  have HBD := hidE hbd
  clear hbd
  -- quick
  have g5 := wTakes_any B wQuick ws.tail bd W4 HSt4.out.rd
  rw [show mkB wQuick = ⟨#[113, 117, 105, 99, 107]⟩ from rfl] at g5
  obtain ⟨qk, hqk⟩ : ∃ b, takB wQuick ws.tail = b := ⟨_, rfl⟩
  obtain ⟨ws5, hws5⟩ : ∃ t, takR wQuick ws.tail = t := ⟨_, rfl⟩
  rw [hqk, hws5] at g5
  have HQK := hidE hqk
  have HW5 := hidE hws5
  have HL5 : Hid (∀ x ∈ ws5, x.length ≤ 1048576) := by rw [Hid, ← hws5]; exact takR_len (tail_len HL0.out)
  clear hqk hws5
  have HC := hidE (fun (W' : World) (o : Only B W4 W') => (HSt4.out.rl.keep (o.block R (by have := HSt4.out.o2; omega))).at1.2.1)
  go_upto_region 8 with (go_at_call 51; go_must (refine g5.mono ?_; rintro e W5 ⟨rfl, rd5, o5⟩; obtain ⟨q1, q2⟩ := HC.out W5 o5))
  have HSt5 := HSt4.out.only o5 rd5
  obtain ⟨W6, hW6, r6, o6⟩ := HSt5.rl.storeB 1 qk { nilR with pass := pb, quick := qk } rfl
  have HSt6 := hidE (HSt5.rule r6 o6 (OwnSp.nil _ _) (OwnSp.nil _ _))
  rw [hW6]
  clear hW6 r6 o6 q1 q2 HC g5 o5 rd5 HSt4 HSt5
  -- in, out
  have g7 := wTakes_any B wIn ws5 bd W6 HSt6.out.rd
  rw [show mkB wIn = ⟨#[105, 110]⟩ from rfl] at g7
  obtain ⟨ib, hib⟩ : ∃ b, takB wIn ws5 = b := ⟨_, rfl⟩
  rw [hib] at g7
  have HIB := hidE hib
  clear hib
  go_upto_if 27 with (go_at_call 51; go_must (refine g7.mono ?_; rintro e W7 ⟨rfl, rd7, o7⟩))
  have HSt7 := hidE (HSt6.out.only o7 rd7)
  clear g7 o7 rd7 HSt6
  go_cut [] (fun wr => Hid (RrSt w wr S B R (wayF ws5).2 bd { nilR with pass := pb, quick := qk, way := (wayF ws5).1 } (.slice none 0 0) (.slice none 0 0)))
  case first =>
    cases ib with
    | true =>
      obtain ⟨q1, q2⟩ := HSt7.out.rl.at1.2.2.2.1
      obtain ⟨W8, hW8, r8, o8⟩ := HSt7.out.rl.storeI 3 1 { nilR with pass := pb, quick := qk, way := 1 } rfl
      have HSt8 := hidE (HSt7.out.rule r8 o8 (OwnSp.nil _ _) (OwnSp.nil _ _))
      rw [show takR wIn ws5 = ws5.tail by unfold takR; rw [HIB.out, if_pos rfl]] at HSt8
      have HW8 := hidE hW8
      clear hW8 r8 o8
      go_wp2_with fail
      go_meet
      case rel => rw [HW8.out, show wayF ws5 = (1, ws5.tail) by unfold wayF; rw [HIB.out, if_pos rfl]]; exact HSt8
    | false =>
      have HE := hidE (show takR wIn ws5 = ws5 by unfold takR; rw [HIB.out, if_neg (by simp)])
      rw [HE.out] at HSt7
      have g8 := wTakes_any B wOut ws5 bd W7 HSt7.out.rd
      rw [show mkB wOut = ⟨#[111, 117, 116]⟩ from rfl] at g8
      obtain ⟨ob, hob⟩ : ∃ b, takB wOut ws5 = b := ⟨_, rfl⟩
      rw [hob] at g8
      have HOB := hidE hob
      clear hob
      go_upto_if 30 with (go_at_call 51; go_must (refine g8.mono ?_; rintro e W7b ⟨rfl, rd8, o8⟩))
      have HSt8 := hidE (HSt7.out.only o8 rd8)
      clear g8 rd8 o8
      cases ob with
      | true =>
        obtain ⟨q1, q2⟩ := HSt8.out.rl.at1.2.2.2.1
        obtain ⟨W8, hW8, r8, o8⟩ := HSt8.out.rl.storeI 3 2 { nilR with pass := pb, quick := qk, way := 2 } rfl
        have HSt9 := hidE (HSt8.out.rule r8 o8 (OwnSp.nil _ _) (OwnSp.nil _ _))
        rw [show takR wOut ws5 = ws5.tail by unfold takR; rw [HOB.out, if_pos rfl]] at HSt9
        have HW8 := hidE hW8
        clear hW8 r8 o8
        go_wp2_with fail
        go_meet
        case rel => rw [HW8.out, show wayF ws5 = (2, ws5.tail) by unfold wayF; rw [HIB.out, HOB.out, if_neg (by simp), if_pos rfl]]; exact HSt9
      | false =>
        rw [show takR wOut ws5 = ws5 by unfold takR; rw [HOB.out, if_neg (by simp)]] at HSt8
        go_wp2_with fail
        go_meet
        case rel => rw [show wayF ws5 = (0, ws5) by unfold wayF; rw [HIB.out, HOB.out, if_neg (by simp), if_neg (by simp)]]; exact HSt8
  case rest =>
  have HSt9 := hcut
  clear hcut HSt7
  obtain ⟨W9, hW9⟩ : ∃ W, wc = W := ⟨_, rfl⟩
  rw [hW9] at HSt9 ⊢
  clear hW9
  obtain ⟨wv, hwv⟩ : ∃ v, (wayF ws5).1 = v := ⟨_, rfl⟩
  obtain ⟨ws9, hws9⟩ : ∃ v, (wayF ws5).2 = v := ⟨_, rfl⟩
  rw [hwv, hws9] at HSt9
  have HWV := hidE hwv
  have HWS9 := hidE hws9
  have HL9 : Hid (∀ x ∈ ws9, x.length ≤ 1048576) := by rw [Hid, ← hws9]; exact wayF_len HL5.out
  clear hwv hws9
  -- kind
  have g9 := wTakes_any B wKind ws9 bd W9 HSt9.out.rd
  rw [show mkB wKind = ⟨#[107, 105, 110, 100]⟩ from rfl] at g9
  obtain ⟨kb, hkb⟩ : ∃ b, takB wKind ws9 = b := ⟨_, rfl⟩
  rw [hkb] at g9
  have HKB := hidE hkb
  clear hkb
  go_upto_if 33 with (go_at_call 51; go_must (refine g9.mono ?_; rintro e W10 ⟨rfl, rd10, o10⟩))
  have HSt10 := hidE (HSt9.out.only o10 rd10)
  clear g9 o10 rd10 HSt9
  have HHF : Hid (headF ws = { nilR with pass := pb, quick := qk, way := wv, kind := (kindF ws9 bd).1 }) := by
    rw [Hid]
    unfold headF
    rw [HW5.out, HWV.out, HWS9.out, HBD.out, HQK.out, HX.out, HPB.out]
  go_cut [] (fun wr => Hid (RrSt w wr S B R (kindF ws9 bd).2.1 (kindF ws9 bd).2.2 { nilR with pass := pb, quick := qk, way := wv, kind := (kindF ws9 bd).1 } (.slice none 0 0) (.slice none 0 0)) ∧ Hid (0 ≤ (kindF ws9 bd).1))
  case first =>
    cases kb with
    | false =>
      rw [show takR wKind ws9 = ws9 by unfold takR; rw [HKB.out, if_neg (by simp)]] at HSt10
      have HE := hidE (show kindF ws9 bd = (0, ws9, bd) by unfold kindF; rw [HKB.out, if_neg (by simp)])
      go_wp2_with fail
      go_meet
      case rel => rw [HE.out]; exact ⟨HSt10, show (0 : Int) ≤ 0 by decide⟩
    | true =>
      rw [show takR wKind ws9 = ws9.tail by unfold takR; rw [HKB.out, if_pos rfl]] at HSt10
      have HE := hidE (show kindF ws9 bd = (if kindN (ws9.tail.headD []) = 0 then -1 else kindN (ws9.tail.headD []), ws9.tail.tail, bd || ws9.tail.isEmpty) by unfold kindF; rw [HKB.out, if_pos rfl])
      have g10 := wNext_any B ws9.tail bd W10 HSt10.out.rd
      obtain ⟨y, hy⟩ : ∃ y, ws9.tail.headD [] = y := ⟨_, rfl⟩
      rw [hy] at g10 HE
      clear hy
      have p1 := eqB y wStream
      have p2 := eqB y wSingle
      have p3 := eqB y wEcho
      unfold wStream at p1
      unfold wSingle at p2
      unfold wEcho at p3
      have HC := hidE (fun (W' : World) (o : Only B W10 W') => (HSt10.out.rl.keep (o.block R (by have := HSt10.out.o2; omega))).at1.2.2.2.2)
      obtain ⟨yb, hyb⟩ : ∃ b, mkB y = b := ⟨_, rfl⟩
      rw [hyb] at g10 p1 p2 p3
      clear hyb
      go_upto_region 14 with (go_at_call 50; go_must (refine g10.mono ?_; rintro e W11 ⟨rfl, rd11, o11⟩))
      have HSt11 := hidE (HSt10.out.only o11 rd11)
      obtain ⟨q1, q2⟩ := HC.out W11 o11
      clear g10 o11 rd11 HSt10 HC
      by_cases h1 : y = [115, 116, 114, 101, 97, 109]
      · rw [show decide (y = [115, 116, 114, 101, 97, 109]) = true by simpa using h1] at p1
        have HN0 := hidE (show kindN y = 1 by unfold kindN; rw [if_pos (show y = wStream from h1)])
        obtain ⟨W8, hW8, r8, o8⟩ := HSt11.out.rl.storeI 4 1 { nilR with pass := pb, quick := qk, way := wv, kind := 1 } rfl
        have HSt9 := hidE (HSt11.out.rule r8 o8 (OwnSp.nil _ _) (OwnSp.nil _ _))
        have HW8 := hidE hW8
        clear hW8 r8 o8 h1 p2 p3
        go_wp2_with fail
        go_meet
        case rel => rw [HW8.out, HE.out, HN0.out]; exact ⟨HSt9, show (0 : Int) ≤ 1 by decide⟩
      by_cases h2 : y = [115, 105, 110, 103, 108, 101]
      · rw [show decide (y = [115, 116, 114, 101, 97, 109]) = false by simpa using h1] at p1
        rw [show decide (y = [115, 105, 110, 103, 108, 101]) = true by simpa using h2] at p2
        have HN0 := hidE (show kindN y = 2 by unfold kindN; rw [if_neg (show ¬ y = wStream from h1)]; rw [if_pos (show y = wSingle from h2)])
        obtain ⟨W8, hW8, r8, o8⟩ := HSt11.out.rl.storeI 4 2 { nilR with pass := pb, quick := qk, way := wv, kind := 2 } rfl
        have HSt9 := hidE (HSt11.out.rule r8 o8 (OwnSp.nil _ _) (OwnSp.nil _ _))
        have HW8 := hidE hW8
        clear hW8 r8 o8 h1 h2 p3
        go_wp2_with fail
        go_meet
        case rel => rw [HW8.out, HE.out, HN0.out]; exact ⟨HSt9, show (0 : Int) ≤ 2 by decide⟩
      by_cases h3 : y = [101, 99, 104, 111]
      · rw [show decide (y = [115, 116, 114, 101, 97, 109]) = false by simpa using h1] at p1
        rw [show decide (y = [115, 105, 110, 103, 108, 101]) = false by simpa using h2] at p2
        rw [show decide (y = [101, 99, 104, 111]) = true by simpa using h3] at p3
        have HN0 := hidE (show kindN y = 3 by unfold kindN; rw [if_neg (show ¬ y = wStream from h1)]; rw [if_neg (show ¬ y = wSingle from h2)]; rw [if_pos (show y = wEcho from h3)])
        obtain ⟨W8, hW8, r8, o8⟩ := HSt11.out.rl.storeI 4 3 { nilR with pass := pb, quick := qk, way := wv, kind := 3 } rfl
        have HSt9 := hidE (HSt11.out.rule r8 o8 (OwnSp.nil _ _) (OwnSp.nil _ _))
        have HW8 := hidE hW8
        clear hW8 r8 o8 h1 h2 h3 
        go_wp2_with fail
        go_meet
        case rel => rw [HW8.out, HE.out, HN0.out]; exact ⟨HSt9, show (0 : Int) ≤ 3 by decide⟩
      have hy1 := p1
      rw [show decide (y = [115, 116, 114, 101, 97, 109]) = false by simpa using h1] at p1
      rw [show decide (y = [115, 105, 110, 103, 108, 101]) = false by simpa using h2] at p2
      rw [show decide (y = [101, 99, 104, 111]) = false by simpa using h3] at p3
      have HN0 := hidE (show kindN y = 0 by unfold kindN; rw [if_neg (show ¬ y = wStream from h1), if_neg (show ¬ y = wSingle from h2), if_neg (show ¬ y = wEcho from h3)])
      have hn : refR ws = none := by
        unfold refR
        rw [if_neg]
        rintro ⟨_, hh, _⟩
        rw [HHF.out, HE.out, HN0.out] at hh
        simp at hh
      obtain ⟨W20, hW20, r20, hq⟩ := HBAD.out W11 _ _ _ _ _ HSt11.out hn
      have HW20 := hidE hW20
      have HQ20 := hidE hq
      have HR20 := hidE r20
      obtain ⟨x0, x1, x2, x3, x4, x5, x6, x7, x8, x9, x10⟩ := HSt11.out.rs.cells
      have y0 := HSt11.out.rs.freeA 0
      have y1 := HSt11.out.rs.freeA 1
      have y2 := HSt11.out.rs.freeA 2
      have y3 := HSt11.out.rs.freeA 3
      have y4 := HSt11.out.rs.freeA 4
      have y5 := HSt11.out.rs.freeA 5
      have y6 := HSt11.out.rs.freeA 6
      have y7 := HSt11.out.rs.freeA 7
      have y8 := HSt11.out.rs.freeA 8
      have y9 := HSt11.out.rs.freeA 9
      have y10 := HSt11.out.rs.freeA 10
      clear hW20 hq r20 hn h1 h2 h3 hy1
      go_wp2_with fail
      rw [HW20.out]
      obtain ⟨z0, z1, z2, z3, z4, z5, z6, z7, z8, z9, z10⟩ := HR20.out.cells
      exact bodyPost_ret (v := .tuple #[rlV nilR (.slice none 0 0) (.slice none 0 0), .bool false]) (by simp [results, Tryz.results23, go_sem, rlV, z0, z1, z2, z3, z4, z5, z6, z7, z8, z9, z10]) rfl HQ20.out
  case rest =>
  obtain ⟨HSt12, HK0⟩ := hcut
  obtain ⟨W12, hW12⟩ : ∃ W, wc = W := ⟨_, rfl⟩
  rw [hW12] at HSt12 ⊢
  clear hW12 HSt10
  obtain ⟨kv, hkv⟩ : ∃ v, (kindF ws9 bd).1 = v := ⟨_, rfl⟩
  obtain ⟨ws12, hws12⟩ : ∃ v, (kindF ws9 bd).2.1 = v := ⟨_, rfl⟩
  obtain ⟨bd12, hbd12⟩ : ∃ v, (kindF ws9 bd).2.2 = v := ⟨_, rfl⟩
  have HL12 : Hid (∀ x ∈ ws12, x.length ≤ 1048576) := by rw [Hid, ← hws12]; exact kindF_len HL9.out
  obtain ⟨r12, hr12⟩ : ∃ r : Rl, { nilR with pass := pb, quick := qk, way := wv, kind := kv } = r := ⟨_, rfl⟩
  rw [hkv, hws12, hbd12, hr12] at HSt12
  rw [hkv] at HK0
  rw [hkv, hr12] at HHF
  have HRR : Hid (refR ws = if (ruleF ws12 r12 bd12).2 = true then some (ruleF ws12 r12 bd12).1 else none) := by
    rw [Hid]
    unfold refR
    rw [HW5.out, HWS9.out, HBD.out, hws12, hbd12, HHF.out]
    have hk : 0 ≤ r12.kind := by rw [← hr12]; exact HK0.out
    by_cases hb : (ruleF ws12 r12 bd12).2 = true
    · rw [if_pos ⟨HHD.out, hk, hb⟩, if_pos hb]
    · rw [if_neg (fun h => hb h.2.2), if_neg hb]
  have HFT := hidE (show r12.fr = [] ∧ r12.tl = [] by rw [← hr12]; exact ⟨rfl, rfl⟩)
  clear hkv hws12 hbd12 hr12 HHF HK0 HKB HIB HWV HWS9 HW5 HQK HBD HHD HPB HX HL9 HL5 HL0
  obtain ⟨F1, hF1⟩ : ∃ F, sideF wFrom ws12 bd12 = F := ⟨_, rfl⟩
  have HF1 := hidE hF1
  clear hF1
  have g13 : Calls Tryz.prog 52 #[.pointer (some ⟨B, 0, none⟩), .string ⟨#[102, 114, 111, 109]⟩] W12 fun e w' => ∃ a8 n8 c8, e = .returned (.tuple #[.agg #[.int .i64 F1.a, .int .i64 F1.n], .slice a8 n8 c8]) ∧ OwnSp w' W12.heap.size (.slice a8 n8 c8) F1.ps ∧ WAt w' B F1.rest F1.bad ∧ Turn (fun k => k = B) W12 w' := by
    refine (wSide_any B wFrom ws12 bd12 W12 HSt12.out.rd HL12.out).mono ?_
    rintro e w' ⟨v, rfl, h1, h2, h3⟩
    rw [HF1.out] at h1 h2 ⊢
    obtain ⟨a8, n8, c8, rfl⟩ := h1.form
    exact ⟨a8, n8, c8, rfl, h1, h2, h3⟩
  have HC := hidE (fun (W' : World) (t : Turn (fun k => k = B) W12 W') => (show (W'.cell? ⟨R, 5, none⟩ = some (.int .i64 r12.sa) ∧ W'.cell? ⟨R, 6, none⟩ = some (.int .i64 r12.sl) ∧ W'.cell? ⟨R, 9, none⟩ = some (.slice none 0 0)) ∧ W'.frozen? ⟨R, 5, none⟩ = false ∧ W'.frozen? ⟨R, 6, none⟩ = false ∧ W'.frozen? ⟨R, 9, none⟩ = false from by
    have hr := HSt12.out.rl.keep (t.block R HSt12.out.rl.lt (by have := HSt12.out.o2; omega))
    obtain ⟨d0, d1, d2, d3, d4, d5, d6, d7, d8, d9, d10⟩ := hr.cells
    exact ⟨⟨d5, d6, d9⟩, hr.freeA 5, hr.freeA 6, hr.freeA 9⟩))
  go_upto_region 23 with (go_at_call 52; go_must (refine g13.mono ?_; rintro e W13 ⟨a8, n8, c8, rfl, own8, rd8, t8⟩; obtain ⟨⟨q1, q2, q3⟩, q4, q5, q6⟩ := HC.out W13 t8))
  have hR12 := HSt12.out.rl.lt
  have HSt13 := HSt12.out.turn t8 rd8
  obtain ⟨W14, hW14, r14, o14⟩ := HSt13.rl.storeFrom F1.a F1.n (.slice a8 n8 c8) F1.ps
  have HSt14 := hidE (HSt13.rule r14 o14 (own8.base hR12) (show OwnSp W13 (R + 1) (.slice none 0 0) r12.tl from HSt13.pt))
  rw [hW14]
  clear hW14 r14 o14 q1 q2 q3 q4 q5 q6 HC g13 own8 rd8 t8 HSt12 HSt13 hR12
  have HLR : Hid (∀ x ∈ F1.rest, x.length ≤ 1048576) := by
    rw [Hid, ← HF1.out]
    unfold sideF
    split
    · exact tail_len (tail_len (tail_len (takR_len HL12.out)))
    · exact tail_len (takR_len HL12.out)
  obtain ⟨F2, hF2⟩ : ∃ F, sideF wTo F1.rest F1.bad = F := ⟨_, rfl⟩
  have HF2 := hidE hF2
  clear hF2
  have g15 : Calls Tryz.prog 52 #[.pointer (some ⟨B, 0, none⟩), .string ⟨#[116, 111]⟩] W14 fun e w' => ∃ a9 n9 c9, e = .returned (.tuple #[.agg #[.int .i64 F2.a, .int .i64 F2.n], .slice a9 n9 c9]) ∧ OwnSp w' W14.heap.size (.slice a9 n9 c9) F2.ps ∧ WAt w' B F2.rest F2.bad ∧ Turn (fun k => k = B) W14 w' := by
    refine (wSide_any B wTo F1.rest F1.bad W14 HSt14.out.rd HLR.out).mono ?_
    rintro e w' ⟨v, rfl, h1, h2, h3⟩
    rw [HF2.out] at h1 h2 ⊢
    obtain ⟨a8, n8, c8, rfl⟩ := h1.form
    exact ⟨a8, n8, c8, rfl, h1, h2, h3⟩
  have HC := hidE (fun (W' : World) (t : Turn (fun k => k = B) W14 W') => (show (W'.cell? ⟨R, 7, none⟩ = some (.int .i64 r12.da) ∧ W'.cell? ⟨R, 8, none⟩ = some (.int .i64 r12.dl) ∧ W'.cell? ⟨R, 10, none⟩ = some (.slice none 0 0)) ∧ W'.frozen? ⟨R, 7, none⟩ = false ∧ W'.frozen? ⟨R, 8, none⟩ = false ∧ W'.frozen? ⟨R, 10, none⟩ = false from by
    have hr := HSt14.out.rl.keep (t.block R HSt14.out.rl.lt (by have := HSt14.out.o2; omega))
    obtain ⟨d0, d1, d2, d3, d4, d5, d6, d7, d8, d9, d10⟩ := hr.cells
    exact ⟨⟨d7, d8, d10⟩, hr.freeA 7, hr.freeA 8, hr.freeA 10⟩))
  go_upto_region 24 with (go_at_call 52; go_must (refine g15.mono ?_; rintro e W15 ⟨a9, n9, c9, rfl, own9, rd9, t9⟩; obtain ⟨⟨q1, q2, q3⟩, q4, q5, q6⟩ := HC.out W15 t9))
  have hR14 := HSt14.out.rl.lt
  have HSt15 := HSt14.out.turn t9 rd9
  obtain ⟨W16, hW16, r16, o16⟩ := HSt15.rl.storeTo F2.a F2.n (.slice a9 n9 c9) F2.ps
  have HSt16 := hidE (HSt15.rule r16 o16 HSt15.pf (own9.base hR14))
  rw [hW16]
  clear hW16 r16 o16 q1 q2 q3 q4 q5 q6 HC g15 own9 rd9 t9 HSt14 HSt15 hR14
  -- keep
  have g17 := wTakes_any B wKeep F2.rest F2.bad W16 HSt16.out.rd
  rw [show mkB wKeep = ⟨#[107, 101, 101, 112]⟩ from rfl] at g17
  obtain ⟨kp, hkp⟩ : ∃ b, takB wKeep F2.rest = b := ⟨_, rfl⟩
  obtain ⟨ws17, hws17⟩ : ∃ b, takR wKeep F2.rest = b := ⟨_, rfl⟩
  rw [hkp, hws17] at g17
  have HKP := hidE hkp
  have HWS17 := hidE hws17
  clear hkp hws17
  have HC := hidE (fun (W' : World) (o : Only B W16 W') => (HSt16.out.rl.keep (o.block R (by have := HSt16.out.o2; omega))).at1.2.2.1)
  go_upto_region 25 with (go_at_call 51; go_must (refine g17.mono ?_; rintro e W17 ⟨rfl, rd17, o17⟩; obtain ⟨q1, q2⟩ := HC.out W17 o17))
  have HSt17 := HSt16.out.only o17 rd17
  obtain ⟨W18, hW18, r18, o18⟩ := HSt17.rl.storeB 2 kp { r12 with sa := F1.a, sl := F1.n, fr := F1.ps, da := F2.a, dl := F2.n, tl := F2.ps, keep := kp } rfl
  have HSt18 := hidE (HSt17.rule r18 o18 HSt17.pf HSt17.pt)
  rw [hW18]
  clear hW18 r18 o18 q1 q2 HC g17 o17 rd17 HSt16 HSt17
  have HRF : Hid (ruleF ws12 r12 bd12 = ({ r12 with sa := F1.a, sl := F1.n, fr := F1.ps, da := F2.a, dl := F2.n, tl := F2.ps, keep := kp }, !F2.bad && ws17.isEmpty)) := by
    rw [Hid]
    unfold ruleF
    rw [HF1.out, HF2.out, HKP.out, HWS17.out]
  rw [HRF.out] at HRR
  obtain ⟨r18, hr18⟩ : ∃ r : Rl, { r12 with sa := F1.a, sl := F1.n, fr := F1.ps, da := F2.a, dl := F2.n, tl := F2.ps, keep := kp } = r := ⟨_, rfl⟩
  rw [hr18] at HRR HSt18
  clear hr18 HRF HF1 HF2 HKP HWS17 HL12 HLR HFT HBAD
  obtain ⟨g0, off0, c0, hbx, _⟩ := HSt18.out.rd
  have k0 : W18.cell? ⟨B, 0, none⟩ = some (.slice (some ⟨g0, off0, none⟩) ws17.length c0) := by rw [cell_of_row W18 B _ _ _ _ hbx]; rfl
  have k1 : W18.cell? ⟨B, 1, none⟩ = some (.bool F2.bad) := by rw [cell_of_row W18 B _ _ _ _ hbx]; rfl
  clear hbx
  obtain ⟨fb, hfb⟩ : ∃ b, F2.bad = b := ⟨_, rfl⟩
  rw [hfb] at k1 HRR HSt18
  clear hfb
  obtain ⟨wl, hwl⟩ : ∃ n, ws17.length = n := ⟨_, rfl⟩
  rw [hwl] at k0
  have HWL := hidE hwl
  clear hwl
  obtain ⟨d0, d1, d2, d3, d4, d5, d6, d7, d8, d9, d10⟩ := HSt18.out.rl.cells
  obtain ⟨x0, x1, x2, x3, x4, x5, x6, x7, x8, x9, x10⟩ := HSt18.out.rs.cells
  have y0 := HSt18.out.rs.freeA 0
  have y1 := HSt18.out.rs.freeA 1
  have y2 := HSt18.out.rs.freeA 2
  have y3 := HSt18.out.rs.freeA 3
  have y4 := HSt18.out.rs.freeA 4
  have y5 := HSt18.out.rs.freeA 5
  have y6 := HSt18.out.rs.freeA 6
  have y7 := HSt18.out.rs.freeA 7
  have y8 := HSt18.out.rs.freeA 8
  have y9 := HSt18.out.rs.freeA 9
  have y10 := HSt18.out.rs.freeA 10
  obtain ⟨W20, hW20, r20, o20⟩ := HSt18.out.rs.storeAll r18 (.slice a8 n8 c8) (.slice a9 n9 c9)
  have bd0 : Below W20.heap.size W20 W20.drew := (Below.refl _ _).drew
  have HR20 := hidE (r20.below r20.lt bd0)
  have HB20 := hidE (show Below w.heap.size w W20.drew by rw [HSS.out]; exact (o20.below (Nat.le_refl S) HSt18.out.bel).drew)
  have hSR : S < R + 1 := by have := HSt18.out.o1; have := HSt18.out.o2; omega
  have HO20 := hidE (show OwnSp W20.drew w.heap.size (.slice a8 n8 c8) r18.fr ∧ OwnSp W20.drew w.heap.size (.slice a9 n9 c9) r18.tl by rw [HSS.out]; exact ⟨((HSt18.out.pf.only o20 hSR).below bd0).base (Nat.le_of_lt hSR), ((HSt18.out.pt.only o20 hSR).below bd0).base (Nat.le_of_lt hSR)⟩)
  have HW20 := hidE hW20
  have hBS : B ≠ S := by have := HSt18.out.o1; omega
  have hSB : S ≠ B := Ne.symm hBS
  clear hW20 r20 o20 bd0 hSR HSt18
  cases fb with
  | true =>
    have HQ := hidE (HNO.out r18 a8 n8 c8 a9 n9 c9 W20.drew (by rw [HRR.out]; rfl) HB20.out)
    clear HNO HYES HRR
    go_region
    all_goals (rw [HW20.out]; go_wp2_with fail; (obtain ⟨z0, z1, z2, z3, z4, z5, z6, z7, z8, z9, z10⟩ := HR20.out.cells); exact bodyPost_ret (v := .tuple #[rlV r18 (.slice a8 n8 c8) (.slice a9 n9 c9), .bool false]) (by simp [results, Tryz.results23, go_sem, rlV, z0, z1, z2, z3, z4, z5, z6, z7, z8, z9, z10]) rfl HQ.out)
  | false =>
    by_cases hw0 : wl = 0
    · have hwn : ws17 = [] := List.length_eq_zero_iff.1 (by rw [HWL.out]; exact hw0)
      have HQ := hidE (HYES.out r18 (.slice a8 n8 c8) (.slice a9 n9 c9) W20.drew (by rw [HRR.out, hwn]; rfl) HO20.out.1 HO20.out.2 HB20.out)
      subst hw0
      clear HNO HYES HRR hwn
      go_region
      all_goals (rw [HW20.out]; go_wp2_with fail; (obtain ⟨z0, z1, z2, z3, z4, z5, z6, z7, z8, z9, z10⟩ := HR20.out.cells); exact bodyPost_ret (v := .tuple #[rlV r18 (.slice a8 n8 c8) (.slice a9 n9 c9), .bool true]) (by simp [results, Tryz.results23, go_sem, rlV, z0, z1, z2, z3, z4, z5, z6, z7, z8, z9, z10]) rfl HQ.out)
    · have hwn : ws17.isEmpty = false := by
        cases hc : ws17 with
        | nil => rw [hc] at HWL; exact absurd HWL.out.symm hw0
        | cons _ _ => rfl
      have HQ := hidE (HNO.out r18 a8 n8 c8 a9 n9 c9 W20.drew (by rw [HRR.out, hwn]; rfl) HB20.out)
      have i1 : ((wl : Int) == 0) = false := by rw [beq_eq_false_iff_ne]; omega
      have i2 : (wl == 0) = false := by rw [beq_eq_false_iff_ne]; omega
      have i3 : ¬ (wl : Int) = 0 := by omega
      clear HNO HYES HRR hwn
      go_region
      all_goals (rw [HW20.out]; go_wp2_with fail; (obtain ⟨z0, z1, z2, z3, z4, z5, z6, z7, z8, z9, z10⟩ := HR20.out.cells); exact bodyPost_ret (v := .tuple #[rlV r18 (.slice a8 n8 c8) (.slice a9 n9 c9), .bool false]) (by simp [results, Tryz.results23, go_sem, rlV, z0, z1, z2, z3, z4, z5, z6, z7, z8, z9, z10]) rfl HQ.out)
end Go.Proofs.YthnkjfgiclolaaaGreatDoor
