/- What the program's 'read' returns (package span): what strconv.Atoi makes of a word's parts. Conditions: as in SpnTxt. -/
import Derived.Test.YthnkjfgiclolaaaGreatDoorSpnTxt
import Derived.Test.YthnkjfgiclolaaaGreatDoorMgF
import Derived.Lib.AtoiErrMem
import Derived.Lib.SplitLaws
namespace Go.Proofs.YthnkjfgiclolaaaGreatDoor
open Go.RowKit
set_option linter.unusedVariables false
set_option maxRecDepth 4000

def atoiO (l : List UInt8) : Option Int := match Lib.atoiAll l with | .ok v => some v | _ => none
/-- One span of a word. -/
def readL (l : List UInt8) : Option Sp :=
  match atoiO (splitC 45 l).1 with
  | none => none
  | some a => match atoiO (if (splitC 45 l).2.2 = true then (splitC 45 l).2.1 else (splitC 45 l).1) with
    | none => none
    | some b => some (a, b)
theorem atoi_any (s : ByteArray) (w : World) (hs : s.size ≤ 281474976710656) (ht : TxE w) :
    Calls Tryz.prog 120 #[.string s] w fun e w' => ∃ z ev, e = .returned (.tuple #[.int .i64 z, ev]) ∧ ((atoiO s.data.toList = some z ∧ ev = .nilIface) ∨ (atoiO s.data.toList = none ∧ ∃ T N, ev = .iface T (.pointer (some ⟨N, 0, none⟩)))) ∧ Below w.heap.size w w' := by
  unfold atoiO
  rcases h : Lib.atoiAll s.data.toList with v | _ | _
  · refine (Tryz.strconv_Atoi_ok s (by omega) v h w).mono ?_
    rintro e w' ⟨rfl, hw⟩
    refine ⟨v, .nilIface, rfl, .inl ⟨rfl, rfl⟩, ?_⟩
    rcases hw with rfl | ⟨t, rfl⟩
    · exact Below.refl _ _
    · exact Lib.bytesWorld_below w _ t
  · obtain ⟨tp, p, hv⟩ := ht.syn
    refine (Tryz.strconv_Atoi_syntax_var s hs h tp p w hv).mono ?_
    rintro e w' ⟨N, rfl, _, _, hb⟩
    exact ⟨_, _, rfl, .inr ⟨rfl, _, _, rfl⟩, hb⟩
  · obtain ⟨tp, p, hv⟩ := ht.rng
    refine (Tryz.strconv_Atoi_range_var s hs h tp p w hv).mono ?_
    rintro e w' ⟨N, rfl, _, _, hb⟩
    exact ⟨_, _, rfl, .inr ⟨rfl, _, _, rfl⟩, hb⟩
theorem readL_none1 {l : List UInt8} (h : atoiO (splitC 45 l).1 = none) : readL l = none := by unfold readL; rw [h]
theorem readL_none2 {l : List UInt8} {a : Int} (h : atoiO (splitC 45 l).1 = some a) (h2 : atoiO (if (splitC 45 l).2.2 = true then (splitC 45 l).2.1 else (splitC 45 l).1) = none) : readL l = none := by unfold readL; rw [h, h2]
theorem readL_some {l : List UInt8} {a b : Int} (h : atoiO (splitC 45 l).1 = some a) (h2 : atoiO (if (splitC 45 l).2.2 = true then (splitC 45 l).2.1 else (splitC 45 l).1) = some b) : readL l = some (a, b) := by unfold readL; rw [h, h2]
/-- What 'read' answers. -/
def Reads (l : List UInt8) (w : World) (e : Ending) (w' : World) : Prop := ∃ (x y : Int) (b : Bool), e = .returned (.tuple #[.agg #[.int .i64 x, .int .i64 y], .bool b]) ∧ ((readL l = some (x, y) ∧ b = true) ∨ (readL l = none ∧ b = false)) ∧ Below w.heap.size w w'
set_option maxHeartbeats 8000000 in
theorem read_any (s : ByteArray) (w : World) (hs : s.size ≤ 140737488355328) (ht : TxE w) :
    Calls Tryz.prog 100 #[.string s] w (Reads s.data.toList w) := by
  have hcut := strCut_any s 45 (w.alloc (.cells #[.int .i64 0, .int .i64 0] 42)) (by unfold maxLen; omega)
  have hsl := splitC_len 45 s.data.toList
  have hsz : s.data.toList.length = s.size := by simp
  rw [hsz] at hsl
  have HN1 : Hid (atoiO (splitC 45 s.data.toList).1 = none → readL s.data.toList = none) := readL_none1
  have HN2 : Hid (∀ a, atoiO (splitC 45 s.data.toList).1 = some a → atoiO (if (splitC 45 s.data.toList).2.2 = true then (splitC 45 s.data.toList).2.1 else (splitC 45 s.data.toList).1) = none → readL s.data.toList = none) := fun a => readL_none2
  have HSO : Hid (∀ a b, atoiO (splitC 45 s.data.toList).1 = some a → atoiO (if (splitC 45 s.data.toList).2.2 = true then (splitC 45 s.data.toList).2.1 else (splitC 45 s.data.toList).1) = some b → readL s.data.toList = some (a, b)) := fun a b => readL_some
  obtain ⟨RD, hRD⟩ : ∃ RD, readL s.data.toList = RD := ⟨_, rfl⟩
  rw [hRD] at HN1 HN2 HSO
  have HRE : Hid (readL s.data.toList = RD) := hRD
  clear hRD
  generalize splitC 45 s.data.toList = t at hcut hsl HN1 HN2 HSO
  obtain ⟨hd, tl, two⟩ := t
  simp only at hcut hsl HN1 HN2 HSO
  have b0 := (Below.refl w.heap.size w).alloc (Nat.le_refl _) (.cells #[.int .i64 0, .int .i64 0] 42)
  have hp0 := PairAt.new w 0 0 42
  obtain ⟨tk, htk⟩ : ∃ tk, (if two = true then tl else hd) = tk := ⟨_, rfl⟩
  rw [htk] at HN2 HSO
  have HTK : Hid ((if two = true then tl else hd) = tk) := htk
  have htl : tk.length ≤ s.size := by rw [← htk]; split <;> omega
  have HA : Hid (∀ (l : List UInt8) (W : World), l.length ≤ s.size → Below w.heap.size w W → Calls Tryz.prog 120 #[.string (mkB l)] W fun e w' => ∃ z ev, e = .returned (.tuple #[.int .i64 z, ev]) ∧ ((atoiO l = some z ∧ ev = .nilIface) ∨ (atoiO l = none ∧ ∃ T N, ev = .iface T (.pointer (some ⟨N, 0, none⟩)))) ∧ Below W.heap.size W w') := fun l W hl hW => by
    have := atoi_any (mkB l) W (by rw [mkB_size]; omega) (ht.below hW)
    rw [mkB_toList] at this; exact this
  have HB0 : Hid (Below w.heap.size w (w.alloc (.cells #[.int .i64 0, .int .i64 0] 42))) := b0
  have HP0 : Hid (PairAt (w.alloc (.cells #[.int .i64 0, .int .i64 0] 42)) w.heap.size 0 0) := hp0
  have HRD : Hid (∀ (x y : Int) (b : Bool) (w' : World), ((RD = some (x, y) ∧ b = true) ∨ (RD = none ∧ b = false)) → Below w.heap.size w w' → Reads s.data.toList w (.returned (.tuple #[.agg #[.int .i64 x, .int .i64 y], .bool b])) w') := fun x y b w' h hb => ⟨x, y, b, rfl, by rw [HRE.out]; exact h, hb⟩
  obtain ⟨B0, hB0⟩ : ∃ B0, w.heap.size = B0 := ⟨_, rfl⟩
  have HBE : Hid (w.heap.size = B0) := hB0
  clear b0 hp0 htk hsz HRE
  obtain ⟨Q, hQ⟩ : ∃ Q, Reads s.data.toList w = Q := ⟨_, rfl⟩
  rw [hQ] at HRD ⊢
  clear hQ
  go_enter Tryz.func100, Tryz.ntmps100
  go_upto_region 2 with (go_at_call 59; go_must (refine hcut.mono ?_; rintro e w1 ⟨rfl, d1⟩))
  have HB1 : Hid (Below w.heap.size w w1) := HB0.out.trans (d1.below _)
  have HP1 : Hid (PairAt w1 B0 0 0) := by rw [Hid, ← HBE.out]; exact HP0.out.below HP0.out.lt (d1.below _)
  clear hcut d1 hB0
  have ka := HA.out hd w1 hsl.1 HB1.out
  cases two with
  | true =>
    have e : tk = tl := by rw [← HTK.out]; rfl
    subst e
    go_upto_region 5 with (go_at_call 120; go_must (refine ka.mono ?_; rintro e w2 ⟨z1, ev1, rfl, hz1, b2⟩))
    have HB2 : Hid (Below w.heap.size w w2) := HB1.out.trans (b2.mono HB1.out.size)
    have HP2 : Hid (PairAt w2 B0 0 0) := HP1.out.below HP1.out.lt b2
    obtain ⟨p0, p1, f0, f1⟩ := HP2.out
    have ka2 := HA.out tk w2 htl HB2.out
    clear ka b2
    rcases hz1 with ⟨ho1, rfl⟩ | ⟨ho1, T1, N1, rfl⟩
    · have HO1 : Hid (atoiO hd = some z1) := ho1
      clear ho1 p0 p1 f0 f1
      go_upto_region 8 with (go_at_call 120; go_must (refine ka2.mono ?_; rintro e w3 ⟨z2, ev2, rfl, hz2, b3⟩))
      have HB3 : Hid (Below w.heap.size w w3) := HB2.out.trans (b3.mono HB2.out.size)
      have HP3 : Hid (PairAt w3 B0 0 0) := HP2.out.below HP2.out.lt b3
      obtain ⟨p0, p1, f0, f1⟩ := HP3.out
      have HS3 : Hid (∀ x y : Int, Below w.heap.size w ((w3.setCell ⟨B0, 0, none⟩ (.int .i64 x)).setCell ⟨B0, 1, none⟩ (.int .i64 y)) ∧ ((w3.setCell ⟨B0, 0, none⟩ (.int .i64 x)).setCell ⟨B0, 1, none⟩ (.int .i64 y)).cell? ⟨B0, 0, none⟩ = some (.int .i64 x) ∧ ((w3.setCell ⟨B0, 0, none⟩ (.int .i64 x)).setCell ⟨B0, 1, none⟩ (.int .i64 y)).cell? ⟨B0, 1, none⟩ = some (.int .i64 y)) := fun x y => by
        have q := (HP3.out.set0 x).set1 y
        exact ⟨(HB3.out.setCell (by rw [HBE.out]; exact Nat.le_refl _) _).setCell (by rw [HBE.out]; exact Nat.le_refl _) _, q.1, q.2.1⟩
      clear ka2 b3
      rcases hz2 with ⟨ho2, rfl⟩ | ⟨ho2, T2, N2, rfl⟩
      · have HRV : Hid (RD = some (z1, z2)) := HSO.out _ _ HO1.out ho2
        clear ho2
        go_region
        obtain ⟨hb4, r0, r1⟩ := HS3.out z1 z2
        generalize ((w3.setCell ⟨B0, 0, none⟩ (.int .i64 z1)).setCell ⟨B0, 1, none⟩ (.int .i64 z2)) = W4 at hb4 r0 r1 ⊢
        have hb5 : Below w.heap.size w W4.drew := hb4.trans ⟨rfl, rfl, rfl, Nat.le_refl _, fun _ _ => rfl⟩
        have s0 : W4.drew.cell? ⟨B0, 0, none⟩ = some (.int .i64 z1) := r0
        have s1 : W4.drew.cell? ⟨B0, 1, none⟩ = some (.int .i64 z2) := r1
        generalize W4.drew = W5 at hb5 s0 s1 ⊢
        clear p0 p1 f0 f1
        go_wp2_with fail
        exact bodyPost_ret (v := .tuple #[.agg #[.int .i64 z1, .int .i64 z2], .bool true]) (by simp [results, Tryz.results100, go_sem, s0, s1]) rfl (HRD.out z1 z2 true W5 (.inl ⟨HRV.out, rfl⟩) hb5)
      · have HRV : Hid (RD = none) := HN2.out _ HO1.out ho2
        clear ho2
        go_region
        obtain ⟨hb4, r0, r1⟩ := HS3.out z1 z2
        generalize ((w3.setCell ⟨B0, 0, none⟩ (.int .i64 z1)).setCell ⟨B0, 1, none⟩ (.int .i64 z2)) = W4 at hb4 r0 r1 ⊢
        have hb5 : Below w.heap.size w W4.drew := hb4.trans ⟨rfl, rfl, rfl, Nat.le_refl _, fun _ _ => rfl⟩
        have s0 : W4.drew.cell? ⟨B0, 0, none⟩ = some (.int .i64 z1) := r0
        have s1 : W4.drew.cell? ⟨B0, 1, none⟩ = some (.int .i64 z2) := r1
        generalize W4.drew = W5 at hb5 s0 s1 ⊢
        clear p0 p1 f0 f1
        go_wp2_with fail
        exact bodyPost_ret (v := .tuple #[.agg #[.int .i64 z1, .int .i64 z2], .bool false]) (by simp [results, Tryz.results100, go_sem, s0, s1]) rfl (HRD.out z1 z2 false W5 (.inr ⟨HRV.out, rfl⟩) hb5)
    · have HRV : Hid (RD = none) := HN1.out ho1
      have HS3 : Hid (Below w.heap.size w ((w2.setCell ⟨B0, 0, none⟩ (.int .i64 0)).setCell ⟨B0, 1, none⟩ (.int .i64 0)) ∧ ((w2.setCell ⟨B0, 0, none⟩ (.int .i64 0)).setCell ⟨B0, 1, none⟩ (.int .i64 0)).cell? ⟨B0, 0, none⟩ = some (.int .i64 0) ∧ ((w2.setCell ⟨B0, 0, none⟩ (.int .i64 0)).setCell ⟨B0, 1, none⟩ (.int .i64 0)).cell? ⟨B0, 1, none⟩ = some (.int .i64 0)) := by
        have q := (HP2.out.set0 0).set1 0
        exact ⟨(HB2.out.setCell (by rw [HBE.out]; exact Nat.le_refl _) _).setCell (by rw [HBE.out]; exact Nat.le_refl _) _, q.1, q.2.1⟩
      clear ho1 ka2
      go_wp2_with fail
      obtain ⟨hb4, r0, r1⟩ := HS3.out
      generalize ((w2.setCell ⟨B0, 0, none⟩ (.int .i64 0)).setCell ⟨B0, 1, none⟩ (.int .i64 0)) = W4 at hb4 r0 r1 ⊢
      exact bodyPost_ret (v := .tuple #[.agg #[.int .i64 0, .int .i64 0], .bool false]) (by simp [results, Tryz.results100, go_sem, r0, r1]) rfl (HRD.out 0 0 false W4 (.inr ⟨HRV.out, rfl⟩) hb4)
  | false =>
    have e : tk = hd := by rw [← HTK.out]; rfl
    subst e
    go_upto_region 5 with (go_at_call 120; go_must (refine ka.mono ?_; rintro e w2 ⟨z1, ev1, rfl, hz1, b2⟩))
    have HB2 : Hid (Below w.heap.size w w2) := HB1.out.trans (b2.mono HB1.out.size)
    have HP2 : Hid (PairAt w2 B0 0 0) := HP1.out.below HP1.out.lt b2
    obtain ⟨p0, p1, f0, f1⟩ := HP2.out
    have ka2 := HA.out tk w2 htl HB2.out
    clear ka b2
    rcases hz1 with ⟨ho1, rfl⟩ | ⟨ho1, T1, N1, rfl⟩
    · have HO1 : Hid (atoiO tk = some z1) := ho1
      clear ho1 p0 p1 f0 f1
      go_upto_region 8 with (go_at_call 120; go_must (refine ka2.mono ?_; rintro e w3 ⟨z2, ev2, rfl, hz2, b3⟩))
      have HB3 : Hid (Below w.heap.size w w3) := HB2.out.trans (b3.mono HB2.out.size)
      have HP3 : Hid (PairAt w3 B0 0 0) := HP2.out.below HP2.out.lt b3
      obtain ⟨p0, p1, f0, f1⟩ := HP3.out
      have HS3 : Hid (∀ x y : Int, Below w.heap.size w ((w3.setCell ⟨B0, 0, none⟩ (.int .i64 x)).setCell ⟨B0, 1, none⟩ (.int .i64 y)) ∧ ((w3.setCell ⟨B0, 0, none⟩ (.int .i64 x)).setCell ⟨B0, 1, none⟩ (.int .i64 y)).cell? ⟨B0, 0, none⟩ = some (.int .i64 x) ∧ ((w3.setCell ⟨B0, 0, none⟩ (.int .i64 x)).setCell ⟨B0, 1, none⟩ (.int .i64 y)).cell? ⟨B0, 1, none⟩ = some (.int .i64 y)) := fun x y => by
        have q := (HP3.out.set0 x).set1 y
        exact ⟨(HB3.out.setCell (by rw [HBE.out]; exact Nat.le_refl _) _).setCell (by rw [HBE.out]; exact Nat.le_refl _) _, q.1, q.2.1⟩
      clear ka2 b3
      rcases hz2 with ⟨ho2, rfl⟩ | ⟨ho2, T2, N2, rfl⟩
      · have HRV : Hid (RD = some (z1, z2)) := HSO.out _ _ HO1.out ho2
        clear ho2
        go_region
        obtain ⟨hb4, r0, r1⟩ := HS3.out z1 z2
        generalize ((w3.setCell ⟨B0, 0, none⟩ (.int .i64 z1)).setCell ⟨B0, 1, none⟩ (.int .i64 z2)) = W4 at hb4 r0 r1 ⊢
        have hb5 : Below w.heap.size w W4.drew := hb4.trans ⟨rfl, rfl, rfl, Nat.le_refl _, fun _ _ => rfl⟩
        have s0 : W4.drew.cell? ⟨B0, 0, none⟩ = some (.int .i64 z1) := r0
        have s1 : W4.drew.cell? ⟨B0, 1, none⟩ = some (.int .i64 z2) := r1
        generalize W4.drew = W5 at hb5 s0 s1 ⊢
        clear p0 p1 f0 f1
        go_wp2_with fail
        exact bodyPost_ret (v := .tuple #[.agg #[.int .i64 z1, .int .i64 z2], .bool true]) (by simp [results, Tryz.results100, go_sem, s0, s1]) rfl (HRD.out z1 z2 true W5 (.inl ⟨HRV.out, rfl⟩) hb5)
      · have HRV : Hid (RD = none) := HN2.out _ HO1.out ho2
        clear ho2
        go_region
        obtain ⟨hb4, r0, r1⟩ := HS3.out z1 z2
        generalize ((w3.setCell ⟨B0, 0, none⟩ (.int .i64 z1)).setCell ⟨B0, 1, none⟩ (.int .i64 z2)) = W4 at hb4 r0 r1 ⊢
        have hb5 : Below w.heap.size w W4.drew := hb4.trans ⟨rfl, rfl, rfl, Nat.le_refl _, fun _ _ => rfl⟩
        have s0 : W4.drew.cell? ⟨B0, 0, none⟩ = some (.int .i64 z1) := r0
        have s1 : W4.drew.cell? ⟨B0, 1, none⟩ = some (.int .i64 z2) := r1
        generalize W4.drew = W5 at hb5 s0 s1 ⊢
        clear p0 p1 f0 f1
        go_wp2_with fail
        exact bodyPost_ret (v := .tuple #[.agg #[.int .i64 z1, .int .i64 z2], .bool false]) (by simp [results, Tryz.results100, go_sem, s0, s1]) rfl (HRD.out z1 z2 false W5 (.inr ⟨HRV.out, rfl⟩) hb5)
    · have HRV : Hid (RD = none) := HN1.out ho1
      have HS3 : Hid (Below w.heap.size w ((w2.setCell ⟨B0, 0, none⟩ (.int .i64 0)).setCell ⟨B0, 1, none⟩ (.int .i64 0)) ∧ ((w2.setCell ⟨B0, 0, none⟩ (.int .i64 0)).setCell ⟨B0, 1, none⟩ (.int .i64 0)).cell? ⟨B0, 0, none⟩ = some (.int .i64 0) ∧ ((w2.setCell ⟨B0, 0, none⟩ (.int .i64 0)).setCell ⟨B0, 1, none⟩ (.int .i64 0)).cell? ⟨B0, 1, none⟩ = some (.int .i64 0)) := by
        have q := (HP2.out.set0 0).set1 0
        exact ⟨(HB2.out.setCell (by rw [HBE.out]; exact Nat.le_refl _) _).setCell (by rw [HBE.out]; exact Nat.le_refl _) _, q.1, q.2.1⟩
      clear ho1 ka2
      go_wp2_with fail
      obtain ⟨hb4, r0, r1⟩ := HS3.out
      generalize ((w2.setCell ⟨B0, 0, none⟩ (.int .i64 0)).setCell ⟨B0, 1, none⟩ (.int .i64 0)) = W4 at hb4 r0 r1 ⊢
      exact bodyPost_ret (v := .tuple #[.agg #[.int .i64 0, .int .i64 0], .bool false]) (by simp [results, Tryz.results100, go_sem, r0, r1]) rfl (HRD.out 0 0 false W4 (.inr ⟨HRV.out, rfl⟩) hb4)
end Go.Proofs.YthnkjfgiclolaaaGreatDoor

namespace Go.Proofs.YthnkjfgiclolaaaGreatDoor
open Go.RowKit
set_option linter.unusedVariables false
set_option maxRecDepth 4000

def mapO : List ByteArray → Option (List Sp)
  | [] => some []
  | x :: r => match readL x.data.toList, mapO r with | some a, some l => some (a :: l) | _, _ => none
theorem mapO_snoc : ∀ (xs : List ByteArray) (x : ByteArray), mapO (xs ++ [x]) = match mapO xs, readL x.data.toList with | some l, some a => some (l ++ [a]) | _, _ => none
  | [], x => by
      rw [List.nil_append]; unfold mapO mapO
      cases readL x.data.toList <;> rfl
  | y :: r, x => by
      rw [List.cons_append]; unfold mapO
      rw [mapO_snoc r x]
      cases readL y.data.toList <;> cases mapO r <;> cases readL x.data.toList <;> rfl
theorem mapO_none : ∀ (xs ys : List ByteArray), mapO xs = none → mapO (xs ++ ys) = none
  | [], ys, h => by cases h
  | x :: r, ys, h => by
      rw [List.cons_append]
      unfold mapO at h ⊢
      cases hx : readL x.data.toList with
      | none => rfl
      | some a =>
        rw [hx] at h
        cases hr : mapO r with
        | none => rw [mapO_none r ys hr]
        | some l => rw [hr] at h; cases h
def wordsB (s : ByteArray) : List ByteArray := Lib.splitB ⟨#[44]⟩ 0 (Lib.countB s ⟨#[44]⟩) s
theorem splitB_size (sep : ByteArray) : ∀ (k : Nat) (s : ByteArray), ∀ x ∈ Lib.splitB sep 0 k s, x.size ≤ s.size
  | 0, s, x, h => by rw [Lib.splitB_zero, List.mem_singleton] at h; subst h; exact Nat.le_refl _
  | k + 1, s, x, h => by
      unfold Lib.splitB at h
      split at h
      · rw [List.mem_singleton] at h; subst h; exact Nat.le_refl _
      · rcases List.mem_cons.1 h with rfl | h
        · simp [ByteArray.size_extract]; omega
        · have := splitB_size sep k _ x h
          simp [ByteArray.size_extract] at this
          omega
theorem wordsB_len (s : ByteArray) : (wordsB s).length = Lib.countB s ⟨#[44]⟩ + 1 ∧ (wordsB s).length ≤ s.size + 1 := by
  have h1 := Lib.splitB_all ⟨#[44]⟩ (by decide) 0 (Lib.countB s ⟨#[44]⟩) s rfl
  have h2 := Lib.countB_le ⟨#[44]⟩ (by decide) s.size s (Nat.le_refl _)
  unfold wordsB
  omega
/-- The spans of a text. -/
def parseO (s : ByteArray) : Option (List Sp) :=
  if s.data.toList = [45] then some [] else match mapO (wordsB s) with | none => none | some l => if spE l = 0 ∧ mkB (printL l) = s then some l else none
theorem str_eq {a b : ByteArray} (h : a = b) : (a.toList == b.toList) = true := by subst h; simp
theorem str_ne {a b : ByteArray} (h : ¬ a = b) : (a.toList == b.toList) = false := by
  rw [beq_eq_false_iff_ne]
  intro e
  rw [ByteArray.toList_eq, ByteArray.toList_eq] at e
  exact h (ByteArray.ext (by simpa using e))
/-- What Parse answers. -/
def Parses (s : ByteArray) (w : World) (e : Ending) (w' : World) : Prop := ∃ v er, e = .returned (.tuple #[v, er]) ∧ ((∃ l, parseO s = some l ∧ er = .nilIface ∧ Spns w' v l ∧ l.length ≤ 1048577) ∨ (parseO s = none ∧ er = .iface 45 (.int .i64 2) ∧ v = .slice none 0 0)) ∧ Below w.heap.size w w'
/-- .. with a row of its own. -/
def ParsesO (s : ByteArray) (w : World) (e : Ending) (w' : World) : Prop := ∃ v er, e = .returned (.tuple #[v, er]) ∧ ((∃ l, parseO s = some l ∧ er = .nilIface ∧ OwnSp w' w.heap.size v l ∧ l.length ≤ 1048577) ∨ (parseO s = none ∧ er = .iface 45 (.int .i64 2) ∧ v = .slice none 0 0)) ∧ Below w.heap.size w w'
/-- 'append' of one span onto a row of the call's own. -/
theorem wpList_append_spB {w : World} {ops : Array Oper} {rest : List Oper} {o : Oper} {a : Act} {Q : Exit → Act → World → Prop} (hgd : o.guard = none) (s x : Operand)
    (ho : o.op = .call { callee := .builtin .append, args := #[s, x], argTypes := #[31, 31] })
    (base : Nat) (v : Value) (ps : List Sp) (hs : a.eval s = v) (hown : OwnSp w base v ps) (c d : Int) (hx : a.eval x = .slice (some ⟨w.heap.size, 0, none⟩) 1 1)
    (hlen : ps.length ≤ 4398046511104) (hbase : base ≤ w.heap.size)
    (h : ∀ g cap w', OwnSp w' base (.slice (some ⟨g, 0, none⟩) (ps.length + 1) cap) (ps ++ [(c, d)]) → (w.alloc (.cells #[.int .i64 c, .int .i64 d] 42)).grownBy w' v.ownBlock → (v.ownBlock = some g ∨ g = w.heap.size + 1) → wpList Tryz.prog ops Q rest (a.put o.dst (.slice (some ⟨g, 0, none⟩) (ps.length + 1) cap)) w') :
    wpList Tryz.prog ops Q (o :: rest) a (w.alloc (.cells #[.int .i64 c, .int .i64 d] 42)) := by
  obtain ⟨i0, hi, hz0, hz1, hz2⟩ := info_parts Tryz.infoSp
  refine wpList_append_lies _ hgd s x 31 ho base 42 i0 (.agg #[.int .i64 0, .int .i64 0]) 2 16 Tryz.underlying31 hi hz0 hz1 hz2 rfl (by decide) v ps.length (spCells ps) hs (OwnSp.alloc hown _) ⟨w.heap.size, 0, none⟩ 1 1 [.int .i64 c, .int .i64 d] hx rfl ?_ ?_ (by decide) (by unfold maxLen; omega) (by omega) (by simp; omega) (w.heap.size + 1) (by simp) ?_
  · intro j u hj
    match j, hj with
    | 0, hj => simp at hj; subst hj; simp [Addr.add]
    | 1, hj => simp at hj; subst hj; simp [Addr.add]
  · intro u hu
    rcases (by simpa using hu : u = .int .i64 c ∨ u = .int .i64 d) with rfl | rfl <;> rfl
  · intro g cap w' h1 h2 h3 _
    refine h g cap w' ?_ h2 h3
    unfold OwnSp
    rw [List.length_append, spCells_append]; exact h1
set_option maxHeartbeats 16000000 in
theorem parse_own (s : ByteArray) (w : World) (hs : s.size ≤ 1048576) (ht : TxE w) : Calls Tryz.prog 62 #[.string s] w (ParsesO s w) := by
  by_cases h0 : s.data.toList = [45]
  · have hz : ParsesO s w (.returned (.tuple #[.slice none 0 0, .nilIface])) w := ⟨_, _, rfl, .inl ⟨[], by unfold parseO; rw [if_pos h0], rfl, OwnSp.nil _ _, by simp⟩, Below.refl _ _⟩
    have HZ : Hid (ParsesO s w (.returned (.tuple #[.slice none 0 0, .nilIface])) w) := hz
    have hq : (s.toList == [45]) = true := by rw [ByteArray.toList_eq, h0]; rfl
    generalize ParsesO s w = Q at HZ ⊢
    clear hz h0 ht
    go_enter Tryz.func62, Tryz.ntmps62
    go_wp2_with fail
    exact HZ.out
  have hq : (s.toList == [45]) = false := by
    rw [beq_eq_false_iff_ne, ByteArray.toList_eq]; exact h0
  obtain ⟨m, hm⟩ := ht.mx
  have hsp := Tryz.strings_Split s ⟨#[44]⟩ m w (by omega) hm (by decide)
  obtain ⟨hwl, hwl2⟩ := wordsB_len s
  have hwz : ∀ x ∈ wordsB s, x.size ≤ s.size := splitB_size _ _ _
  rw [← hwl] at hsp
  have HNO : Hid (∀ w', Below w.heap.size w w' → parseO s = none → ParsesO s w (.returned (.tuple #[.slice none 0 0, .iface 45 (.int .i64 2)])) w') := fun w' hb h => ⟨_, _, rfl, .inr ⟨h, rfl, rfl⟩, hb⟩
  have HYES : Hid (∀ v l w', parseO s = some l → OwnSp w' w.heap.size v l → l.length ≤ 1048577 → Below w.heap.size w w' → ParsesO s w (.returned (.tuple #[v, .nilIface])) w') := fun v l w' h hv hl hb => ⟨_, _, rfl, .inl ⟨l, h, rfl, hv, hl⟩, hb⟩
  have HPN : Hid (mapO (wordsB s) = none → parseO s = none) := fun h => by unfold parseO; rw [if_neg h0, h]
  have HPB : Hid (∀ l, mapO (wordsB s) = some l → ¬ (spE l = 0 ∧ mkB (printL l) = s) → parseO s = none) := fun l h h2 => by unfold parseO; rw [if_neg h0, h]; simp only; rw [if_neg h2]
  have HPY : Hid (∀ l, mapO (wordsB s) = some l → spE l = 0 → mkB (printL l) = s → parseO s = some l) := fun l h h2 h3 => by unfold parseO; rw [if_neg h0, h]; simp only; rw [if_pos ⟨h2, h3⟩]
  have hcel : ∀ j (hj : j < (wordsB s).length), (w.alloc (.cells ((wordsB s).map Value.string).toArray 9)).cell? ⟨w.heap.size, j, none⟩ = some (.string (wordsB s)[j]) := fun j hj => by
    simp [World.cell?_alloc_new, hj]
  have b0 := (Below.refl w.heap.size w).alloc (Nat.le_refl _) (.cells ((wordsB s).map Value.string).toArray 9)
  have hsz0 : (w.alloc (.cells ((wordsB s).map Value.string).toArray 9)).heap.size = w.heap.size + 1 := by simp
  have hsp : Calls Tryz.prog 70 #[.string s, .string ⟨#[44]⟩] w fun e w' => e = .returned (.slice (some ⟨w.heap.size, 0, none⟩) (wordsB s).length (wordsB s).length) ∧ w' = w.alloc (.cells ((wordsB s).map Value.string).toArray 9) := hsp
  generalize hPO : parseO s = PO at HNO HYES HPN HPB HPY
  clear hPO
  generalize hQ : ParsesO s w = Q at HNO HYES ⊢
  clear hQ
  generalize wordsB s = ws at hsp hwl2 hwz HPN HPB HPY hcel b0 hsz0
  obtain ⟨N, hN⟩ : ∃ N, ws.length = N := ⟨_, rfl⟩
  have HN : Hid (ws.length = N) := hN
  rw [hN] at hsp hwl2
  obtain ⟨wS, hwS⟩ : ∃ wS, w.alloc (.cells (ws.map Value.string).toArray 9) = wS := ⟨_, rfl⟩
  rw [hwS] at hsp hcel b0 hsz0
  have HCEL : Hid (∀ j (hj : j < ws.length), wS.cell? ⟨w.heap.size, j, none⟩ = some (.string ws[j])) := hcel
  have HWZ : Hid (∀ x ∈ ws, x.size ≤ s.size) := hwz
  have HB0 : Hid (Below w.heap.size w wS ∧ wS.heap.size = w.heap.size + 1) := ⟨b0, hsz0⟩
  have HT : Hid (TxE w) := ht
  clear hwS hcel hwz b0 hsz0 hwl hm ht hN h0
  go_enter Tryz.func62, Tryz.ntmps62
  go_wp2_with (go_at_call 70; go_must (refine hsp.mono ?_; rintro e wS ⟨rfl, rfl⟩))
  clear hsp
  go_loopw [4, 16] (fun v4 i wr => ∃ (k : Nat) (l : List Sp), k ≤ N ∧ i = .int .i64 (k : Int) ∧ OwnSp wr wS.heap.size v4 l ∧ l.length ≤ k ∧ Below wS.heap.size wS wr ∧ Hid (mapO (ws.take k) = some l)) (fun _ i _ => ((N : Int) - intOf i).toNat)
  case atStart => exact ⟨0, [], by omega, rfl, OwnSp.nil _ _, by simp, Below.refl _ _, rfl⟩
  case round =>
    obtain ⟨k, l, hk, rfl, hown, hll, hb, hM⟩ := hrel
    have hbw : Below w.heap.size w wr := HB0.out.1.trans (hb.mono HB0.out.1.size)
    by_cases hlt : k < N
    · as_aux_lemma =>
      have hlt' : (k : Int) < (N : Int) := by omega
      have hkl : k < ws.length := by rw [HN.out]; exact hlt
      have hc := (hb.cell (p := ⟨w.heap.size, k, none⟩) (by have := HB0.out.2; show w.heap.size < _; omega)).trans (HCEL.out k hkl)
      have hrd := read_any ws[k] wr (by have := HWZ.out ws[k] (List.getElem_mem _); omega) (HT.out.below hbw)
      have HT1 : Hid (ws.take (k + 1) = ws.take k ++ [ws[k]]) := List.take_succ_eq_append_getElem hkl
      have HT2 : Hid (∃ r, ws = ws.take (k + 1) ++ r) := ⟨ws.drop (k + 1), (List.take_append_drop _ _).symm⟩
      obtain ⟨x, hx⟩ : ∃ x, ws[k] = x := ⟨_, rfl⟩
      rw [hx] at hc hrd HT1
      have HBR : Hid (Below wS.heap.size wS wr) := hb
      have HBW : Hid (Below w.heap.size w wr) := hbw
      have HOW : Hid (OwnSp wr wS.heap.size u4 l) := hown
      unfold Reads at hrd
      clear hx hb hbw hown
      go_upto_region 8 with (go_at_call 100; go_must (refine hrd.mono ?_; rintro e w2 ⟨x1, y1, b1, rfl, hcase, bb2⟩))
      have ba := (Below.refl w2.heap.size w2).alloc (Nat.le_refl _) (.cells #[.int .i64 x1, .int .i64 y1] 42)
      have hW := bb2.trans (ba.mono bb2.size)
      have f0 : (w2.alloc (.cells #[.int .i64 x1, .int .i64 y1] 42)).cell? ⟨w2.heap.size, 0, none⟩ = some (.int .i64 x1) := by simp
      have f1 : (w2.alloc (.cells #[.int .i64 x1, .int .i64 y1] 42)).cell? ⟨w2.heap.size, 1, none⟩ = some (.int .i64 y1) := by simp
      clear hrd hc ba bb2
      generalize w2.alloc (.cells #[.int .i64 x1, .int .i64 y1] 42) = W at hW f0 f1 ⊢
      generalize w2.heap.size = gx at f0 f1 ⊢
      have HW1 : Hid (Below w.heap.size w W) := HBW.out.trans (hW.mono HBW.out.size)
      have HW2 : Hid (Below wS.heap.size wS W) := HBR.out.trans (hW.mono HBR.out.size)
      have hown := HOW.out.below hW
      have HOW2 : Hid (OwnSp W wS.heap.size u4 l) := hown
      have hsz := HW2.out.size
      clear hW
      rcases hcase with ⟨hr, rfl⟩ | ⟨hr, rfl⟩
      · have HM1 : Hid (mapO (ws.take (k + 1)) = some (l ++ [(x1, y1)])) := by
          rw [Hid, HT1.out, mapO_snoc, hM.out, hr]
        clear hr
        go_wp2_with (at_builtin; go_must (refine wpList_append_spB rfl (.tmp 28) (.tmp 30) rfl wS.heap.size u4 l rfl hown x1 y1 rfl (by omega) hsz ?_; intro g5 c5 W5 own5 grow5 lie5))
        go_roundw
        case rel => exact ⟨k + 1, l ++ [(x1, y1)], by omega, by go_num, own5, by simp; omega, HW2.out.trans (((Below.refl _ W).alloc hsz _).trans (grown_below grow5 (by simp; omega) (fun j hj => (HOW2.out.block j hj).1))), HM1.out⟩
        case measure => simp [intOf]; omega
      · have hno := HNO.out W HW1.out (HPN.out (by
          obtain ⟨r, hr2⟩ := HT2.out
          rw [hr2]
          refine mapO_none _ _ ?_
          rw [HT1.out, mapO_snoc, hM.out, hr]))
        have HNO2 : Hid (Q (.returned (.tuple #[.slice none 0 0, .iface 45 (.int .i64 2)])) W) := hno
        clear hr hno f0 f1 hown
        go_wp2_with fail
        exact HNO2.out
    · as_aux_lemma =>
      have hlt' : ¬ (k : Int) < (N : Int) := by omega
      have hmw : mapO ws = some l := by
        have := hM.out
        rw [List.take_of_length_le (by rw [HN.out]; omega)] at this
        exact this
      have HMW : Hid (mapO ws = some l) := hmw
      have hpr := spPrint_any u4 l wr hown.spns (by omega) (HT.out.below hbw)
      have HOW : Hid (OwnSp wr wS.heap.size u4 l) := hown
      have HBW : Hid (Below w.heap.size w wr) := hbw
      clear hmw hown hbw hb
      by_cases he : spE l = 0
      · rw [if_pos he, he, erV_0] at hpr
        obtain ⟨tx, htx⟩ : ∃ tx, mkB (printL l) = tx := ⟨_, rfl⟩
        rw [htx] at hpr
        have HHE : Hid (spE l = 0 ∧ mkB (printL l) = tx) := ⟨he, htx⟩
        clear he htx
        by_cases hts : tx = s
        · have hse := str_eq hts
          have HPY2 : Hid (PO = some l) := HPY.out l HMW.out HHE.out.1 (HHE.out.2.trans hts)
          have HTS : Hid (tx = s) := hts
          clear hts
          go_wp2_with (go_at_call 48; go_must (refine hpr.mono ?_; rintro e w3 ⟨rfl, b3⟩))
          exact HYES.out _ l w3 HPY2.out ((HOW.out.below b3).base (by have := HB0.out.1.size; omega)) (by omega) (HBW.out.trans (b3.mono HBW.out.size))
        · have hse := str_ne hts
          have HPB2 : Hid (PO = none) := HPB.out l HMW.out (fun h => hts (HHE.out.2.symm.trans h.2))
          clear hts
          go_wp2_with (go_at_call 48; go_must (refine hpr.mono ?_; rintro e w3 ⟨rfl, b3⟩))
          exact HNO.out w3 (HBW.out.trans (b3.mono HBW.out.size)) HPB2.out
      · rw [if_neg he, erV_n he] at hpr
        have HPB2 : Hid (PO = none) := HPB.out l HMW.out (fun h => he h.1)
        generalize spE l = z at hpr
        clear he
        go_wp2_with (go_at_call 48; go_must (refine hpr.mono ?_; rintro e w3 ⟨rfl, b3⟩))
        exact HNO.out w3 (HBW.out.trans (b3.mono HBW.out.size)) HPB2.out
theorem spParse_any (s : ByteArray) (w : World) (hs : s.size ≤ 1048576) (ht : TxE w) : Calls Tryz.prog 62 #[.string s] w (Parses s w) := by
  refine (parse_own s w hs ht).mono ?_
  rintro e w' ⟨v, er, rfl, h, hb⟩
  refine ⟨v, er, rfl, ?_, hb⟩
  rcases h with ⟨l, h1, h2, h3, h4⟩ | h
  · exact .inl ⟨l, h1, h2, h3.spns, h4⟩
  · exact .inr h
end Go.Proofs.YthnkjfgiclolaaaGreatDoor
