/- What the program's 'read' returns (package span): what strconv.Atoi makes of a word's parts. Conditions: as in SpnTxt. -/
import Derived.Test.YtlpgppjdmjcooaaGreatDoorSpnTxt
import Derived.Test.YtlpgppjdmjcooaaGreatDoorMgF
import Derived.Lib.AtoiErrMem
namespace Go.Proofs.YtlpgppjdmjcooaaGreatDoor
open Go.RowKit
set_option linter.unusedVariables false
set_option maxRecDepth 4000

def atoiO (l : List UInt8) : Option Int := match Lib.atoiAll l with | .ok v => some v | _ => none
/-- One span of a word. -/
def readL (l : List UInt8) : Option Sp :=
  match atoiO (splitC 45 l).1 with
  | none => none
  | some a => match atoiO (if (splitC 45 l).2.2 = true then (splitC 45 l).2.1 else (splitC 45 l).1) with
    | none => none
    | some b => some (a, b)
theorem atoi_any (s : ByteArray) (w : World) (hs : s.size ≤ 281474976710656) (ht : TxE w) :
    Calls Tryz.prog 72 #[.string s] w fun e w' => ∃ z ev, e = .returned (.tuple #[.int .i64 z, ev]) ∧ ((atoiO s.data.toList = some z ∧ ev = .nilIface) ∨ (atoiO s.data.toList = none ∧ ∃ T N, ev = .iface T (.pointer (some ⟨N, 0, none⟩)))) ∧ Below w.heap.size w w' := by
  unfold atoiO
  rcases h : Lib.atoiAll s.data.toList with v | _ | _
  · refine (Tryz.strconv_Atoi_ok s (by omega) v h w).mono ?_
    rintro e w' ⟨rfl, hw⟩
    refine ⟨v, .nilIface, rfl, .inl ⟨rfl, rfl⟩, ?_⟩
    rcases hw with rfl | ⟨t, rfl⟩
    · exact Below.refl _ _
    · exact Lib.bytesWorld_below w _ t
  · obtain ⟨tp, p, hv⟩ := ht.syn
    refine (Tryz.strconv_Atoi_syntax_var s hs h tp p w hv).mono ?_
    rintro e w' ⟨N, rfl, _, _, hb⟩
    exact ⟨_, _, rfl, .inr ⟨rfl, _, _, rfl⟩, hb⟩
  · obtain ⟨tp, p, hv⟩ := ht.rng
    refine (Tryz.strconv_Atoi_range_var s hs h tp p w hv).mono ?_
    rintro e w' ⟨N, rfl, _, _, hb⟩
    exact ⟨_, _, rfl, .inr ⟨rfl, _, _, rfl⟩, hb⟩
theorem readL_none1 {l : List UInt8} (h : atoiO (splitC 45 l).1 = none) : readL l = none := by unfold readL; rw [h]
theorem readL_none2 {l : List UInt8} {a : Int} (h : atoiO (splitC 45 l).1 = some a) (h2 : atoiO (if (splitC 45 l).2.2 = true then (splitC 45 l).2.1 else (splitC 45 l).1) = none) : readL l = none := by unfold readL; rw [h, h2]
theorem readL_some {l : List UInt8} {a b : Int} (h : atoiO (splitC 45 l).1 = some a) (h2 : atoiO (if (splitC 45 l).2.2 = true then (splitC 45 l).2.1 else (splitC 45 l).1) = some b) : readL l = some (a, b) := by unfold readL; rw [h, h2]
/-- What 'read' answers. -/
def Reads (l : List UInt8) (w : World) (e : Ending) (w' : World) : Prop := ∃ (x y : Int) (b : Bool), e = .returned (.tuple #[.agg #[.int .i64 x, .int .i64 y], .bool b]) ∧ ((readL l = some (x, y) ∧ b = true) ∨ (readL l = none ∧ b = false)) ∧ Below w.heap.size w w'
set_option maxHeartbeats 8000000 in
theorem read_any (s : ByteArray) (w : World) (hs : s.size ≤ 140737488355328) (ht : TxE w) :
    Calls Tryz.prog 55 #[.string s] w (Reads s.data.toList w) := by
  have hcut := strCut_any s 45 (w.alloc (.cells #[.int .i64 0, .int .i64 0] 90)) (by unfold maxLen; omega)
  have hsl := splitC_len 45 s.data.toList
  have hsz : s.data.toList.length = s.size := by simp
  rw [hsz] at hsl
  have HN1 : Hid (atoiO (splitC 45 s.data.toList).1 = none → readL s.data.toList = none) := readL_none1
  have HN2 : Hid (∀ a, atoiO (splitC 45 s.data.toList).1 = some a → atoiO (if (splitC 45 s.data.toList).2.2 = true then (splitC 45 s.data.toList).2.1 else (splitC 45 s.data.toList).1) = none → readL s.data.toList = none) := fun a => readL_none2
  have HSO : Hid (∀ a b, atoiO (splitC 45 s.data.toList).1 = some a → atoiO (if (splitC 45 s.data.toList).2.2 = true then (splitC 45 s.data.toList).2.1 else (splitC 45 s.data.toList).1) = some b → readL s.data.toList = some (a, b)) := fun a b => readL_some
  obtain ⟨RD, hRD⟩ : ∃ RD, readL s.data.toList = RD := ⟨_, rfl⟩
  rw [hRD] at HN1 HN2 HSO
  have HRE : Hid (readL s.data.toList = RD) := hRD
  clear hRD
  generalize splitC 45 s.data.toList = t at hcut hsl HN1 HN2 HSO
  obtain ⟨hd, tl, two⟩ := t
  simp only at hcut hsl HN1 HN2 HSO
  have b0 := (Below.refl w.heap.size w).alloc (Nat.le_refl _) (.cells #[.int .i64 0, .int .i64 0] 90)
  have hp0 := PairAt.new w 0 0 90
  obtain ⟨tk, htk⟩ : ∃ tk, (if two = true then tl else hd) = tk := ⟨_, rfl⟩
  rw [htk] at HN2 HSO
  have HTK : Hid ((if two = true then tl else hd) = tk) := htk
  have htl : tk.length ≤ s.size := by rw [← htk]; split <;> omega
  have HA : Hid (∀ (l : List UInt8) (W : World), l.length ≤ s.size → Below w.heap.size w W → Calls Tryz.prog 72 #[.string (mkB l)] W fun e w' => ∃ z ev, e = .returned (.tuple #[.int .i64 z, ev]) ∧ ((atoiO l = some z ∧ ev = .nilIface) ∨ (atoiO l = none ∧ ∃ T N, ev = .iface T (.pointer (some ⟨N, 0, none⟩)))) ∧ Below W.heap.size W w') := fun l W hl hW => by
    have := atoi_any (mkB l) W (by rw [mkB_size]; omega) (ht.below hW)
    rw [mkB_toList] at this; exact this
  have HB0 : Hid (Below w.heap.size w (w.alloc (.cells #[.int .i64 0, .int .i64 0] 90))) := b0
  have HP0 : Hid (PairAt (w.alloc (.cells #[.int .i64 0, .int .i64 0] 90)) w.heap.size 0 0) := hp0
  have HRD : Hid (∀ (x y : Int) (b : Bool) (w' : World), ((RD = some (x, y) ∧ b = true) ∨ (RD = none ∧ b = false)) → Below w.heap.size w w' → Reads s.data.toList w (.returned (.tuple #[.agg #[.int .i64 x, .int .i64 y], .bool b])) w') := fun x y b w' h hb => ⟨x, y, b, rfl, by rw [HRE.out]; exact h, hb⟩
  obtain ⟨B0, hB0⟩ : ∃ B0, w.heap.size = B0 := ⟨_, rfl⟩
  have HBE : Hid (w.heap.size = B0) := hB0
  clear b0 hp0 htk hsz HRE
  obtain ⟨Q, hQ⟩ : ∃ Q, Reads s.data.toList w = Q := ⟨_, rfl⟩
  rw [hQ] at HRD ⊢
  clear hQ
  go_enter Tryz.func55, Tryz.ntmps55
  go_upto_region 2 with (go_at_call 28; go_must (refine hcut.mono ?_; rintro e w1 ⟨rfl, d1⟩))
  have HB1 : Hid (Below w.heap.size w w1) := HB0.out.trans (d1.below _)
  have HP1 : Hid (PairAt w1 B0 0 0) := by rw [Hid, ← HBE.out]; exact HP0.out.below HP0.out.lt (d1.below _)
  clear hcut d1 hB0
  have ka := HA.out hd w1 hsl.1 HB1.out
  cases two with
  | true =>
    have e : tk = tl := by rw [← HTK.out]; rfl
    subst e
    go_upto_region 5 with (go_at_call 72; go_must (refine ka.mono ?_; rintro e w2 ⟨z1, ev1, rfl, hz1, b2⟩))
    have HB2 : Hid (Below w.heap.size w w2) := HB1.out.trans (b2.mono HB1.out.size)
    have HP2 : Hid (PairAt w2 B0 0 0) := HP1.out.below HP1.out.lt b2
    obtain ⟨p0, p1, f0, f1⟩ := HP2.out
    have ka2 := HA.out tk w2 htl HB2.out
    clear ka b2
    rcases hz1 with ⟨ho1, rfl⟩ | ⟨ho1, T1, N1, rfl⟩
    · have HO1 : Hid (atoiO hd = some z1) := ho1
      clear ho1 p0 p1 f0 f1
      go_upto_region 8 with (go_at_call 72; go_must (refine ka2.mono ?_; rintro e w3 ⟨z2, ev2, rfl, hz2, b3⟩))
      have HB3 : Hid (Below w.heap.size w w3) := HB2.out.trans (b3.mono HB2.out.size)
      have HP3 : Hid (PairAt w3 B0 0 0) := HP2.out.below HP2.out.lt b3
      obtain ⟨p0, p1, f0, f1⟩ := HP3.out
      have HS3 : Hid (∀ x y : Int, Below w.heap.size w ((w3.setCell ⟨B0, 0, none⟩ (.int .i64 x)).setCell ⟨B0, 1, none⟩ (.int .i64 y)) ∧ ((w3.setCell ⟨B0, 0, none⟩ (.int .i64 x)).setCell ⟨B0, 1, none⟩ (.int .i64 y)).cell? ⟨B0, 0, none⟩ = some (.int .i64 x) ∧ ((w3.setCell ⟨B0, 0, none⟩ (.int .i64 x)).setCell ⟨B0, 1, none⟩ (.int .i64 y)).cell? ⟨B0, 1, none⟩ = some (.int .i64 y)) := fun x y => by
        have q := (HP3.out.set0 x).set1 y
        exact ⟨(HB3.out.setCell (by rw [HBE.out]; exact Nat.le_refl _) _).setCell (by rw [HBE.out]; exact Nat.le_refl _) _, q.1, q.2.1⟩
      clear ka2 b3
      rcases hz2 with ⟨ho2, rfl⟩ | ⟨ho2, T2, N2, rfl⟩
      · have HRV : Hid (RD = some (z1, z2)) := HSO.out _ _ HO1.out ho2
        clear ho2
        go_region
        obtain ⟨hb4, r0, r1⟩ := HS3.out z1 z2
        generalize ((w3.setCell ⟨B0, 0, none⟩ (.int .i64 z1)).setCell ⟨B0, 1, none⟩ (.int .i64 z2)) = W4 at hb4 r0 r1 ⊢
        have hb5 : Below w.heap.size w W4.drew := hb4.trans ⟨rfl, rfl, rfl, Nat.le_refl _, fun _ _ => rfl⟩
        have s0 : W4.drew.cell? ⟨B0, 0, none⟩ = some (.int .i64 z1) := r0
        have s1 : W4.drew.cell? ⟨B0, 1, none⟩ = some (.int .i64 z2) := r1
        generalize W4.drew = W5 at hb5 s0 s1 ⊢
        clear p0 p1 f0 f1
        go_wp2_with fail
        exact bodyPost_ret (v := .tuple #[.agg #[.int .i64 z1, .int .i64 z2], .bool true]) (by simp [results, Tryz.results55, go_sem, s0, s1]) rfl (HRD.out z1 z2 true W5 (.inl ⟨HRV.out, rfl⟩) hb5)
      · have HRV : Hid (RD = none) := HN2.out _ HO1.out ho2
        clear ho2
        go_region
        obtain ⟨hb4, r0, r1⟩ := HS3.out z1 z2
        generalize ((w3.setCell ⟨B0, 0, none⟩ (.int .i64 z1)).setCell ⟨B0, 1, none⟩ (.int .i64 z2)) = W4 at hb4 r0 r1 ⊢
        have hb5 : Below w.heap.size w W4.drew := hb4.trans ⟨rfl, rfl, rfl, Nat.le_refl _, fun _ _ => rfl⟩
        have s0 : W4.drew.cell? ⟨B0, 0, none⟩ = some (.int .i64 z1) := r0
        have s1 : W4.drew.cell? ⟨B0, 1, none⟩ = some (.int .i64 z2) := r1
        generalize W4.drew = W5 at hb5 s0 s1 ⊢
        clear p0 p1 f0 f1
        go_wp2_with fail
        exact bodyPost_ret (v := .tuple #[.agg #[.int .i64 z1, .int .i64 z2], .bool false]) (by simp [results, Tryz.results55, go_sem, s0, s1]) rfl (HRD.out z1 z2 false W5 (.inr ⟨HRV.out, rfl⟩) hb5)
    · have HRV : Hid (RD = none) := HN1.out ho1
      have HS3 : Hid (Below w.heap.size w ((w2.setCell ⟨B0, 0, none⟩ (.int .i64 0)).setCell ⟨B0, 1, none⟩ (.int .i64 0)) ∧ ((w2.setCell ⟨B0, 0, none⟩ (.int .i64 0)).setCell ⟨B0, 1, none⟩ (.int .i64 0)).cell? ⟨B0, 0, none⟩ = some (.int .i64 0) ∧ ((w2.setCell ⟨B0, 0, none⟩ (.int .i64 0)).setCell ⟨B0, 1, none⟩ (.int .i64 0)).cell? ⟨B0, 1, none⟩ = some (.int .i64 0)) := by
        have q := (HP2.out.set0 0).set1 0
        exact ⟨(HB2.out.setCell (by rw [HBE.out]; exact Nat.le_refl _) _).setCell (by rw [HBE.out]; exact Nat.le_refl _) _, q.1, q.2.1⟩
      clear ho1 ka2
      go_wp2_with fail
      obtain ⟨hb4, r0, r1⟩ := HS3.out
      generalize ((w2.setCell ⟨B0, 0, none⟩ (.int .i64 0)).setCell ⟨B0, 1, none⟩ (.int .i64 0)) = W4 at hb4 r0 r1 ⊢
      exact bodyPost_ret (v := .tuple #[.agg #[.int .i64 0, .int .i64 0], .bool false]) (by simp [results, Tryz.results55, go_sem, r0, r1]) rfl (HRD.out 0 0 false W4 (.inr ⟨HRV.out, rfl⟩) hb4)
  | false =>
    have e : tk = hd := by rw [← HTK.out]; rfl
    subst e
    go_upto_region 5 with (go_at_call 72; go_must (refine ka.mono ?_; rintro e w2 ⟨z1, ev1, rfl, hz1, b2⟩))
    have HB2 : Hid (Below w.heap.size w w2) := HB1.out.trans (b2.mono HB1.out.size)
    have HP2 : Hid (PairAt w2 B0 0 0) := HP1.out.below HP1.out.lt b2
    obtain ⟨p0, p1, f0, f1⟩ := HP2.out
    have ka2 := HA.out tk w2 htl HB2.out
    clear ka b2
    rcases hz1 with ⟨ho1, rfl⟩ | ⟨ho1, T1, N1, rfl⟩
    · have HO1 : Hid (atoiO tk = some z1) := ho1
      clear ho1 p0 p1 f0 f1
      go_upto_region 8 with (go_at_call 72; go_must (refine ka2.mono ?_; rintro e w3 ⟨z2, ev2, rfl, hz2, b3⟩))
      have HB3 : Hid (Below w.heap.size w w3) := HB2.out.trans (b3.mono HB2.out.size)
      have HP3 : Hid (PairAt w3 B0 0 0) := HP2.out.below HP2.out.lt b3
      obtain ⟨p0, p1, f0, f1⟩ := HP3.out
      have HS3 : Hid (∀ x y : Int, Below w.heap.size w ((w3.setCell ⟨B0, 0, none⟩ (.int .i64 x)).setCell ⟨B0, 1, none⟩ (.int .i64 y)) ∧ ((w3.setCell ⟨B0, 0, none⟩ (.int .i64 x)).setCell ⟨B0, 1, none⟩ (.int .i64 y)).cell? ⟨B0, 0, none⟩ = some (.int .i64 x) ∧ ((w3.setCell ⟨B0, 0, none⟩ (.int .i64 x)).setCell ⟨B0, 1, none⟩ (.int .i64 y)).cell? ⟨B0, 1, none⟩ = some (.int .i64 y)) := fun x y => by
        have q := (HP3.out.set0 x).set1 y
        exact ⟨(HB3.out.setCell (by rw [HBE.out]; exact Nat.le_refl _) _).setCell (by rw [HBE.out]; exact Nat.le_refl _) _, q.1, q.2.1⟩
      clear ka2 b3
      rcases hz2 with ⟨ho2, rfl⟩ | ⟨ho2, T2, N2, rfl⟩
      · have HRV : Hid (RD = some (z1, z2)) := HSO.out _ _ HO1.out ho2
        clear ho2
        go_region
        obtain ⟨hb4, r0, r1⟩ := HS3.out z1 z2
        generalize ((w3.setCell ⟨B0, 0, none⟩ (.int .i64 z1)).setCell ⟨B0, 1, none⟩ (.int .i64 z2)) = W4 at hb4 r0 r1 ⊢
        have hb5 : Below w.heap.size w W4.drew := hb4.trans ⟨rfl, rfl, rfl, Nat.le_refl _, fun _ _ => rfl⟩
        have s0 : W4.drew.cell? ⟨B0, 0, none⟩ = some (.int .i64 z1) := r0
        have s1 : W4.drew.cell? ⟨B0, 1, none⟩ = some (.int .i64 z2) := r1
        generalize W4.drew = W5 at hb5 s0 s1 ⊢
        clear p0 p1 f0 f1
        go_wp2_with fail
        exact bodyPost_ret (v := .tuple #[.agg #[.int .i64 z1, .int .i64 z2], .bool true]) (by simp [results, Tryz.results55, go_sem, s0, s1]) rfl (HRD.out z1 z2 true W5 (.inl ⟨HRV.out, rfl⟩) hb5)
      · have HRV : Hid (RD = none) := HN2.out _ HO1.out ho2
        clear ho2
        go_region
        obtain ⟨hb4, r0, r1⟩ := HS3.out z1 z2
        generalize ((w3.setCell ⟨B0, 0, none⟩ (.int .i64 z1)).setCell ⟨B0, 1, none⟩ (.int .i64 z2)) = W4 at hb4 r0 r1 ⊢
        have hb5 : Below w.heap.size w W4.drew := hb4.trans ⟨rfl, rfl, rfl, Nat.le_refl _, fun _ _ => rfl⟩
        have s0 : W4.drew.cell? ⟨B0, 0, none⟩ = some (.int .i64 z1) := r0
        have s1 : W4.drew.cell? ⟨B0, 1, none⟩ = some (.int .i64 z2) := r1
        generalize W4.drew = W5 at hb5 s0 s1 ⊢
        clear p0 p1 f0 f1
        go_wp2_with fail
        exact bodyPost_ret (v := .tuple #[.agg #[.int .i64 z1, .int .i64 z2], .bool false]) (by simp [results, Tryz.results55, go_sem, s0, s1]) rfl (HRD.out z1 z2 false W5 (.inr ⟨HRV.out, rfl⟩) hb5)
    · have HRV : Hid (RD = none) := HN1.out ho1
      have HS3 : Hid (Below w.heap.size w ((w2.setCell ⟨B0, 0, none⟩ (.int .i64 0)).setCell ⟨B0, 1, none⟩ (.int .i64 0)) ∧ ((w2.setCell ⟨B0, 0, none⟩ (.int .i64 0)).setCell ⟨B0, 1, none⟩ (.int .i64 0)).cell? ⟨B0, 0, none⟩ = some (.int .i64 0) ∧ ((w2.setCell ⟨B0, 0, none⟩ (.int .i64 0)).setCell ⟨B0, 1, none⟩ (.int .i64 0)).cell? ⟨B0, 1, none⟩ = some (.int .i64 0)) := by
        have q := (HP2.out.set0 0).set1 0
        exact ⟨(HB2.out.setCell (by rw [HBE.out]; exact Nat.le_refl _) _).setCell (by rw [HBE.out]; exact Nat.le_refl _) _, q.1, q.2.1⟩
      clear ho1 ka2
      go_wp2_with fail
      obtain ⟨hb4, r0, r1⟩ := HS3.out
      generalize ((w2.setCell ⟨B0, 0, none⟩ (.int .i64 0)).setCell ⟨B0, 1, none⟩ (.int .i64 0)) = W4 at hb4 r0 r1 ⊢
      exact bodyPost_ret (v := .tuple #[.agg #[.int .i64 0, .int .i64 0], .bool false]) (by simp [results, Tryz.results55, go_sem, r0, r1]) rfl (HRD.out 0 0 false W4 (.inr ⟨HRV.out, rfl⟩) hb4)
end Go.Proofs.YtlpgppjdmjcooaaGreatDoor
