/- What a rule is written as (package rule): write. -/
import Derived.Test.YthnkjfgiclolaaaGreatDoorMgJ
import Derived.Deep.RegionHeld3
import Derived.Deep.DeepCutAuto
import Derived.Deep.DeepMust
namespace Go.Proofs.YthnkjfgiclolaaaGreatDoor
open Go.RowKit
set_option linter.unusedVariables false
set_option maxRecDepth 10000

/-- Builder.String. -/
theorem bldS (B bb : Nat) (bs : List UInt8) (w : World) (h : BldAt w B bb bs) (hBw : B ≤ w.heap.size) :
    Calls Tryz.prog 21 #[.pointer (some ⟨bb, 0, none⟩)] w fun e w' => e = .returned (.string (mkB bs)) ∧ Below B w w' :=
  (Any.Builder_String_any_k (ρ := Tryz.lays156_ren) { Tryz.lays156 with } Tryz.Builder_Extra_156 B bb bs w h hBw).mono (by rintro e w' ⟨rfl, _, h, _⟩; exact ⟨rfl, h⟩)
theorem BldAt.new (w : World) : BldAt (w.alloc (.cells #[.pointer none, .slice none 0 0] 53)) w.heap.size w.heap.size [] :=
  .inl ⟨Nat.le_refl _, .slice none 0 0, heap_alloc_new w _, ⟨rfl, .inl ⟨rfl, rfl⟩⟩, by simp [Value.ownBlock]⟩
set_option maxHeartbeats 16000000 in
theorem write_any (r : Rl) (af at' : Option Addr) (nf cf nt ct : Nat) (w : World) (hf : Spns w (.slice af nf cf) r.fr) (ht : Spns w (.slice at' nt ct) r.tl) (hx : TxE w) (hwd : Wrds w) (h1 : 0 ≤ r.way) (h2 : r.way ≤ 2) (h3 : 0 ≤ r.kind) (h4 : r.kind ≤ 3)
    (hp1 : prefE r.sa r.sl = 0) (hp2 : prefE r.da r.dl = 0) (hs1 : spE r.fr = 0) (hs2 : spE r.tl = 0) (hl1 : r.fr.length ≤ 140737488355328) (hl2 : r.tl.length ≤ 140737488355328) (hlen : (lineL r).length ≤ 140737488355327) :
    Calls Tryz.prog 19 #[rlV r (.slice af nf cf) (.slice at' nt ct)] w fun e w' => e = .returned (.tuple #[.string (mkB (lineL r ++ [10])), .nilIface]) ∧ Below w.heap.size w w' := by
  obtain ⟨Q, hQ⟩ : ∃ Q : Ending → World → Prop, Q = fun e w' => e = .returned (.tuple #[.string (mkB (lineL r ++ [10])), .nilIface]) ∧ Below w.heap.size w w' := ⟨_, rfl⟩
  have HQ : Hid (∀ w', Below w.heap.size w w' → Q (.returned (.tuple #[.string (mkB (lineL r ++ [10])), .nilIface])) w') := by rw [hQ]; exact fun _ h => ⟨rfl, h⟩
  rw [← hQ]
  clear hQ
  have HH := hidE (And.intro hf (And.intro ht (And.intro hx (And.intro hwd hlen))))
  have HP := hidE (And.intro hp1 (And.intro hp2 (And.intro hs1 (And.intro hs2 (And.intro hl1 hl2)))))
  have HK := hidE (And.intro h1 (And.intro h2 (And.intro h3 h4)))
  have hlens := hidE (show (headL r).length + (quickL r).length + (wayL r.way ++ kindL r.kind).length + (bothL r).length + (keepL r).length ≤ 140737488355327 by
    unfold lineL at hlen; simp only [List.length_append] at hlen ⊢; omega)
  have b1 : Below w.heap.size w (w.alloc (.cells #[.bool r.pass, .bool r.quick, .bool r.keep, .int .i64 r.way, .int .i64 r.kind, .int .i64 r.sa, .int .i64 r.sl, .int .i64 r.da, .int .i64 r.dl, .slice af nf cf, .slice at' nt ct] 33)) := (Below.refl _ _).alloc (Nat.le_refl _) _
  have hR1 := RlAt.new w r (.slice af nf cf) (.slice at' nt ct)
  have z1 : (w.alloc (.cells #[.bool r.pass, .bool r.quick, .bool r.keep, .int .i64 r.way, .int .i64 r.kind, .int .i64 r.sa, .int .i64 r.sl, .int .i64 r.da, .int .i64 r.dl, .slice af nf cf, .slice at' nt ct] 33)).heap.size = w.heap.size + 1 := by first | simp | exact Array.size_push ..
  unfold rlV
  clear hf ht hx hwd hlen h1 h2 h3 h4 hp1 hp2 hs1 hs2 hl1 hl2
  go_enter Tryz.func19, Tryz.ntmps19
  go_upto_region 2 with fail
  obtain ⟨W1, hW1⟩ : ∃ W1, w.alloc (.cells #[.bool r.pass, .bool r.quick, .bool r.keep, .int .i64 r.way, .int .i64 r.kind, .int .i64 r.sa, .int .i64 r.sl, .int .i64 r.da, .int .i64 r.dl, .slice af nf cf, .slice at' nt ct] 33) = W1 := ⟨_, rfl⟩
  rw [hW1] at hR1 b1 z1 ⊢
  have b2 : Below W1.heap.size W1 (W1.alloc (.cells #[.pointer none, .slice none 0 0] 53)) := (Below.refl _ _).alloc (Nat.le_refl _) _
  have hB2 := BldAt.new W1
  have z2 : (W1.alloc (.cells #[.pointer none, .slice none 0 0] 53)).heap.size = W1.heap.size + 1 := by first | simp | exact Array.size_push ..
  obtain ⟨W2, hW2⟩ : ∃ W2, W1.alloc (.cells #[.pointer none, .slice none 0 0] 53) = W2 := ⟨_, rfl⟩
  rw [hW2] at b2 hB2 z2 ⊢
  obtain ⟨S, hS⟩ : ∃ S, w.heap.size = S := ⟨_, rfl⟩
  rw [hS] at hR1 b1 z1 ⊢
  rw [z1] at hB2 z2 b2
  have hR2 := hR1.below (Nat.lt_succ_self S) b2
  have HR2 := hidE hR2
  have hw2 := hidE (b1.trans (b2.mono (Nat.le_succ S)))
  have HS := hidE hS
  have HB2 := hidE hB2
  have HZ2 := hidE z2
  clear hW1 hW2 hR1 b1 b2 hS z1 hB2 z2
  have HC := hidE (fun (W : World) (h : Below (S + 1) W2 W) => (hR2.below (Nat.lt_succ_self S) h).cells)
  obtain ⟨c0, c1, cr⟩ := hR2.cells
  clear hR2 cr
  obtain ⟨pv, hpv⟩ : ∃ pv, r.pass = pv := ⟨_, rfl⟩
  rw [hpv] at c0
  have HPV := hidE hpv
  clear hpv
  go_upto_if 7 with fail
  go_cut [] (fun wr => Hid (BldAt wr (S + 1) (S + 1) (headL r)) ∧ Hid (Below (S + 1) W2 wr))
  case first =>
    have g1 := bldW (S + 1) (S + 1) [] (headL r) W2 HB2.out (by have := hlens.out; simp; omega) (by have := HZ2.out; omega)
    rw [List.nil_append] at g1
    cases pv with
    | true =>
      rw [show mkB (headL r) = ⟨#[112, 97, 115, 115]⟩ by unfold headL; rw [HPV.out]; rfl] at g1
      go_wp2_with (go_at_call 20; go_must (refine g1.mono ?_; rintro e W3 ⟨rfl, k3, b3, o3⟩))
      go_meet
      case rel => exact ⟨k3, b3⟩
    | false =>
      rw [show mkB (headL r) = ⟨#[98, 108, 111, 99, 107]⟩ by unfold headL; rw [HPV.out]; rfl] at g1
      go_wp2_with (go_at_call 20; go_must (refine g1.mono ?_; rintro e W3 ⟨rfl, k3, b3, o3⟩))
      go_meet
      case rel => exact ⟨k3, b3⟩
  case rest =>
  obtain ⟨K3, B3⟩ := hcut
  obtain ⟨W3, hW3⟩ : ∃ W3, wc = W3 := ⟨_, rfl⟩
  rw [hW3] at K3 B3 ⊢
  clear hW3 c0 c1 HB2
  obtain ⟨d0, c1, cr⟩ := HC.out W3 B3.out
  clear d0 cr
  obtain ⟨qv, hqv⟩ : ∃ qv, r.quick = qv := ⟨_, rfl⟩
  rw [hqv] at c1
  have HQV := hidE hqv
  clear hqv
  go_upto_if 11 with fail
  go_cut [] (fun wr => Hid (BldAt wr (S + 1) (S + 1) (headL r ++ quickL r)) ∧ Hid (Below (S + 1) W2 wr))
  case first =>
    have g1 := bldW (S + 1) (S + 1) (headL r) (quickL r) W3 K3.out (by have := hlens.out; omega) (by have := HZ2.out; have := B3.out.size; omega)
    cases qv with
    | true =>
      rw [show mkB (quickL r) = ⟨#[32, 113, 117, 105, 99, 107]⟩ by unfold quickL; rw [HQV.out]; rfl] at g1
      go_wp2_with (go_at_call 20; go_must (refine g1.mono ?_; rintro e W4 ⟨rfl, k4, b4, o4⟩))
      go_meet
      case rel => exact ⟨k4, B3.out.trans b4⟩
    | false =>
      have e3 : quickL r = [] := by unfold quickL; rw [HQV.out]; rfl
      have K3' : Hid (BldAt W3 (S + 1) (S + 1) (headL r ++ quickL r)) := by rw [e3, List.append_nil]; exact K3
      clear g1
      go_wp2_with fail
      go_meet
      case rel => exact ⟨K3'.out, B3.out⟩
  case rest =>
  obtain ⟨K4, B4⟩ := hcut
  obtain ⟨W4, hW4⟩ : ∃ W4, wc = W4 := ⟨_, rfl⟩
  rw [hW4] at K4 B4 ⊢
  clear hW4 c1 K3 B3
  have hw4 : Below w.heap.size w W4 := by rw [HS.out]; exact hw2.out.trans (B4.out.mono (Nat.le_succ S))
  have HW4 := hidE hw4
  obtain ⟨d0, d1, d2, c3, c4, cr⟩ := HC.out W4 B4.out
  clear d0 d1 d2 cr
  have wd4 := HH.out.2.2.2.1.below hw4
  obtain ⟨y1, y2, y3, y4⟩ := HK.out
  have cw := wd4.wayAt y1 y2
  have ck := wd4.kindAt y3 y4
  have HZ4 := hidE (show S + 1 ≤ W4.heap.size by have := HZ2.out; have := B4.out.size; omega)
  have g3 := bldW (S + 1) (S + 1) _ (wayL r.way ++ kindL r.kind) W4.drew K4.out.drew (by have := hlens.out; rw [List.length_append]; omega) HZ4.out
  rw [← mkB_append] at g3
  have hz : ¬ 9223372036854775807 < (mkB (wayL r.way)).size + (mkB (kindL r.kind)).size := by have := hlens.out; rw [mkB_size, mkB_size]; rw [List.length_append] at this; omega
  have y2' : r.way < 3 := by omega
  have y4' : r.kind < 4 := by omega
  have HT4 := hidE (fun (W5 : World) (b5 : Below (S + 1) W4.drew W5) => (show W5.cell? ⟨S, 3, none⟩ = some (.int .i64 r.way) ∧ W5.cell? ⟨0, r.way.toNat, none⟩ = some (.string (mkB (wayL r.way))) ∧ W5.cell? ⟨S, 4, none⟩ = some (.int .i64 r.kind) ∧ W5.cell? ⟨1, r.kind.toNat, none⟩ = some (.string (mkB (kindL r.kind))) from by
    have b5' : Below (S + 1) W4 W5 := ⟨b5.os, b5.tape, b5.output, b5.size, b5.block⟩
    have h5 := HC.out W5 (B4.out.trans b5')
    have wd5 := HH.out.2.2.2.1.below (HW4.out.trans (b5'.mono (by rw [HS.out]; omega)))
    exact ⟨h5.2.2.2.1, wd5.wayAt y1 y2, h5.2.2.2.2.1, wd5.kindAt y3 y4⟩))
  clear wd4 hw4
  have hS : W4.cell? ⟨S, 3, none⟩ = some (.int .i64 r.way) ∧ W4.cell? ⟨0, r.way.toNat, none⟩ = some (.string (mkB (wayL r.way))) ∧ W4.cell? ⟨S, 4, none⟩ = some (.int .i64 r.kind) ∧ W4.cell? ⟨1, r.kind.toNat, none⟩ = some (.string (mkB (kindL r.kind))) := ⟨c3, cw, c4, ck⟩
  go_upto_region 7 with fail
  go_region_held3 (fun W => W.cell? ⟨S, 3, none⟩ = some (.int .i64 r.way) ∧ W.cell? ⟨0, r.way.toNat, none⟩ = some (.string (mkB (wayL r.way))) ∧ W.cell? ⟨S, 4, none⟩ = some (.int .i64 r.kind) ∧ W.cell? ⟨1, r.kind.toNat, none⟩ = some (.string (mkB (kindL r.kind)))) (with_reducible first | assumption | go_keep) (first
    | (go_at_call 20; refine g3.mono ?_; rintro e W5 ⟨rfl, k5, b5, o5⟩; have hS5 := HT4.out W5 b5))
  have b5' : Below (S + 1) W4 W5 := ⟨b5.os, b5.tape, b5.output, b5.size, b5.block⟩
  have B5 := hidE (B4.out.trans b5')
  have K5 := hidE k5
  clear hS hS5 HT4 g3 o5 k5 b5 b5' c3 c4 cw ck hz y2' y4' y1 y2 y3 y4 K4 B4 HW4 HZ4
  have hb5 : Below w.heap.size w W5 := by rw [HS.out]; exact hw2.out.trans (B5.out.mono (Nat.le_succ S))
  have HZ5 := hidE (show S + 1 ≤ W5.heap.size by have := HZ2.out; have := B5.out.size; omega)
  have hr5 := HR2.out.below (Nat.lt_succ_self S) B5.out
  have gs := sidesW w r S (S + 1) (S + 1) (.slice af nf cf) (.slice at' nt ct) (headL r ++ quickL r ++ (wayL r.way ++ kindL r.kind)) W5 hb5 (by rw [HS.out]; omega) (Nat.lt_succ_self S) hr5 HH.out.1 HH.out.2.1 HH.out.2.2.1 HP.out.1 HP.out.2.1 HP.out.2.2.1 HP.out.2.2.2.1 HP.out.2.2.2.2.1 HP.out.2.2.2.2.2 K5.out HZ5.out (by have := hlens.out; simp only [List.length_append] at this ⊢; omega)
  clear hb5 hr5
  go_upto_region 11 with (go_at_call 43; go_must (refine gs.mono ?_; rintro e W6 ⟨rfl, k6, b6, o6⟩))
  have K6 := hidE k6
  have B6 := hidE (B5.out.trans b6)
  have HZ6 := hidE (Nat.le_trans HZ5.out b6.size)
  clear gs o6 k6 b6 K5 B5 HZ5
  obtain ⟨d0, d1, c2, cr⟩ := HC.out W6 B6.out
  clear d0 d1 cr
  obtain ⟨kv, hkv⟩ : ∃ kv, r.keep = kv := ⟨_, rfl⟩
  rw [hkv] at c2
  have HKV := hidE hkv
  clear hkv
  go_upto_if 29 with fail
  go_cut [] (fun wr => Hid (BldAt wr (S + 1) (S + 1) (lineL r)) ∧ Hid (Below (S + 1) W2 wr))
  case first =>
    have g1 := bldW (S + 1) (S + 1) _ (keepL r) W6 K6.out (by have := hlens.out; simp only [List.length_append] at this ⊢; omega) HZ6.out
    rw [show headL r ++ quickL r ++ (wayL r.way ++ kindL r.kind) ++ bothL r ++ keepL r = lineL r from rfl] at g1
    cases kv with
    | true =>
      rw [show mkB (keepL r) = ⟨#[32, 107, 101, 101, 112]⟩ by unfold keepL; rw [HKV.out]; rfl] at g1
      go_wp2_with (go_at_call 20; go_must (refine g1.mono ?_; rintro e W7 ⟨rfl, k7, b7, o7⟩))
      go_meet
      case rel => exact ⟨k7, B6.out.trans b7⟩
    | false =>
      have e3 : keepL r = [] := by unfold keepL; rw [HKV.out]; rfl
      have K6' : Hid (BldAt W6 (S + 1) (S + 1) (lineL r)) := by unfold lineL; rw [e3, List.append_nil]; exact K6
      clear g1
      go_wp2_with fail
      go_meet
      case rel => exact ⟨K6'.out, B6.out⟩
  case rest =>
  obtain ⟨K7, B7⟩ := hcut
  obtain ⟨W7, hW7⟩ : ∃ W7, wc = W7 := ⟨_, rfl⟩
  rw [hW7] at K7 B7 ⊢
  clear hW7 c2 K6 B6
  have gS := bldS (S + 1) (S + 1) (lineL r) W7 K7.out (by have := HZ2.out; have := B7.out.size; omega)
  have hz : ¬ 9223372036854775807 < (mkB (lineL r)).size + 1 := by have := HH.out.2.2.2.2; rw [mkB_size]; omega
  have HE := hidE (show mkB (lineL r) ++ ⟨#[10]⟩ = mkB (lineL r ++ [10]) by rw [← mkB_append]; rfl)
  go_wp2_with (go_at_call 21; go_must (refine gS.mono ?_; rintro e W8 ⟨rfl, b8⟩))
  have hq := HQ.out W8 (by rw [HS.out]; exact hw2.out.trans ((B7.out.trans b8).mono (Nat.le_succ S)))
  rw [← HE.out] at hq
  exact hq
end Go.Proofs.YthnkjfgiclolaaaGreatDoor
