/- What the reference's Masters (portref3) returns: a row of the call's own, of who was Master from when to when. -/
import Derived.Test.YtfgaalhaeadhmaaDoorRefAu0
import Derived.Test.YtfgaalhaeadhmaaDoorAuRow
namespace Go.Proofs.YtfgaalhaeadhmaaDoor
open Go.RowKit
set_option linter.unusedVariables false

theorem rf_drop {es : List Ev} {k : Nat} (h : k < es.length) (t : Int) : rfM (es.drop k) t = if es[k].what = 3 then { b := es[k].time, e := fstF (es.drop (k + 1)) t, n := es[k].node } :: rfM (es.drop (k + 1)) t else rfM (es.drop (k + 1)) t := by
  rw [List.drop_eq_getElem_cons h, rfM]
theorem fst_drop {es : List Ev} {k : Nat} (h : k < es.length) (t : Int) : fstF (es.drop k) t = if es[k].what = 4 then es[k].time else fstF (es.drop (k + 1)) t := by
  rw [List.drop_eq_getElem_cons h, fstF]
set_option maxRecDepth 100000 in
set_option maxHeartbeats 64000000 in
theorem refMasters_any (es : List Ev) (v : Value) (t : Int) (w : World) (hl : es.length ≤ 1000) (hv : Evs w v es) : Calls Tryd.prog 18 #[v, .int .i64 t] w fun e w' => ∃ r, e = .returned r ∧ OwnMs w' w.heap.size r (rfM es t) ∧ Below w.heap.size w w' := by
  obtain ⟨Q, hQ⟩ : ∃ Q : Ending → World → Prop, Q = fun e w' => ∃ r, e = .returned r ∧ OwnMs w' w.heap.size r (rfM es t) ∧ Below w.heap.size w w' := ⟨_, rfl⟩
  have HQ : Hid (∀ r w', OwnMs w' w.heap.size r (rfM es t) → Below w.heap.size w w' → Q (.returned r) w') := by
    rw [hQ]; intro r w' h1 h2; exact ⟨r, rfl, h1, h2⟩
  rw [← hQ]
  clear hQ
  obtain ⟨ao, co, rfl⟩ := hv.len
  have HV := hidA hv
  obtain ⟨N, hN⟩ : ∃ N, es.length = N := ⟨_, rfl⟩
  have HN := hidA hN
  rw [hN] at HV hl ⊢
  have HL := hidA (show (N : Int) ≤ 1000 by omega)
  clear hv hN hl
  go_enter Tryd.func18, Tryd.ntmps18
  go_wp2_with fail
  go_loopw [5, 6] (fun r i wr => ∃ (k : Nat) (L : List Ms), k ≤ N ∧ i = .int .i64 k ∧ OwnMs wr w.heap.size r L ∧ L ++ rfM (es.drop k) t = rfM es t ∧ L.length ≤ k ∧ Below w.heap.size w wr) (fun _ i _ => N - (intOf i).toNat)
  case atStart => exact ⟨0, [], by omega, by go_num, OwnN.nil _ _, rfl, Nat.le_refl _, Below.refl _ _⟩
  case round =>
    obtain ⟨k, L, hk, rfl, hown, hL, hLk, hb⟩ := hrel
    have HO := hidA hown
    have HLL := hidA hL
    have HB := hidA hb
    have HLK := hidA hLk
    clear hown hL hb hLk
    by_cases hlt : k < N
    · obtain ⟨c1, c2, b, off, rfl⟩ := HV.out.capOk (by omega)
      have hlt' : (k : Int) < (N : Int) := by omega
      have hke : k < es.length := by rw [HN.out]; exact hlt
      have HCS := hidA (fun i hi => (HV.out.below HB.out).cells i hi)
      obtain ⟨q0, q1, q2, qr⟩ := HCS.out k hke
      clear qr
      have HRF := hidA (rf_drop hke t)
      obtain ⟨p, hp⟩ : ∃ p, es[k] = p := ⟨_, rfl⟩
      rw [hp] at q0 q1 q2 HRF
      clear hp
      by_cases h3 : p.what = 3
      · rw [if_pos h3] at HRF
        rw [h3] at q2
        have HK0 := hidA hke
        clear h3 hke
        have hN1 := HL.out
        go_upto_region 7 with fail
        go_wp2_with fail
        go_loopw [7, 8] (fun tt i wi => ∃ (j : Nat) (z : Int), k < j ∧ j ≤ N ∧ i = .int .i64 z ∧ z = (j : Int) - 1 ∧ tt = .int .i64 (fstF (es.drop j) t) ∧ wi = wr) (fun _ i _ => (intOf i + 1).toNat)
        case atStart =>
          refine ⟨N, _, hlt, Nat.le_refl _, rfl, ?_, ?_, rfl⟩
          · first | rfl | (try unfold wrap64; omega) | simp
          · rw [List.drop_of_length_le (by rw [HN.out]; exact Nat.le_refl _)]; rfl
        case round =>
          obtain ⟨j, z, hkj, hj, rfl, hz, rfl, rfl⟩ := hrel
          by_cases hjk : j = k + 1
          · subst hjk
            obtain rfl : z = (k : Int) := by omega
            clear hz
            obtain ⟨f, hf⟩ : ∃ f, fstF (es.drop (k + 1)) t = f := ⟨_, rfl⟩
            have HF := hidA hf
            rw [hf]
            clear hf
            obtain ⟨ra, rc, rfl⟩ := HO.out.len
            have hownX : OwnMs wr.drew w.heap.size (.slice ra L.length rc) L := HO.out
            have hbs : w.heap.size ≤ wr.drew.heap.size := HB.out.size
            have hlen1 : L.length ≤ 1000000 := by have := HLK.out; omega
            have HN2 := hidA (show ∀ W6 g6 c6, OwnMs W6 w.heap.size (.slice (some ⟨g6, 0, none⟩) (L.length + 1) c6) (L ++ [{ b := p.time, e := f, n := p.node }]) → (wr.drew.alloc (.cells #[.int .i64 p.time, .int .i64 f, .int .i64 p.node] 59)).grownBy W6 (Value.slice ra L.length rc).ownBlock → Below w.heap.size w W6 by
              intro W6 g6 c6 own6 gr6
              have h1 : Below w.heap.size w (wr.drew.alloc (.cells #[.int .i64 p.time, .int .i64 f, .int .i64 p.node] 59)) := HB.out.drew.alloc hbs _
              exact h1.grown gr6 h1.size (fun i hi => (OwnN.block HO.out i hi).1))
            go_upto_region 12 with fail
            go_region_law (refine step_append_ms rfl (.tmp 41) (.tmp 54) rfl w.heap.size (.slice ra L.length rc) L rfl hownX { b := p.time, e := f, n := p.node } rfl hlen1 hbs ?_; intro g6 c6 W6 own6 gr6 at6; have HB6 := hidA (HN2.out W6 g6 c6 own6 gr6); have HO6 := hidA own6; clear own6 gr6 at6)
            all_goals
              go_wp2_with fail
              go_roundw
              case rel => exact ⟨k + 1, L ++ [{ b := p.time, e := f, n := p.node }], by omega, by go_num, HO6.out, by rw [← HLL.out, HRF.out, HF.out, List.append_assoc]; rfl, by have := HLK.out; simp; omega, HB6.out⟩
              case measure => simp [intOf]; omega
          · obtain ⟨i, rfl⟩ : ∃ i, j = i + 1 := ⟨j - 1, by omega⟩
            obtain rfl : z = (i : Int) := by omega
            clear hz
            have hie : i < es.length := by rw [HN.out]; omega
            obtain ⟨r0, r1, r2, rr⟩ := HCS.out i hie
            clear r1 rr
            have HFS := hidA (fst_drop hie t)
            obtain ⟨y, hy⟩ : ∃ y, es[i] = y := ⟨_, rfl⟩
            rw [hy] at r0 r2 HFS
            obtain ⟨f, hf⟩ : ∃ f, fstF (es.drop (i + 1)) t = f := ⟨_, rfl⟩
            rw [hf] at HFS
            rw [hf]
            clear hy hf
            have hki : (k : Int) < (i : Int) := by omega
            have hki' : k < i := by omega
            have hiN : (i : Int) < (N : Int) := by omega
            have hiN' : i < N := by omega
            clear hjk hkj
            obtain ⟨x, hx⟩ : ∃ x, y.what = x := ⟨_, rfl⟩
            rw [hx] at r2 HFS
            clear hx
            by_cases h4 : x = 4
            · subst h4
              rw [if_pos rfl] at HFS
              go_wp2_with fail
              go_roundw
              case rel => exact ⟨i, _, hki', by omega, rfl, by first | rfl | omega, by rw [HFS.out], by first | trivial | rfl⟩
              case measure => first | (simp [intOf]; done) | (simp [intOf]; omega)
            · rw [if_neg h4] at HFS
              have h4b : (x == 4) = false := by simpa using h4
              clear h4
              go_wp2_with fail
              go_roundw
              case rel => exact ⟨i, _, hki', by omega, rfl, by first | rfl | omega, by rw [HFS.out], by first | trivial | rfl⟩
              case measure => first | (simp [intOf]; done) | (simp [intOf]; omega)
      · rw [if_neg h3] at HRF
        obtain ⟨x, hx⟩ : ∃ x, p.what = x := ⟨_, rfl⟩
        rw [hx] at q2 h3
        have h3b : (x != 3) = true := by simpa using h3
        have hN1 := HL.out
        clear h3 hx
        go_wp2_with fail
        go_roundw
        case rel => exact ⟨k + 1, L, by omega, by go_num, HO.out, by rw [← HRF.out]; exact HLL.out, by have := HLK.out; omega, HB.out⟩
        case measure => simp [intOf]; omega
    · have hlt' : ¬ (k : Int) < (N : Int) := by omega
      obtain rfl : k = N := by omega
      have hfin : L = rfM es t := by
        have h := HLL.out
        rw [List.drop_of_length_le (by rw [HN.out]; exact Nat.le_refl _)] at h
        simpa [rfM] using h
      have HF := hidA (fun r h => HQ.out r wr h HB.out)
      rw [hfin] at HO
      clear hfin hlt
      go_wp2_with fail
      exact HF.out _ HO.out
end Go.Proofs.YtfgaalhaeadhmaaDoor
