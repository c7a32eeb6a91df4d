/- Rules that lie one behind the other ('Rls'): what Check of package rule, and Rules of the reference, return: 'rusE'. -/
import Derived.Test.YtdellfmkmbabhaaRuleChk2
namespace Go.Proofs.Ytdellfmkmbabhaa
open Go.RowKit
set_option linter.unusedVariables false

/-- A rule's cells, and its ports. -/
def RlC (w : World) (b o : Nat) (r : Rl) (fv tv : Value) : Prop :=
  (w.cell? ⟨b, o, none⟩ = some (.bool r.pass) ∧ w.cell? ⟨b, o + 1, none⟩ = some (.bool r.quick) ∧ w.cell? ⟨b, o + 2, none⟩ = some (.bool r.keep) ∧ w.cell? ⟨b, o + 3, none⟩ = some (.int .i64 r.way) ∧ w.cell? ⟨b, o + 4, none⟩ = some (.int .i64 r.kind) ∧ w.cell? ⟨b, o + 5, none⟩ = some (.int .i64 r.sa) ∧ w.cell? ⟨b, o + 6, none⟩ = some (.int .i64 r.sl) ∧ w.cell? ⟨b, o + 7, none⟩ = some (.int .i64 r.da) ∧ w.cell? ⟨b, o + 8, none⟩ = some (.int .i64 r.dl) ∧ w.cell? ⟨b, o + 9, none⟩ = some fv ∧ w.cell? ⟨b, o + 10, none⟩ = some tv) ∧ Spns w fv r.fr ∧ Spns w tv r.tl ∧ r.fr.length ≤ 140737488355328 ∧ r.tl.length ≤ 140737488355328
theorem RlC.below {w w' : World} {b o : Nat} {r : Rl} {fv tv : Value} (h : RlC w b o r fv tv) (hb1 : b < w.heap.size) (hb : Below w.heap.size w w') : RlC w' b o r fv tv := by
  obtain ⟨⟨c0, c1, c2, c3, c4, c5, c6, c7, c8, c9, c10⟩, h1, h2, h3, h4⟩ := h
  have k : ∀ j, w'.cell? ⟨b, j, none⟩ = w.cell? ⟨b, j, none⟩ := fun j => hb.cell (p := ⟨b, j, none⟩) hb1
  exact ⟨⟨(k _).trans c0, (k _).trans c1, (k _).trans c2, (k _).trans c3, (k _).trans c4, (k _).trans c5, (k _).trans c6, (k _).trans c7, (k _).trans c8, (k _).trans c9, (k _).trans c10⟩, h1.below hb, h2.below hb, h3, h4⟩
def Rls (w : World) (v : Value) (rs : List (Rl × Value × Value)) : Prop :=
  (rs = [] ∧ ∃ a c, v = .slice a 0 c) ∨ ∃ b off len cap, v = .slice (some ⟨b, off, none⟩) len cap ∧ len ≤ cap ∧ cap ≤ maxLen ∧ rs.length = len ∧ b < w.heap.size ∧ ∀ i (h : i < rs.length), RlC w b (off + i * 11) rs[i].1 rs[i].2.1 rs[i].2.2
theorem Rls.len {w : World} {v : Value} {rs : List (Rl × Value × Value)} (h : Rls w v rs) : ∃ a c, v = .slice a rs.length c := by
  rcases h with ⟨rfl, a, c, rfl⟩ | ⟨b, off, len, cap, rfl, _, _, rfl, _⟩
  · exact ⟨a, c, rfl⟩
  · exact ⟨_, _, rfl⟩
theorem Rls.below {w w' : World} {v : Value} {rs : List (Rl × Value × Value)} (h : Rls w v rs) (hb : Below w.heap.size w w') : Rls w' v rs := by
  rcases h with h | ⟨b, off, len, cap, h1, h2, h3, h4, h5, h6⟩
  · exact .inl h
  · exact .inr ⟨b, off, len, cap, h1, h2, h3, h4, Nat.lt_of_lt_of_le h5 hb.size, fun i hi => (h6 i hi).below h5 hb⟩
theorem Rls.shape {w : World} {a : Option Addr} {n c : Nat} {rs : List (Rl × Value × Value)} (h : Rls w (.slice a n c) rs) (hz : 0 < rs.length) : ∃ b off, a = some ⟨b, off, none⟩ ∧ b < w.heap.size ∧ n ≤ c ∧ c ≤ maxLen ∧ ∀ i (h : i < rs.length), RlC w b (off + i * 11) rs[i].1 rs[i].2.1 rs[i].2.2 := by
  rcases h with ⟨h0, _⟩ | ⟨b, off, len, cap, h1, h2, h3, h4, h5, h6⟩
  · rw [h0] at hz; simp at hz
  · simp only [Value.slice.injEq] at h1
    obtain ⟨rfl, rfl, rfl⟩ := h1
    exact ⟨b, off, rfl, h5, h2, h3, h6⟩
set_option maxRecDepth 10000 in
set_option maxHeartbeats 8000000 in
theorem rusCheck_any (v : Value) (rs : List (Rl × Value × Value)) (w : World) (hv : Rls w v rs) :
    Calls Try.prog 7 #[v] w fun e w' => e = .returned (erV (rusE (rs.map Prod.fst))) ∧ Below w.heap.size w w' := by
  obtain ⟨ao, co, hve⟩ := hv.len
  obtain ⟨n, hn⟩ : ∃ n, rusE (rs.map Prod.fst) = n := ⟨_, rfl⟩
  have HK4' : 20 < rs.length → n = 4 := fun h => by rw [← hn]; unfold rusE; rw [if_pos (by rw [List.length_map]; exact h)]
  have HK0' : ¬ 20 < rs.length → (∀ j (h : j < rs.length), ruE rs[j].1 = 0) → n = 0 := fun h hz => by
    rw [← hn]; unfold rusE
    rw [if_neg (by rw [List.length_map]; exact h)]
    exact firstE_none (fun i hi => by rw [List.getElem_map]; exact hz i (by simpa using hi))
  have HKE' : ¬ 20 < rs.length → ∀ k (hk : k < rs.length), (∀ j (h : j < rs.length), j < k → ruE rs[j].1 = 0) → ¬ ruE rs[k].1 = 0 → n = ruE rs[k].1 := fun h k hk hz hne => by
    rw [← hn]; unfold rusE
    rw [if_neg (by rw [List.length_map]; exact h)]
    have := firstE_take (l := rs.map Prod.fst) k (fun i hi hik => by rw [List.getElem_map]; exact hz i (by simpa using hi) hik) (by simpa using hk) (by rw [List.getElem_map]; exact hne)
    rw [List.getElem_map] at this
    exact this
  obtain ⟨N, hN⟩ : ∃ N, rs.length = N := ⟨_, rfl⟩
  have HNN := hidE hN
  have HK4 := hidE (show 20 < N → n = 4 by rw [← hN]; exact HK4')
  have HK0 := hidE (show ¬ 20 < N → (∀ j (h : j < rs.length), ruE rs[j].1 = 0) → n = 0 from fun h => HK0' (by rw [hN]; exact h))
  have HKE := hidE (show ¬ 20 < N → ∀ k (hk : k < rs.length), (∀ j (h : j < rs.length), j < k → ruE rs[j].1 = 0) → ¬ ruE rs[k].1 = 0 → n = ruE rs[k].1 from fun h => HKE' (by rw [hN]; exact h))
  rw [hN] at hve
  subst hve
  have HV := hidE hv
  rw [hn]
  clear HK4' HK0' HKE'
  obtain ⟨Q, hQ⟩ : ∃ Q : Ending → World → Prop, Q = fun e w' => e = .returned (erV n) ∧ Below w.heap.size w w' := ⟨_, rfl⟩
  have HQ : Hid (∀ e w', (e = .returned (erV n) ∧ Below w.heap.size w w') → Q e w') := by rw [hQ]; exact fun _ _ h => h
  rw [← hQ]
  clear hv hN hn hQ
  by_cases hN20 : 20 < N
  · have i1 : (N : Int) > 20 := by omega
    have HN2 := hidE (show erV n = .iface 62 (.int .i64 4) by rw [HK4.out hN20]; rfl)
    clear HK4 HK0 HKE HV
    go_enter Try.func7, Try.ntmps7
    go_wp2_with fail
    exact HQ.out _ _ ⟨by rw [HN2.out]; rfl, Below.refl _ _⟩
  · have i1 : ¬ (N : Int) > 20 := by omega
    go_enter Try.func7, Try.ntmps7
    go_upto_region 4 with fail
    go_loopw [4, 5, 12] (fun _ _ i wr => ∃ k : Nat, k ≤ N ∧ i = .int .i64 (k : Int) ∧ Below w.heap.size w wr ∧ Hid (∀ j (h : j < rs.length), j < k → ruE rs[j].1 = 0)) (fun _ _ i _ => ((N : Int) - intOf i).toNat)
    case atStart => exact ⟨0, by omega, rfl, Below.refl _ _, fun j _ hj => by omega⟩
    case round =>
      obtain ⟨k, hk, rfl, hb, HS⟩ := hrel
      have HB := hidE hb
      by_cases hkn : k < N
      · have j1 : (k : Int) < (N : Int) := by omega
        have j2 : (0 : Int) ≤ (k : Int) := by omega
        have hkl : k < rs.length := by have := HNN.out; omega
        obtain ⟨b1, o1, e1, hb1, hl1, hx1, hc1⟩ := HV.out.shape (by omega)
        subst e1
        have hx1' : co ≤ 9223372036854775807 := by unfold maxLen at hx1; omega
        have hC := (hc1 k hkl).below hb1 hb
        have HST := hidE (fun (h : ruE rs[k].1 = 0) (j : Nat) (hj : j < rs.length) (hjk : j < k + 1) => (show ruE rs[j].1 = 0 from by
          by_cases e : j = k
          · subst e; exact h
          · exact HS.out j hj (by omega)))
        have HNX := hidE (HKE.out hN20 k hkl HS.out)
        generalize rs[k].1 = r at hC HST HNX
        generalize rs[k].2.1 = fv at hC
        generalize rs[k].2.2 = tv at hC
        obtain ⟨af, cf, hfe⟩ := hC.2.1.len
        obtain ⟨at', ct, hte⟩ := hC.2.2.1.len
        generalize r.fr.length = nf at hfe
        generalize r.tl.length = nt at hte
        subst hfe hte
        clear hc1 hx1
        obtain ⟨⟨c0, c1, c2, c3, c4, c5, c6, c7, c8, c9, c10⟩, s1, s2, s3, s4⟩ := hC
        have b2 : Below wr.heap.size wr (wr.alloc (.cells #[.bool r.pass, .bool r.quick, .bool r.keep, .int .i64 r.way, .int .i64 r.kind, .int .i64 r.sa, .int .i64 r.sl, .int .i64 r.da, .int .i64 r.dl, .slice af nf cf, .slice at' nt ct] 34)) := (Below.refl _ _).alloc (Nat.le_refl _) _
        have hR2 := RlAt.new wr r (.slice af nf cf) (.slice at' nt ct)
        have hck := ruCheck_any r (.slice af nf cf) (.slice at' nt ct) (wr.alloc (.cells #[.bool r.pass, .bool r.quick, .bool r.keep, .int .i64 r.way, .int .i64 r.kind, .int .i64 r.sa, .int .i64 r.sl, .int .i64 r.da, .int .i64 r.dl, .slice af nf cf, .slice at' nt ct] 34)) (s1.below b2) (s2.below b2) s3 s4
        unfold rlV at hck
        have HB2 := hidE (HB.out.trans (b2.mono HB.out.size))
        obtain ⟨W2, hW2⟩ : ∃ W2, wr.alloc (.cells #[.bool r.pass, .bool r.quick, .bool r.keep, .int .i64 r.way, .int .i64 r.kind, .int .i64 r.sa, .int .i64 r.sl, .int .i64 r.da, .int .i64 r.dl, .slice af nf cf, .slice at' nt ct] 34) = W2 := ⟨_, rfl⟩
        have HW2 := hidE hW2
        rw [hW2] at hR2 hck HB2
        obtain ⟨d0, d1, d2, d3, d4, d5, d6, d7, d8, d9, d10⟩ := hR2.cells
        clear s1 s2 s3 s4 b2 hR2 hW2 hb HB HKE HV HK4
        go_upto_region 6 with fail
        rw [HW2.out]
        clear c0 c1 c2 c3 c4 c5 c6 c7 c8 c9 c10 HW2
        by_cases hz : ruE r = 0
        · have HS2 := hidE (HST.out hz)
          rw [hz, show erV 0 = .nilIface from rfl] at hck
          clear hz HST HNX HK0 HS
          go_wp2_with (go_at_call 16; go_must (refine hck.mono ?_; rintro e w3 ⟨rfl, b3⟩))
          go_roundw
          case rel => exact ⟨k + 1, by omega, by go_num, HB2.out.trans (b3.mono HB2.out.size), HS2.out⟩
          case measure => simp [intOf]; omega
        · have HN2 := hidE (show erV n = .iface 62 (.int .i64 (ruE r)) by rw [HNX.out hz]; exact erV_ne hz)
          rw [erV_ne hz] at hck
          generalize ruE r = z at hck HN2
          clear hz HST HNX HK0 HS
          go_wp2_with (go_at_call 16; go_must (refine hck.mono ?_; rintro e w3 ⟨rfl, b3⟩))
          exact HQ.out _ _ ⟨by rw [HN2.out]; rfl, HB2.out.trans (b3.mono HB2.out.size)⟩
      · have j1 : ¬ (k : Int) < (N : Int) := by omega
        have HN2 := hidE (show erV n = .nilIface by rw [HK0.out hN20 (fun j hj => HS.out j hj (by have := HNN.out; omega))]; rfl)
        clear HK4 HK0 HKE HV HS
        go_wp2_with fail
        exact HQ.out _ _ ⟨by first | (rw [HN2.out]; done) | (rw [HN2.out]; rfl), HB.out⟩
end Go.Proofs.Ytdellfmkmbabhaa
