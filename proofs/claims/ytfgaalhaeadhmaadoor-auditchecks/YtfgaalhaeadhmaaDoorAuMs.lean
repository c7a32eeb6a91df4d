/- What Masters of package audit returns. -/
import Derived.Test.YtfgaalhaeadhmaaDoorAuMs0
import Derived.Laws.EntriesVeiled
namespace Go.Proofs.YtfgaalhaeadhmaaDoor
open Go.RowKit
set_option linter.unusedVariables false

/-- What is wrong with a log up to an end. -/
def msE (es : List Ev) (t : Int) : Int := if ¬ (audR es).2 = 0 then (audR es).2 else if t < (stA es es.length).1 ∨ 1000000 < t then 1 else 0
theorem msE_good {es : List Ev} {t : Int} (h : msE es t = 0) : (audR es).2 = 0 ∧ ¬ t < (stA es es.length).1 ∧ ¬ 1000000 < t := by
  unfold msE at h
  split at h
  · rename_i h1; exact absurd h h1
  · rename_i h1
    split at h
    · cases h
    · rename_i h2; exact ⟨by simpa using h1, by omega, by omega⟩
theorem aud_gd {es : List Ev} (h : (audR es).2 = 0) : Gd es es.length ∧ es.length ≤ 1000 := by
  by_cases hl : 1000 < es.length
  · unfold audR at h; rw [if_pos hl] at h; cases h
  · rcases gd_or es with hg | ⟨k, hk, hg, hz⟩
    · exact ⟨hg, by omega⟩
    · rw [audR_stop hl hg hk hz] at h; exact absurd h hz
set_option maxRecDepth 100000 in
set_option maxHeartbeats 64000000 in
theorem masters_any (es : List Ev) (v : Value) (t : Int) (w : World) (hv : Evs w v es) : Calls Tryd.prog 19 #[v, .int .i64 t] w fun e w' => ∃ r, e = .returned (.tuple #[r, auV (msE es t)]) ∧ OwnMs w' w.heap.size r (if msE es t = 0 then rfM es t else []) ∧ Below w.heap.size w w' := by
  obtain ⟨Q, hQ⟩ : ∃ Q : Ending → World → Prop, Q = fun e w' => ∃ r, e = .returned (.tuple #[r, auV (msE es t)]) ∧ OwnMs w' w.heap.size r (if msE es t = 0 then rfM es t else []) ∧ Below w.heap.size w w' := ⟨_, rfl⟩
  have HQ : Hid (∀ r c w', msE es t = c → OwnMs w' w.heap.size r (if c = 0 then rfM es t else []) → Below w.heap.size w w' → Q (.returned (.tuple #[r, auV c])) w') := by
    rw [hQ]; intro r c w' h0 h1 h2; rw [h0]; exact ⟨r, rfl, h1, h2⟩
  rw [← hQ]
  clear hQ
  obtain ⟨W0, hW0⟩ : ∃ W0, (((((w.alloc (.cells #[.slice none 0 0] 57)).alloc (.cells #[.int .i64 0] 3)).alloc (.cells #[.int .i64 0] 3)).alloc (.cells #[.int .i64 (-1)] 3)).alloc (.cells #[.func (.func 37) #[] #[.pointer (some ⟨w.heap.size, 0, none⟩), .pointer (some ⟨w.heap.size + 2, 0, none⟩), .pointer (some ⟨w.heap.size + 3, 0, none⟩)]] 83)) = W0 := ⟨_, rfl⟩
  have hS : MsS w.heap.size (.slice none 0 0) ([], 0, -1) 0 W0 := by
    rw [← hW0]
    refine ⟨((((OneAt.new _ _ _).alloc _).alloc _).alloc _).alloc _, ?_, ?_, ?_, ?_, OwnN.nil _ _, by simp⟩
    · have := (((OneAt.new (w.alloc (.cells #[.slice none 0 0] 57)) (.int .i64 0) 3).alloc (.cells #[.int .i64 0] 3)).alloc (.cells #[.int .i64 (-1)] 3)).alloc (.cells #[.func (.func 37) #[] #[.pointer (some ⟨w.heap.size, 0, none⟩), .pointer (some ⟨w.heap.size + 2, 0, none⟩), .pointer (some ⟨w.heap.size + 3, 0, none⟩)]] 83)
      simpa using this
    · have := ((OneAt.new ((w.alloc (.cells #[.slice none 0 0] 57)).alloc (.cells #[.int .i64 0] 3)) (.int .i64 0) 3).alloc (.cells #[.int .i64 (-1)] 3)).alloc (.cells #[.func (.func 37) #[] #[.pointer (some ⟨w.heap.size, 0, none⟩), .pointer (some ⟨w.heap.size + 2, 0, none⟩), .pointer (some ⟨w.heap.size + 3, 0, none⟩)]] 83)
      simpa using this
    · have := (OneAt.new (((w.alloc (.cells #[.slice none 0 0] 57)).alloc (.cells #[.int .i64 0] 3)).alloc (.cells #[.int .i64 0] 3)) (.int .i64 (-1)) 3).alloc (.cells #[.func (.func 37) #[] #[.pointer (some ⟨w.heap.size, 0, none⟩), .pointer (some ⟨w.heap.size + 2, 0, none⟩), .pointer (some ⟨w.heap.size + 3, 0, none⟩)]] 83)
      simpa using this
    · have := OneAt.new ((((w.alloc (.cells #[.slice none 0 0] 57)).alloc (.cells #[.int .i64 0] 3)).alloc (.cells #[.int .i64 0] 3)).alloc (.cells #[.int .i64 (-1)] 3)) (.func (.func 37) #[] #[.pointer (some ⟨w.heap.size, 0, none⟩), .pointer (some ⟨w.heap.size + 2, 0, none⟩), .pointer (some ⟨w.heap.size + 3, 0, none⟩)]) 83
      simpa using this
  have hb : Below w.heap.size w W0 := by
    rw [← hW0]
    exact (((((Below.refl _ _).alloc (Nat.le_refl _) _).alloc (by simp) _).alloc (by simp; omega) _).alloc (by simp; omega) _).alloc (by simp; omega) _
  have hw := walk_any 38 #[.pointer (some ⟨w.heap.size + 1, 0, none⟩), .pointer (some ⟨w.heap.size + 2, 0, none⟩), .pointer (some ⟨w.heap.size + 3, 0, none⟩), .pointer (some ⟨w.heap.size + 4, 0, none⟩)]
    (fun k W => k ≤ es.length ∧ ∃ r, MsS w.heap.size r (prK es k) (stA es k).1 W) w.heap.size es v W0 (hv.below hb) (fun W h => hv.below (hb.trans h)) hb.size ⟨Nat.zero_le _, _, hS⟩ (fun k W W' h hb => ⟨h.1, h.2.elim fun r h => ⟨r, h.below hb⟩⟩) enter19
    (fun k hk W hl hg hI hb => by
      obtain ⟨_, r, hI⟩ := hI
      refine (masters2_any es[k] w.heap.size r _ _ W hI (by have := pr_len es k (by omega); omega)).mono ?_
      rintro e W' ⟨h1, ⟨r', h2⟩, h3⟩
      refine ⟨h1, ⟨by omega, r', ?_⟩, h3⟩
      rw [prK_succ hk, stA_succ hk]
      exact h2)
  obtain ⟨c, hc⟩ : ∃ c, (audR es).2 = c := ⟨_, rfl⟩
  have HC := hidA hc
  rw [hc] at hw
  generalize ((audR es).1 : Int) = n at hw
  have HV := hidA hv
  have HB0 := hidA hb
  clear hv hS hb hc
  by_cases hz : c = 0
  · rw [hz, show auV 0 = .nilIface from rfl] at hw
    obtain ⟨hgd, hlen⟩ := aud_gd (HC.out.trans hz)
    have HGD := hidA hgd
    have HLEN := hidA hlen
    subst hz
    clear hgd hlen
    go_enter Tryd.func19, Tryd.ntmps19
    go_upto_region 6 with (go_at_call 34; go_must ((with_reducible refine hw.mono ?_); rintro e W1 ⟨rfl, b1, j, ⟨_, r, s1⟩, hj⟩; obtain rfl := hj rfl; have S1 := hidA s1; have HB1 := hidA (HB0.out.trans b1); clear s1 b1 hj hw))
    have p0 := S1.out.o.cell
    have f0 := S1.out.o.free
    have p1 := S1.out.l.cell
    have p3 : W1.cell? ⟨w.heap.size + 1 + 1 + 1, 0, none⟩ = _ := S1.out.m.cell
    have p4 : W1.cell? ⟨w.heap.size + 1 + 1 + 1 + 1, 0, none⟩ = _ := S1.out.f.cell
    have HFE := hidA (fell_any t w.heap.size r _ _ W1 S1.out (by have := pr_len es es.length (Nat.le_refl _); have := HLEN.out; omega))
    have HPR := hidA (pr_rf HGD.out t)
    have HMS := hidA (show ∀ z, z = msE es t → z = if t < (stA es es.length).1 ∨ 1000000 < t then 1 else 0 by
      intro z h; rw [h]; unfold msE; rw [if_neg (by rw [HC.out]; simp)])
    obtain ⟨last, hla⟩ : ∃ last, (stA es es.length).1 = last := ⟨_, rfl⟩
    rw [hla] at p1 S1 HFE HMS
    obtain ⟨s, hs⟩ : ∃ s, prK es es.length = s := ⟨_, rfl⟩
    rw [hs] at p3 S1 HFE HPR
    clear hs hla
    obtain ⟨ra, rc, hra⟩ := OwnN.len S1.out.own
    obtain ⟨nl, hnl⟩ : ∃ nl, s.1.length = nl := ⟨_, rfl⟩
    rw [hnl] at hra
    clear hnl
    rcases (by omega : t < last ∨ (¬ t < last ∧ 1000000 < t) ∨ (¬ t < last ∧ ¬ 1000000 < t)) with h1 | ⟨h1, h2⟩ | ⟨h1, h2⟩
    · have hm1 := HMS.out _ rfl
      rw [if_pos (.inl h1)] at hm1
      have HQ2 := hidA (HQ.out (.slice none 0 0) 1 (W1.setCell ⟨w.heap.size, 0, none⟩ (.slice none 0 0)) hm1 (OwnN.nil _ _) (HB1.out.setCell (by simp) _))
      rw [auV_ne (by decide)] at HQ2
      have r0 := (S1.out.o.set (.slice none 0 0)).cell
      obtain ⟨W2, hW2⟩ : ∃ W2, W1.setCell ⟨w.heap.size, 0, none⟩ (.slice none 0 0) = W2 := ⟨_, rfl⟩
      rw [hW2] at HQ2 r0
      clear hm1 p3 p4
      go_wp2_with fail
      exact bodyPost_ret (v := .tuple #[.slice none 0 0, .iface 73 (.int .i64 1)]) (by simp [results, Tryd.results19, go_sem, r0]) rfl HQ2.out
    · have hm1 := HMS.out _ rfl
      rw [if_pos (.inr h2)] at hm1
      have HQ2 := hidA (HQ.out (.slice none 0 0) 1 (W1.setCell ⟨w.heap.size, 0, none⟩ (.slice none 0 0)) hm1 (OwnN.nil _ _) (HB1.out.setCell (by simp) _))
      rw [auV_ne (by decide)] at HQ2
      have r0 := (S1.out.o.set (.slice none 0 0)).cell
      obtain ⟨W2, hW2⟩ : ∃ W2, W1.setCell ⟨w.heap.size, 0, none⟩ (.slice none 0 0) = W2 := ⟨_, rfl⟩
      rw [hW2] at HQ2 r0
      clear hm1 p3 p4
      go_wp2_with fail
      exact bodyPost_ret (v := .tuple #[.slice none 0 0, .iface 73 (.int .i64 1)]) (by simp [results, Tryd.results19, go_sem, r0]) rfl HQ2.out
    · have hm1 := HMS.out _ rfl
      rw [if_neg (by omega)] at hm1
      have HM1 := hidA hm1
      clear hm1
      subst hra
      unfold finM at HPR
      by_cases hm : s.2.2 = -1
      · rw [hm] at p3
        rw [if_pos hm] at HPR
        have hown := S1.out.own
        rw [HPR.out] at hown
        clear hm
        go_upto_region 10 with fail
        have HQ2 := hidA (HQ.out (.slice ra nl rc) 0 (W1.setCell ⟨w.heap.size, 0, none⟩ (.slice ra nl rc)) HM1.out (OwnN.rebase (OwnN.other hown (S1.out.out 0 (by omega)) _) (by omega)) (HB1.out.setCell (by simp) _))
        rw [show auV 0 = .nilIface from rfl] at HQ2
        have r0 := (S1.out.o.set (.slice ra nl rc)).cell
        obtain ⟨W2, hW2⟩ : ∃ W2, W1.setCell ⟨w.heap.size, 0, none⟩ (.slice ra nl rc) = W2 := ⟨_, rfl⟩
        rw [hW2] at HQ2 r0
        clear p3 p4 hown
        go_wp2_with fail
        exact bodyPost_ret (v := .tuple #[.slice ra nl rc, .nilIface]) (by simp [results, Tryd.results19, go_sem, r0]) rfl HQ2.out
      · rw [if_neg hm] at HPR
        have hmb : (s.2.2 != -1) = true := by simpa using hm
        obtain ⟨m, hmm⟩ : ∃ m, s.2.2 = m := ⟨_, rfl⟩
        rw [hmm] at p3 hmb
        clear hm hmm
        have hfe := HFE.out
        go_upto_region 10 with ((with_reducible refine hfe.mono ?_); rintro e W5 ⟨rfl, ⟨r2, s2⟩, b2⟩; have S2 := hidA s2; have HB2 := hidA (HB1.out.trans b2); clear s2 b2)
        have hr2 : ∃ a n c, r2 = Value.slice a n c := (OwnN.len S2.out.own).elim fun a h => h.elim fun c h => ⟨_, _, _, h⟩
        obtain ⟨ra2, n2, rc2, rfl⟩ := hr2
        have hown := S2.out.own
        simp only at hown
        rw [HPR.out] at hown
        have p0' := S2.out.o.cell
        have f0' := S2.out.o.free
        have HQ2 := hidA (HQ.out (.slice ra2 n2 rc2) 0 (W5.setCell ⟨w.heap.size, 0, none⟩ (.slice ra2 n2 rc2)) HM1.out (OwnN.rebase (OwnN.other hown (S2.out.out 0 (by omega)) _) (by omega)) (HB2.out.setCell (by simp) _))
        rw [show auV 0 = .nilIface from rfl] at HQ2
        have r0 := (S2.out.o.set (.slice ra2 n2 rc2)).cell
        obtain ⟨W2, hW2⟩ : ∃ W2, W5.setCell ⟨w.heap.size, 0, none⟩ (.slice ra2 n2 rc2) = W2 := ⟨_, rfl⟩
        rw [hW2] at HQ2 r0
        clear p3 p4 hown p0 f0 hfe
        go_wp2_with fail
        exact bodyPost_ret (v := .tuple #[.slice ra2 n2 rc2, .nilIface]) (by simp [results, Tryd.results19, go_sem, r0]) rfl HQ2.out
  · rw [auV_ne hz] at hw
    have HM := hidA (show msE es t = c by unfold msE; rw [HC.out, if_pos hz])
    have HZ := hidA hz
    clear hz
    go_enter Tryd.func19, Tryd.ntmps19
    go_upto_region 5 with (go_at_call 34; go_must ((with_reducible refine hw.mono ?_); rintro e W1 ⟨rfl, b1, j, ⟨_, r, s1⟩, hj⟩; have S1 := hidA s1; have HB1 := hidA (HB0.out.trans b1); clear s1 b1 hj hw))
    obtain ⟨ra, rc, hra⟩ := OwnN.len S1.out.own
    have p0 := S1.out.o.cell
    have f0 := S1.out.o.free
    have HQ2 := hidA (HQ.out (.slice none 0 0) c (W1.setCell ⟨w.heap.size, 0, none⟩ (.slice none 0 0)) HM.out (by rw [if_neg HZ.out]; exact OwnN.nil _ _) (HB1.out.setCell (by simp) _))
    rw [auV_ne HZ.out] at HQ2
    have r0 := (S1.out.o.set (.slice none 0 0)).cell
    obtain ⟨W2, hW2⟩ : ∃ W2, W1.setCell ⟨w.heap.size, 0, none⟩ (.slice none 0 0) = W2 := ⟨_, rfl⟩
    rw [hW2] at HQ2 r0
    go_wp2_with fail
    exact bodyPost_ret (v := .tuple #[.slice none 0 0, .iface 73 (.int .i64 c)]) (by simp [results, Tryd.results19, go_sem, r0]) rfl HQ2.out
end Go.Proofs.YtfgaalhaeadhmaaDoor
