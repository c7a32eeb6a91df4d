/- The reference's list that a call holds, through worlds ('RS'); what the reference's Thin returns. -/
import Derived.Test.YtdpnmhfhjcebbaaDoorRefT4
namespace Go.Proofs.YtdpnmhfhjcebbaaDoor
open Go.RowKit
set_option linter.unusedVariables false
set_option maxRecDepth 4000

structure RS (F0 : Nat → Prop) (w0 W : World) (mb : Nat) (s : Tv) : Prop where
  rt : RT W (Plus F0 w0 W) mb (allV s)
  turn : Turn F0 w0 W
section
variable {F0 : Nat → Prop} {w0 W W' : World} {mb : Nat} {s s' : Tv}
theorem RT.keep {w w' : World} {F : Nat → Prop} {mb : Nat} {L : List Pr} (h : RT w F mb L) (hk : ∀ k, F k → w'.heap[k]? = w.heap[k]?) : RT w' F mb L := by
  obtain ⟨v, hv⟩ := h; exact ⟨v, hv.keep hk⟩
theorem RT.mono {w : World} {F G : Nat → Prop} {mb : Nat} {L : List Pr} (h : RT w F mb L) (hG : ∀ k, F k → G k) : RT w G mb L := by
  obtain ⟨v, hv⟩ := h; exact ⟨v, hv.mono hG⟩
theorem RS.lt (h : RS F0 w0 W mb s) (hF : ∀ k, F0 k → k < w0.heap.size) : ∀ k, Plus F0 w0 W k → k < W.heap.size := fun k hk => by
  have := h.turn.size
  rcases hk with h1 | h1
  · have := hF k h1; omega
  · exact h1.2
theorem RS.below (h : RS F0 w0 W mb s) (hF : ∀ k, F0 k → k < w0.heap.size) (hb : Below W.heap.size W W') : RS F0 w0 W' mb s := by
  refine ⟨(h.rt.keep (fun k hk => hb.block k (h.lt hF k hk))).mono (fun k hk => ?_), h.turn.trans (Turn.of_below hb F0)⟩
  have := hb.size
  rcases hk with h1 | h1
  · exact .inl h1
  · exact .inr ⟨h1.1, by omega⟩
theorem RS.drewN (h : RS F0 w0 W mb s) (n : Nat) : RS F0 w0 (W.drewN n) mb s := ⟨(h.rt.keep (w' := W.drewN n) (fun _ _ => rfl)).mono (fun k hk => hk), h.turn.drewN n⟩
theorem RS.drew (h : RS F0 w0 W mb s) : RS F0 w0 W.drew mb s := ⟨(h.rt.keep (w' := W.drew) (fun _ _ => rfl)).mono (fun k hk => hk), h.turn.drewN 1⟩
theorem RS.next (h : RS F0 w0 W mb s) (hp : RT W' (Plus (Plus F0 w0 W) W W') mb (allV s')) (ht : Turn (Plus F0 w0 W) W W') : RS F0 w0 W' mb s' := by
  refine ⟨hp.mono (fun k hk => ?_), h.turn.andThen ht (fun i hi => ?_)⟩
  · have := ht.size
    have := h.turn.size
    rcases hk with (h1 | h1) | h1
    · exact .inl h1
    · exact .inr ⟨h1.1, by omega⟩
    · exact .inr ⟨by omega, h1.2⟩
  · rcases hi with h1 | h1
    · exact .inl h1
    · exact .inr h1.1
/-- What the list lies over, told anew. -/
theorem RS.rebase (h : RS F0 w0 W mb s) (hF : ∀ k, F0 k → k < w0.heap.size) (hb : Below W.heap.size W W') : RS (Plus F0 w0 W) W' W' mb s ∧ ∀ k, Plus F0 w0 W k → k < W'.heap.size :=
  ⟨⟨(h.rt.keep (fun k hk => hb.block k (h.lt hF k hk))).mono (fun k hk => .inl hk), Turn.refl _ _⟩, fun k hk => Nat.lt_of_lt_of_le (h.lt hF k hk) hb.size⟩
theorem RS.put (h : RS F0 w0 W mb s) (hF : ∀ k, F0 k → k < w0.heap.size) (hs : OkV s) (hn : (allV s).length ≤ 200) (a l v : Int) :
    Calls Tryd.prog 5 #[.pointer (some ⟨mb, 0, none⟩), .agg #[.int .i64 a, .int .i64 l], .int .i64 v] W fun e w' => e = .returned (.tuple #[.bool (putV s a l v).2.1, .int .i64 (putV s a l v).2.2]) ∧ RS F0 w0 w' mb (putV s a l v).1 := by
  refine (refPut_any (Plus F0 w0 W) mb s hs a l v W h.rt (h.lt hF) hn).mono ?_
  rintro e w' ⟨rfl, h1, h2⟩
  exact ⟨rfl, h.next h1 h2⟩
theorem RS.drop (h : RS F0 w0 W mb s) (hF : ∀ k, F0 k → k < w0.heap.size) (hs : OkV s) (hn : (allV s).length ≤ 200) (a l : Int) (hp : prefE a l = 0) :
    Calls Tryd.prog 9 #[.pointer (some ⟨mb, 0, none⟩), .agg #[.int .i64 a, .int .i64 l]] W fun e w' => e = .returned (.bool (dropV s a l).2.1) ∧ RS F0 w0 w' mb (dropV s a l).1 := by
  refine (refDrop_any (Plus F0 w0 W) mb s hs a l W h.rt (h.lt hF) hn hp).mono ?_
  rintro e w' ⟨rfl, h1, h2⟩
  exact ⟨rfl, h.next h1 h2⟩
theorem RS.over (h : RS F0 w0 W mb s) (hs : OkV s) (hn : (allV s).length ≤ 200) (a l : Int) (hp : prefE a l = 0) :
    Calls Tryd.prog 14 #[.pointer (some ⟨mb, 0, none⟩), .agg #[.int .i64 a, .int .i64 l]] W (RList (ovL s.f a l.toNat) W) := by
  obtain ⟨V, hV⟩ := h.rt
  have := refOver_any _ mb V (allV s) a l W hV hn
  obtain ⟨n, rfl, hn32, hp', _⟩ := prefE_nat hp
  rw [ovR_is hs hp' hn32] at this
  rw [Int.toNat_natCast]; exact this
theorem RS.under (h : RS F0 w0 W mb s) (hs : OkV s) (hn : (allV s).length ≤ 200) (a l : Int) (hp : prefE a l = 0) :
    Calls Tryd.prog 16 #[.pointer (some ⟨mb, 0, none⟩), .agg #[.int .i64 a, .int .i64 l]] W (RList (undV s a l) W) := by
  obtain ⟨V, hV⟩ := h.rt
  have := refUnder_any _ mb V (allV s) a l W hV hn
  obtain ⟨n, rfl, hn32, hp', _⟩ := prefE_nat hp
  rw [undR_is hs hp' hn32] at this
  exact this
end
/-- How long the list is that a world holds. -/
def lenAt (w : World) (mb : Nat) : Nat := match w.cell? ⟨mb, 0, none⟩ with | some (.slice _ n _) => n | _ => 0
theorem RT.lenAt {w : World} {F : Nat → Prop} {mb : Nat} {L : List Pr} (h : RT w F mb L) : lenAt w mb = L.length := by
  obtain ⟨v, hv⟩ := h
  obtain ⟨a, c, rfl⟩ := hv.row.len
  unfold Go.Proofs.YtdpnmhfhjcebbaaDoor.lenAt
  rw [hv.cell]
/-- What Thin returns. -/
def RThins (ps : List Pr) (w : World) (e : Ending) (w' : World) : Prop :=
  ∃ v, e = .returned (.tuple #[v, .int .i64 (thinE ps)]) ∧ Prs w' v (if thinE ps = 0 then thinL ps else []) ∧ Below w.heap.size w w'
theorem rthins_no {ps : List Pr} {w w' : World} {n : Int} (hn : thinE ps = n) (h0 : ¬ n = 0) (hb : Below w.heap.size w w') : RThins ps w (.returned (.tuple #[.slice none 0 0, .int .i64 n])) w' := by
  refine ⟨.slice none 0 0, by rw [hn], ?_, hb⟩
  rw [if_neg (by rw [hn]; exact h0)]; exact .inl ⟨rfl, _, _, rfl⟩
theorem dropV_len {s : Tv} (h : OkV s) {x : Pr} (hx : x ∈ allV s) : (allV (dropV s x.a x.l).1).length + 1 = (allV s).length := by
  obtain ⟨A, B, hAB⟩ := List.append_of_mem hx
  rw [(ldrop_old h hAB).1, hAB]; simp; omega
set_option maxHeartbeats 8000000 in
theorem refThin_any (v : Value) (ps : List Pr) (w : World) (hv : Prs w v ps) :
    Calls Tryd.prog 19 #[v] w (RThins ps w) := by
  obtain ⟨ao, co, hve⟩ := hv.len
  obtain ⟨N, hN⟩ : ∃ N, ps.length = N := ⟨_, rfl⟩
  rw [hN] at hve
  subst hve
  have HV : Hid (Prs w (.slice ao N co) ps) := hv
  have HN : Hid (ps.length = N) := hN
  clear hv hN
  by_cases hbig : 200 < N
  · have i1 : (200 : Int) < (N : Int) := by omega
    have hE : thinE ps = 4 := by unfold thinE; rw [if_pos (by rw [HN.out]; exact hbig)]
    have HZ : Hid (RThins ps w (.returned (.tuple #[.slice none 0 0, .int .i64 4])) w) := rthins_no hE (by decide) (Below.refl _ _)
    clear hE hbig
    go_enter Tryd.func19, Tryd.ntmps19
    go_wp2_with fail
    go_ret2
    exact HZ.out
  have i1 : ¬ (200 : Int) < (N : Int) := by omega
  have hnew := RT.new w
  have hB1 : Below w.heap.size w (w.alloc (.cells #[.slice none 0 0] 30)) := (Below.refl _ _).alloc (Nat.le_refl _) _
  have hs1 : (w.alloc (.cells #[.slice none 0 0] 30)).heap.size = w.heap.size + 1 := by simp
  go_enter Tryd.func19, Tryd.ntmps19
  go_upto_region 5 with fail
  obtain ⟨tb, htb⟩ : ∃ tb, w.heap.size = tb := ⟨_, rfl⟩
  generalize w.alloc (.cells #[.slice none 0 0] 30) = w1 at hnew hB1 hs1 ⊢
  rw [htb] at hnew hB1 hs1 ⊢
  have HTB : Hid (w.heap.size = tb ∧ w1.heap.size = tb + 1) := ⟨htb, hs1⟩
  have HF : Hid (∀ k, k = tb → k < w1.heap.size) := fun k hk => by have := HTB.out; omega
  have HB1 : Hid (Below tb w w1) := hB1
  have HT1 : Hid (RS (fun k => k = tb) w1 w1 tb newV) := by
    refine ⟨⟨.slice none 0 0, ?_⟩, Turn.refl _ _⟩
    have e : allV newV = [] := lstL_nil (fun _ _ _ _ => rfl)
    rw [e]; exact hnew.mono (fun k hk => .inl hk)
  clear hnew hB1 htb hs1 i1
  go_loopw [5] (fun i wr => ∃ k : Nat, k ≤ N ∧ i = .int .i64 (k : Int) ∧ RS (fun k => k = tb) w1 wr tb (stV (ps.take k)) ∧ Hid (∀ j (hj : j < ps.length), j < k → (putV (stV (ps.take j)) ps[j].a ps[j].l ps[j].v).2.2 = 0)) (fun i _ => ((N : Int) - intOf i).toNat)
  case atStart => exact ⟨0, by omega, rfl, by rw [List.take_zero]; exact HT1.out, fun j hj hk => by omega⟩
  case round =>
    obtain ⟨k, hk, rfl, hS, HJ⟩ := hrel
    have HBR : Hid (Below tb w wr) := Turn.below HB1.out (by have := HTB.out; omega) hS.turn (fun k hk => by omega)
    by_cases hkn : k < N
    · as_aux_lemma =>
        have j1 : (k : Int) < (N : Int) := by omega
        have j2 : (0 : Int) ≤ (k : Int) := by omega
        have hkp : k < ps.length := by have := HN.out; omega
        obtain ⟨b1, o1, e1, hb1, hl1, hx1, hc1⟩ := HV.out.shape (by omega)
        subst e1
        have hb1' : b1 < tb := by have := HTB.out; omega
        obtain ⟨x0, x1, x2⟩ := (hc1 k hkp).keep (HBR.out.block b1 hb1')
        have hx1' : co ≤ 9223372036854775807 := by unfold maxLen at hx1; omega
        obtain ⟨q, hq⟩ : ∃ q, ps[k] = q := ⟨_, rfl⟩
        rw [hq] at x0 x1 x2
        have hput : Calls Tryd.prog 5 #[.pointer (some ⟨tb, 0, none⟩), .agg #[.int .i64 q.a, .int .i64 q.l], .int .i64 q.v] wr.drew fun e w' => e = .returned (.tuple #[.bool (putV (stV (ps.take k)) q.a q.l q.v).2.1, .int .i64 (putV (stV (ps.take k)) q.a q.l q.v).2.2]) ∧ RS (fun k => k = tb) w1 w' tb (stV (ps.take (k + 1))) := by
          have h0 := hS.drew
          refine (h0.put HF.out (stV_ok _).1 (by have := all_len (ps.take k); have := List.length_take_le k ps; omega) q.a q.l q.v).mono ?_
          rintro e w' ⟨rfl, h2⟩
          exact ⟨rfl, by rw [stV_take hkp, hq]; exact h2⟩
        have HTR : Hid (Turn (fun k => k = tb) w1 wr) := hS.turn
        obtain ⟨er, her⟩ : ∃ er, (putV (stV (ps.take k)) q.a q.l q.v).2.2 = er := ⟨_, rfl⟩
        obtain ⟨bb, hbb⟩ : ∃ bb, (putV (stV (ps.take k)) q.a q.l q.v).2.1 = bb := ⟨_, rfl⟩
        simp only [her, hbb] at hput
        have HER : Hid ((putV (stV (ps.take k)) ps[k].a ps[k].l ps[k].v).2.2 = er) := by rw [hq]; exact her
        have HB200 : Hid (¬ 200 < ps.length) := by rw [HN.out]; exact hbig
        clear hc1 hx1 hS hq her hbb
        go_upto_region 7 with fail
        have hS0 : wr.cell? ⟨b1, o1 + k * 3, none⟩ = some (.int .i64 q.a) ∧ wr.cell? ⟨b1, o1 + k * 3 + 1, none⟩ = some (.int .i64 q.l) ∧ wr.cell? ⟨b1, o1 + k * 3 + 2, none⟩ = some (.int .i64 q.v) := ⟨x0, x1, x2⟩
        have HX0 : Hid (PrCells wr b1 (o1 + k * 3) q) := hS0
        go_region_held3 (fun W => W.cell? ⟨b1, o1 + k * 3, none⟩ = some (.int .i64 q.a) ∧ W.cell? ⟨b1, o1 + k * 3 + 1, none⟩ = some (.int .i64 q.l) ∧ W.cell? ⟨b1, o1 + k * 3 + 2, none⟩ = some (.int .i64 q.v)) (with_reducible first | assumption | go_keep) (first
          | (go_at_call 5; refine hput.mono ?_; rintro e w5 ⟨rfl, hS5⟩; have hc5 : w5.cell? ⟨b1, o1 + k * 3, none⟩ = some (.int .i64 q.a) ∧ w5.cell? ⟨b1, o1 + k * 3 + 1, none⟩ = some (.int .i64 q.l) ∧ w5.cell? ⟨b1, o1 + k * 3 + 2, none⟩ = some (.int .i64 q.v) := HX0.out.keep ((hS5.turn.block b1 (by have := HTB.out; omega) (by omega)).trans (HTR.out.block b1 (by have := HTB.out; omega) (by omega)).symm)))
        clear hc5 hS0 x0 x1 x2 hput
        by_cases h0 : er = 0
        · subst h0
          have HT3 : Hid (RS (fun k => k = tb) w1 w5 tb (stV (ps.take (k + 1)))) := hS5
          have HJ2 : Hid (∀ j (hj : j < ps.length), j < k + 1 → (putV (stV (ps.take j)) ps[j].a ps[j].l ps[j].v).2.2 = 0) := fun j hj hjk => by
            by_cases he : j = k
            · subst he; exact HER.out
            · exact HJ.out j hj (by omega)
          clear hS5
          go_wp2_with fail
          go_roundw
          case rel => exact ⟨k + 1, by omega, by go_num, HT3.out, HJ2⟩
          case measure => simp [intOf]; omega
        · have hE : thinE ps = er := by
            unfold thinE
            rw [if_neg HB200.out]
            have h := firstE_take (s := newV) (l := ps) (n := firstE newV ps) rfl k hkp (fun j hj => HJ.out j (by omega) hj) (by rw [show (putV ((ps.take k).foldl (fun s x => (putV s x.a x.l x.v).1) newV) ps[k].a ps[k].l ps[k].v).2.2 = er from HER.out]; exact h0)
            rw [← h]; exact HER.out
          have HZ : Hid (RThins ps w (.returned (.tuple #[.slice none 0 0, .int .i64 er])) w5) := rthins_no hE h0 (by rw [HTB.out.1]; exact Turn.below HB1.out (by have := HTB.out; omega) hS5.turn (fun k hk => by omega))
          clear hS5 hE
          go_wp2_with fail
          go_ret2
          exact HZ.out
    · have hkn' : k = N := by omega
      subst hkn'
      have j1 : ¬ (k : Int) < (k : Int) := by omega
      have hall : ps.take k = ps := by rw [← HN.out]; exact List.take_length
      rw [hall] at hS
      have HE : Hid (thinE ps = 0) := thinE_of (by rw [HN.out]; omega) (fun j hj => HJ.out j hj (by have := HN.out; omega))
      have HOK : Hid (OkV (stV ps)) := (stV_ok ps).1
      have HLL : Hid ((allV (stV ps)).length ≤ 200) := by have := all_len ps; show _ ≤ _; have := HN.out; omega
      have HS1 : Hid (RS (fun k => k = tb) w1 wr tb (stV ps)) := hS
      have HDN : Hid (∀ s', ThinS (stV ps) (-1) [] (allV (stV ps)) s' → allV s' = thinL ps) := fun s' h => h.done
      obtain ⟨s, hs⟩ : ∃ s, stV ps = s := ⟨_, rfl⟩
      rw [hs] at HOK HLL HS1 HDN
      obtain ⟨wA, hwA⟩ : ∃ wA, wA = wr := ⟨_, rfl⟩
      subst hwA
      clear hS hall hs
      go_upto_region 11 with fail
      go_loopw [8] (fun nv wr => ∃ (n : Int) (s' : Tv), -1 ≤ n ∧ n ≤ 32 ∧ nv = .int .i64 n ∧ ThinS s n [] (allV s) s' ∧ RS (fun k => k = tb) w1 wr tb s') (fun nv _ => (intOf nv + 1).toNat)
      case atStart => exact ⟨32, s, by omega, by omega, rfl, ThinS.start HOK.out, HS1.out⟩
      case round =>
        obtain ⟨n, s1, hn1, hn2, rfl, hTh, hRS⟩ := hrel
        by_cases hn0 : 0 ≤ n
        · have m1 : (0 : Int) ≤ n := hn0
          have HTH : Hid (ThinS s n [] (allV s) s1) := hTh
          have HRS : Hid (RS (fun k => k = tb) w1 wr tb s1) := hRS
          clear hTh hRS
          obtain ⟨wB, hwB⟩ : ∃ wB, wB = wr := ⟨_, rfl⟩
          subst hwB
          go_upto_region 14 with fail
          go_loopw [9] (fun iv wr => ∃ (i : Nat) (P Q : List Pr) (s' : Tv), iv = .int .i64 (i : Int) ∧ i = (P.filter (kpB s.f n)).length ∧ ThinS s n P Q s' ∧ RS (fun k => k = tb) w1 wr tb s') (fun iv wr => lenAt wr tb - (intOf iv).toNat)
          case atStart => exact ⟨0, [], allV s, s1, rfl, rfl, HTH.out, HRS.out⟩
          case round =>
            obtain ⟨i, P, Q, s2, rfl, hi, hTh, hRS⟩ := hrel
            have hlen2 : (allV s2).length ≤ 200 := by
              have h1 := congrArg List.length hTh.now
              have h2 := congrArg List.length hTh.all
              rw [List.length_append] at h1 h2
              have := List.length_filter_le (kpB s.f n) P
              have := List.length_filter_le (kpB s.f (n + 1)) Q
              have := HLL.out; omega
            have hile : i ≤ (allV s2).length := by
              have h1 := congrArg List.length hTh.now
              rw [List.length_append] at h1
              omega
            have hla := hRS.rt.lenAt
            obtain ⟨V, hV⟩ := hRS.rt
            obtain ⟨av, cv, hve⟩ := hV.row.len
            obtain ⟨M, hM⟩ : ∃ M, (allV s2).length = M := ⟨_, rfl⟩
            rw [hM] at hve hlen2 hile hla
            subst hve
            have cm := hV.cell
            have HM : Hid ((allV s2).length = M) := hM
            have HLA : Hid (lenAt wr tb = M) := hla
            have HTH2 : Hid (ThinS s n P Q s2) := hTh
            have HRS2 : Hid (RS (fun k => k = tb) w1 wr tb s2) := hRS
            have HI : Hid (i = (P.filter (kpB s.f n)).length) := hi
            clear hTh hRS hM hla hi
            by_cases him : i < M
            · have t1 : (i : Int) < (M : Int) := by omega
              have t2 : (0 : Int) ≤ (i : Int) := by omega
              have hip : i < (allV s2).length := by have := HM.out; omega
              have hmem : (allV s2)[i] ∈ allV s2 := List.getElem_mem hip
              have hnx := HTH2.out.next HOK.out HI.out hip
              obtain ⟨g, cap, hve, _, hg, hl, hx⟩ := hV.row.shape (by omega)
              simp only [Value.slice.injEq] at hve
              obtain ⟨rfl, hNL, rfl⟩ := hve
              obtain ⟨x0, x1, x2⟩ := hV.row.cells i hip
              obtain ⟨x, hxx⟩ : ∃ x, (allV s2)[i] = x := ⟨_, rfl⟩
              rw [hxx] at x0 x1 x2 hmem hnx
              have hpx := (at_mem HTH2.out.ok hmem).2
              have hMc : M ≤ cv := by omega
              have hx1' : cv ≤ 9223372036854775807 := by unfold maxLen at hx; omega
              have HMEM : Hid (x ∈ allV s2) := hmem
              have HNX : Hid (∃ P' Q', (if x.l = n ∧ repB s2.f x = true then ThinS s n P' Q' (dropV s2 x.a x.l).1 ∧ (P'.filter (kpB s.f n)).length = i else ThinS s n P' Q' s2 ∧ (P'.filter (kpB s.f n)).length = i + 1)) := hnx
              have HPX : Hid (prefE x.a x.l = 0) := hpx
              have b3 := (Below.refl wr.heap.size wr).alloc (Nat.le_refl _) (.cells #[.int .i64 x.a, .int .i64 x.l, .int .i64 x.v] 34)
              have hp3 := TriAt.new wr x
              obtain ⟨w3, hw3⟩ : ∃ w3, wr.alloc (.cells #[.int .i64 x.a, .int .i64 x.l, .int .i64 x.v] 34) = w3 := ⟨_, rfl⟩
              rw [hw3] at b3 hp3
              have HRS3 : Hid (RS (fun k => k = tb) w1 w3 tb s2) := HRS2.out.below HF.out b3
              have HP3 : Hid (TriAt w3 wr.heap.size x) := hp3
              have HLA3 : Hid (lenAt w3 tb = M) := by show lenAt w3 tb = M; rw [HRS3.out.rt.lenAt]; exact HM.out
              have hov := HRS3.out.over HTH2.out.ok (by rw [HM.out]; exact hlen2) x.a x.l hpx
              obtain ⟨O, hO⟩ : ∃ O, ovL s2.f x.a x.l.toNat = O := ⟨_, rfl⟩
              rw [hO] at hov
              have HRP : Hid (repB s2.f x = true ↔ ∃ hk : 1 < O.length, O[O.length - 2].v = x.v) := rep_len hO
              have hOl : O.length ≤ 33 := by
                rw [← hO]
                have := ovL_len s2.f x.a x.l.toNat
                obtain ⟨_, hL, _⟩ := prefE_zero hpx
                omega
              clear hmem hnx hV hNL hg hx hl hxx hpx hip hO hp3
              go_upto_region 16 with fail
              try rw [hw3]
              obtain ⟨gp, hgp⟩ : ∃ gp, wr.heap.size = gp := ⟨_, rfl⟩
              rw [hgp] at HP3 ⊢
              obtain ⟨c0, c1, c2⟩ := HP3.out.cells
              clear hw3 x0 x1 x2 cm b3 hgp
              go_upto_region 18 with (go_at_call 14; refine hov.mono ?_; rintro e w4 ⟨v4, rfl, own4, b4⟩; obtain ⟨a4, k4, hv4⟩ := own4.len; subst hv4)
              have HRS4 : Hid (RS (fun k => k = tb) w1 w4 tb s2) := HRS3.out.below HF.out b4
              obtain ⟨d0, d1, d2⟩ := (HP3.out.keep (b4.block gp HP3.out.lt)).cells
              have HOW4 : Hid (OwnR w4 w3.heap.size (.slice a4 O.length k4) O) := own4
              have HLA4 : Hid (lenAt w4 tb = M) := by show lenAt w4 tb = M; rw [HRS4.out.rt.lenAt]; exact HM.out
              clear c0 c1 c2 hov own4 b4
              obtain ⟨K, hK⟩ : ∃ K, O.length = K := ⟨_, rfl⟩
              rw [hK] at HOW4 hOl ⊢
              have HK : Hid (O.length = K) := hK
              clear hK
              by_cases hrep : x.l = n ∧ repB s2.f x = true
              · as_aux_lemma =>
                obtain ⟨P', Q', hn4⟩ := HNX.out
                rw [if_pos hrep] at hn4
                obtain ⟨hk2, hv2⟩ := HRP.out.1 hrep.2
                have HN4 : Hid (ThinS s n P' Q' (dropV s2 x.a x.l).1 ∧ (P'.filter (kpB s.f n)).length = i) := hn4
                obtain ⟨g4, cap4, hve4, _, hg4, hl4, hx4⟩ := HOW4.out.shape (by omega)
                simp only [Value.slice.injEq] at hve4
                obtain ⟨rfl, hKL, rfl⟩ := hve4
                have e2 := (HOW4.out.cells (O.length - 2) (by omega)).2.2
                obtain ⟨m, hm⟩ : ∃ m, K = m + 2 := ⟨K - 2, by have := HK.out; omega⟩
                rw [hv2, HK.out, show K - 2 = m by omega] at e2
                have hxn := hrep.1
                have hcap : k4 ≤ 9223372036854775807 := by unfold maxLen at hx4; omega
                have hmc : K ≤ k4 := by have := HK.out; omega
                have hdr := fun j => (HRS4.out.drewN j).drop HF.out HTH2.out.ok (by rw [HM.out]; exact hlen2) x.a x.l HPX.out
                obtain ⟨bD, hbD⟩ : ∃ bD, (dropV s2 x.a x.l).2.1 = bD := ⟨_, rfl⟩
                obtain ⟨sD, hsD⟩ : ∃ sD, (dropV s2 x.a x.l).1 = sD := ⟨_, rfl⟩
                simp only [hbD, hsD] at hdr
                rw [hsD] at HN4
                have HDL : Hid ((allV sD).length + 1 = M) := by show _ + 1 = M; rw [← hsD, dropV_len HTH2.out.ok HMEM.out]; exact HM.out
                clear hrep hn4 hKL hl4 hx4 hv2 hg4 hk2
                have hbq : (x.l == n) = true := by rw [hxn]; exact beq_self_eq_true _
                have u1 : (1 : Int) < (K : Int) := by omega
                have u2 : (K : Int) - 2 = (m : Int) := by omega
                have u3 : (0 : Int) ≤ (m : Int) := by omega
                have u4 : (m : Int) < (K : Int) := by omega
                have u5 : m < k4 := by omega
                clear hm
                go_big_quiet (fail)
                clear u1 u2 u3 u4 u5 e2 d2 hbq hcap hmc hbD hsD hxn
                go_wp2_with (go_at_call 9; refine (hdr _).mono ?_; rintro e w7 ⟨rfl, hR7⟩)
                go_roundw
                case rel => exact ⟨i, P', Q', _, rfl, HN4.out.2.symm, HN4.out.1, hR7⟩
                case measure =>
                  have h7 := hR7.rt.lenAt
                  have := HDL.out
                  have := HLA.out
                  simp [intOf]; omega
              · as_aux_lemma =>
                obtain ⟨P', Q', hn4⟩ := HNX.out
                rw [if_neg hrep] at hn4
                have HN4 : Hid (ThinS s n P' Q' s2 ∧ (P'.filter (kpB s.f n)).length = i + 1) := hn4
                have HRS4' : Hid (∀ j, RS (fun k => k = tb) w1 (w4.drewN j) tb s2) := fun j => HRS4.out.drewN j
                have HLA5 : Hid (∀ j, lenAt (w4.drewN j) tb = M) := fun _ => HLA4.out
                clear hn4
                by_cases hxn : x.l = n
                · by_cases hk2 : 1 < K
                  · obtain ⟨g4, cap4, hve4, _, hg4, hl4, hx4⟩ := HOW4.out.shape (by have := HK.out; omega)
                    simp only [Value.slice.injEq] at hve4
                    obtain ⟨rfl, hKL, rfl⟩ := hve4
                    have hOk : 1 < O.length := by have := HK.out; omega
                    have e2 := (HOW4.out.cells (O.length - 2) (by omega)).2.2
                    have hne : ¬ O[O.length - 2].v = x.v := fun h => hrep ⟨hxn, HRP.out.2 ⟨hOk, h⟩⟩
                    generalize O[O.length - 2].v = y at e2 hne
                    obtain ⟨m, hm⟩ : ∃ m, K = m + 2 := ⟨K - 2, by omega⟩
                    rw [HK.out, show K - 2 = m by omega] at e2
                    have hcap : k4 ≤ 9223372036854775807 := by unfold maxLen at hx4; omega
                    have hmc : K ≤ k4 := by have := HK.out; omega
                    clear hrep hKL hl4 hx4 hg4 hk2 hOk
                    have hbq : (x.l == n) = true := by rw [hxn]; exact beq_self_eq_true _
                    have u1 : (1 : Int) < (K : Int) := by omega
                    have u2 : (K : Int) - 2 = (m : Int) := by omega
                    have u3 : (0 : Int) ≤ (m : Int) := by omega
                    have u4 : (m : Int) < (K : Int) := by omega
                    have u5 : m < k4 := by omega
                    have u6 : (y == x.v) = false := beq_eq_false_iff_ne.2 hne
                    clear hm
                    go_big_quiet (fail)
                    go_wp2_with fail
                    go_roundw
                    case rel => exact ⟨i + 1, P', Q', s2, by go_num, HN4.out.2.symm, HN4.out.1, HRS4'.out _⟩
                    case measure =>
                      have h5 := HLA5.out
                      have := HLA.out
                      simp [intOf, h5]; omega
                  · have u1 : ¬ (1 : Int) < (K : Int) := by omega
                    clear hrep
                    go_big_quiet (fail)
                    go_wp2_with fail
                    go_roundw
                    case rel => exact ⟨i + 1, P', Q', s2, by go_num, HN4.out.2.symm, HN4.out.1, HRS4'.out _⟩
                    case measure =>
                      have h5 := HLA5.out
                      have := HLA.out
                      simp [intOf, h5]; omega
                · clear hrep
                  have u6 : (x.l == n) = false := beq_eq_false_iff_ne.2 hxn
                  go_big_quiet (fail)
                  go_wp2_with fail
                  go_roundw
                  case rel => exact ⟨i + 1, P', Q', s2, by go_num, HN4.out.2.symm, HN4.out.1, HRS4'.out _⟩
                  case measure =>
                    have h5 := HLA5.out
                    have := HLA.out
                    simp [intOf, h5]; omega
            · have t1 : ¬ (i : Int) < (M : Int) := by omega
              have HDW : Hid (ThinS s (n - 1) [] (allV s) s2) := HTH2.out.down (by rw [← HI.out, HM.out]; omega)
              clear hV
              go_wp2_with fail
              go_roundw
              case rel => exact ⟨n - 1, s2, by omega, by omega, by go_num, HDW.out, HRS2.out⟩
              case measure => simp [intOf]; omega
        · have m1 : ¬ (0 : Int) ≤ n := hn0
          obtain rfl : n = -1 := by omega
          have e := HDN.out s1 hTh
          obtain ⟨V, hV⟩ := hRS.rt
          have cm := hV.cell
          obtain ⟨av, cv, hve⟩ := hV.row.len
          rw [hve] at cm
          have HZ : Hid (RThins ps w (.returned (.tuple #[.slice av (allV s1).length cv, .int .i64 0])) wr) := by
            refine ⟨_, by rw [HE.out], ?_, ?_⟩
            · rw [if_pos HE.out, ← e, ← hve]; exact hV.row.prs
            · rw [HTB.out.1]; exact Turn.below HB1.out (by have := HTB.out; omega) hRS.turn (fun k hk => by omega)
          generalize (allV s1).length = M at cm HZ
          clear hTh hRS hV hve e
          go_wp2_with fail
          go_ret2
          exact HZ.out
end Go.Proofs.YtdpnmhfhjcebbaaDoor
