/- What the program's 'ends' returns (package span): the numbers at which spans begin, or behind which they end, each once, rising. -/
import Derived.Test.YtdellfmkmbabhaaSpnEnds0
import Derived.Test.YtdellfmkmbabhaaSpnCat
import Derived.Deep.DeepMust
namespace Go.Proofs.Ytdellfmkmbabhaa
open Go.RowKit
set_option linter.unusedVariables false

/-- The ends of two lists of spans. -/
def EndsIs (a b : List Sp) (E : List Int) : Prop := 0 < E.length ∧ E.length ≤ 1000 ∧ (∀ e ∈ E, 0 < e ∧ e ≤ 65536) ∧ E.Pairwise (· < ·) ∧ ∀ e, isEnd a e ∨ isEnd b e ∨ e = 65536 → e ∈ E
theorem ends_is {a b : List Sp} (oka : OkS a) (okb : OkS b) (hna : a.length ≤ 200) (hnb : b.length ≤ 200) : EndsIs a b (Lib.compact ((endsL (a ++ b)).mergeSort fun x y => decide (x ≤ y))) := by
  obtain ⟨s1, s2, s3⟩ := sorted_is (endsL (a ++ b))
  obtain ⟨c1, c2⟩ := compact_is _ s1
  obtain ⟨e1, e2⟩ := endsL_in (oka.append okb)
  have hl := Lib.compact_length_le ((endsL (a ++ b)).mergeSort fun x y => decide (x ≤ y))
  have hl2 := endsL_len (a ++ b)
  have hm : (65536 : Int) ∈ Lib.compact ((endsL (a ++ b)).mergeSort fun x y => decide (x ≤ y)) := by rw [c2, s2]; exact e2 _ (.inr rfl)
  refine ⟨List.length_pos_of_mem hm, ?_, fun e he => e1 e (by rw [c2, s2] at he; exact he), c1, fun e he => ?_⟩
  · rw [s3] at hl; simp at hl2; omega
  · rw [c2, s2]
    rcases he with h | h | h
    · exact e2 e (.inl (isEnd_append (.inl h)))
    · exact e2 e (.inl (isEnd_append (.inr h)))
    · exact e2 e (.inr h)
theorem OwnI.new (w : World) (z : Int) : OwnI (w.alloc (.cells #[.int .i64 z] 3)) w.heap.size (.slice (some ⟨w.heap.size, 0, none⟩) 1 1) [z] :=
  ⟨rfl, .inr ⟨w.heap.size, 1, #[.int .i64 z], rfl, Nat.le_refl _, heap_alloc_new _ _, by simp, by unfold maxLen; omega, rfl, rfl⟩⟩
theorem off_grown {v v' u : Value} {S : Nat} (h : Off v u) (hu : ∀ g, u.ownBlock = some g → g < S) (hv : v'.ownBlock = v.ownBlock ∨ v'.ownBlock = some (S + 1)) : Off v' u := by
  intro g hg hu'
  have hlt := hu g hu'
  rcases hv with e | e
  · exact h g (by rw [← e]; exact hg) hu'
  · rw [e] at hg; injection hg with hg; omega
/-- What an append onto a row of numbers leaves of the rest. -/
theorem step_row {W W1 : World} {base base2 : Nat} {v v' u : Value} {zs : List Int} {L : List Sp} {o : Obj} (hI : OwnI W base v zs) (hC : OwnSp W base2 u L) (hO : Off v u) (hg : (W.alloc o).grownBy W1 v.ownBlock) (hl : v'.ownBlock = v.ownBlock ∨ v'.ownBlock = some (W.heap.size + 1)) (hB : base ≤ W.heap.size) :
    OwnSp W1 base2 u L ∧ Off v' u ∧ Below base W W1 ∧ (∀ k, k < W.heap.size → v.ownBlock ≠ some k → W1.heap[k]? = W.heap[k]?) := by
  have hs : (W.alloc o).heap.size = W.heap.size + 1 := by simp
  have hk : ∀ k, k < W.heap.size → v.ownBlock ≠ some k → W1.heap[k]? = W.heap[k]? := fun k h1 h2 => by
    rw [hg.block k (by omega) (fun e => h2 e.symm)]
    exact ((Below.refl W.heap.size W).alloc (Nat.le_refl _) o).block k h1
  refine ⟨hC.blk (fun k h => hk k (hC.block k h).2 (fun e => hO k e h)), off_grown hO (fun g h => (hC.block g h).2) hl, ?_, hk⟩
  refine ((Below.refl base W).alloc hB o).trans (grown_below hg (by omega) (fun k h => (hI.lt k h).1))
set_option maxHeartbeats 8000000 in
theorem ends_any (va vb : Value) (a b : List Sp) (w : World) (ha : Spns w va a) (hb : Spns w vb b) (oka : OkS a) (okb : OkS b) (hna : a.length ≤ 200) (hnb : b.length ≤ 200) :
    Calls Try.prog 72 #[va, vb] w fun e w' => ∃ v E, e = .returned v ∧ OwnI w' w.heap.size v E ∧ EndsIs a b E ∧ Below w.heap.size w w' := by
  obtain ⟨pa, ca, hva⟩ := ha.len
  obtain ⟨pb, cb, hvb⟩ := hb.len
  have b1 := (Below.refl w.heap.size w).alloc (Nat.le_refl _) (.cells #[.int .i64 65536] 3)
  have own1 := OwnI.new w 65536
  obtain ⟨w1, hw1⟩ : ∃ w1, w.alloc (.cells #[.int .i64 65536] 3) = w1 := ⟨_, rfl⟩
  have hs1 : w1.heap.size = w.heap.size + 1 := by rw [← hw1]; simp
  have b2 := (Below.refl w1.heap.size w1).alloc (Nat.le_refl _) (.cells #[va, vb] 32)
  have hcc := concat_any va vb a b w1.heap.size (w1.alloc (.cells #[va, vb] 32)) (by rw [← hw1] at b2 ⊢; exact (ha.below b1).below b2) (by rw [← hw1] at b2 ⊢; exact (hb.below b1).below b2) (by simp) (by simp) (by simp) hna hnb
  have HB1 : Hid (Below w.heap.size w w1 ∧ OwnI w1 w.heap.size (.slice (some ⟨w.heap.size, 0, none⟩) 1 1) [65536] ∧ w1.heap.size = w.heap.size + 1) := by
    rw [hw1] at b1 own1; exact ⟨b1, own1, hs1⟩
  have HB2 : Hid (Below w1.heap.size w1 (w1.alloc (.cells #[va, vb] 32)) ∧ (w1.alloc (.cells #[va, vb] 32)).heap.size = w1.heap.size + 1) := ⟨b2, by simp⟩
  have HE : Hid (EndsIs a b (Lib.compact ((endsL (a ++ b)).mergeSort fun x y => decide (x ≤ y)))) := ends_is oka okb hna hnb
  have HL : Hid ((a ++ b).length ≤ 400) := by rw [Hid]; simp; omega
  have HOK : Hid (OkS (a ++ b)) := oka.append okb
  generalize a.length = na at hva
  generalize b.length = nb at hvb
  obtain ⟨L, hL⟩ : ∃ L, a ++ b = L := ⟨_, rfl⟩
  have HLE : Hid (a ++ b = L) := hL
  rw [hL] at HL HOK hcc
  obtain ⟨N, hN⟩ : ∃ N, L.length = N := ⟨_, rfl⟩
  have HN : Hid (L.length = N) := hN
  rw [hN] at HL
  have hN4 : N ≤ 400 := HL.out
  have hcc := hcc.mono (R' := fun e w' => ∃ a2 c2, e = .returned (.slice a2 N c2) ∧ OwnSp w' (w1.alloc (.cells #[va, vb] 32)).heap.size (.slice a2 N c2) L ∧ Below (w1.alloc (.cells #[va, vb] 32)).heap.size (w1.alloc (.cells #[va, vb] 32)) w') (fun e w' h => by
    obtain ⟨v2, rfl, own2, bc2⟩ := h
    obtain ⟨a2, c2, rfl⟩ := own2.len
    rw [hN] at own2 ⊢
    exact ⟨a2, c2, rfl, own2, bc2⟩)
  clear hL hN
  subst hva hvb
  clear ha hb hs1 own1 b1 b2 hna hnb
  go_enter Try.func72, Try.ntmps72
  go_upto_region 2 with fail
  clear hw1
  obtain ⟨B, hBe⟩ : ∃ B, w.heap.size = B := ⟨_, rfl⟩
  have HBE : Hid (w.heap.size = B) := hBe
  rw [hBe]
  clear hBe
  go_wp2_with (go_at_call 86; go_must (refine hcc.mono ?_; rintro e w2 ⟨a2, c2, rfl, own2, bc2⟩))
  have HS2 : Hid (w1.heap.size < w2.heap.size ∧ Below w.heap.size w w2 ∧ OwnI w2 w.heap.size (.slice (some ⟨w.heap.size, 0, none⟩) 1 1) [65536] ∧ OwnSp w2 (w1.heap.size + 1) (.slice a2 N c2) L) := by
    obtain ⟨p1, p2, p3⟩ := HB1.out
    obtain ⟨q1, q2⟩ := HB2.out
    have q3 := bc2.size
    have q4 : Below w1.heap.size w1 w2 := q1.trans (bc2.mono (by omega))
    refine ⟨by omega, p1.trans (q4.mono (by omega)), p2.below q4, ?_⟩
    rw [← q2]; exact own2
  have h00 : Hid (OwnI w2 w.heap.size (.slice (some ⟨B, 0, none⟩) 1 1) (endsL (L.take 0)) ∧ Off (.slice (some ⟨B, 0, none⟩) 1 1) (.slice a2 N c2)) := by
    rw [← HBE.out]
    obtain ⟨p1, p2, p3, p4⟩ := HS2.out
    refine ⟨p3, fun g hg hu => ?_⟩
    have := (p4.block g hu).1
    have h1 : w.heap.size = g := by simpa [Value.ownBlock] using hg
    have := HB1.out.2.2
    omega
  clear hcc own2 bc2 HB1 HB2
  go_loopw [5, 14] (fun v5 i wr => ∃ k : Nat, k ≤ N ∧ i = .int .i64 (k : Int) ∧ OwnI wr w.heap.size v5 (endsL (L.take k)) ∧ Off v5 (.slice a2 N c2) ∧ OwnSp wr (w1.heap.size + 1) (.slice a2 N c2) L ∧ Below w.heap.size w wr) (fun _ i _ => ((N : Int) - intOf i).toNat)
  case atStart => exact ⟨0, by omega, rfl, h00.out.1, h00.out.2, HS2.out.2.2.2, HS2.out.2.1⟩
  case round =>
    obtain ⟨k, hk, rfl, hI, hO, hC, hbw⟩ := hrel
    have HI : Hid (OwnI wr w.heap.size u5 (endsL (L.take k))) := hI
    have HO : Hid (Off u5 (.slice a2 N c2)) := hO
    have HC : Hid (OwnSp wr (w1.heap.size + 1) (.slice a2 N c2) L) := hC
    have HW : Hid (Below w.heap.size w wr) := hbw
    have hel : (endsL (L.take k)).length ≤ 1000 := by
      have := endsL_len (L.take k)
      have h2 : (L.take k).length ≤ k := by rw [List.length_take]; omega
      omega
    by_cases hlt : k < N
    · have hlt' : (k : Int) < (N : Int) := by omega
      have hkl : k < L.length := by rw [HN.out]; exact hlt
      obtain ⟨g, cap, hv, hg1, hg2, hg3, hg4⟩ := hC.shape (by omega)
      simp only [Value.slice.injEq] at hv
      obtain ⟨rfl, hmid, rfl⟩ := hv
      clear hmid
      obtain ⟨c0, c1⟩ := hC.cells k hkl
      unfold maxLen at hg4
      have HT : Hid (endsL (L.take (k + 1)) = endsL (L.take k) ++ endsOf L[k]) := by rw [Hid, List.take_succ_eq_append_getElem hkl, endsL_snoc]
      have hok := HOK.out L[k] (List.getElem_mem _)
      have hg3' : N ≤ c2 := by have := HN.out; omega
      obtain ⟨s, hs⟩ : ∃ s, L[k] = s := ⟨_, rfl⟩
      rw [hs] at c0 c1 HT hok
      obtain ⟨p, q⟩ := s
      simp only at c0 c1 hok
      obtain ⟨hp0, hp1, hp2⟩ := hok
      have ba := (Below.refl wr.heap.size wr).alloc (Nat.le_refl _) (.cells #[.int .i64 p, .int .i64 q] 52)
      have hIa : OwnI (wr.alloc (.cells #[.int .i64 p, .int .i64 q] 52)) w.heap.size u5 (endsL (L.take k)) := hI.below ba
      have hCa := hC.below ba
      have hba := hbw.trans (ba.mono hbw.size)
      have hlt5 : ∀ k, u5.ownBlock = some k → k < wr.heap.size := fun k h => (hI.lt k h).2
      have f0 : (wr.alloc (.cells #[.int .i64 p, .int .i64 q] 52)).cell? ⟨wr.heap.size, 0, none⟩ = some (.int .i64 p) := by simp
      have f1 : (wr.alloc (.cells #[.int .i64 p, .int .i64 q] 52)).cell? ⟨wr.heap.size, 1, none⟩ = some (.int .i64 q) := by simp
      have hWs : (wr.alloc (.cells #[.int .i64 p, .int .i64 q] 52)).heap.size = wr.heap.size + 1 := by simp
      have HH : Hid (∀ k, u5.ownBlock = some k → k < wr.heap.size) := hlt5
      clear hs hI hC hbw hO hg3 hN4 ba hlt5
      go_upto_region 5 with fail
      generalize wr.alloc (.cells #[.int .i64 p, .int .i64 q] 52) = W at hIa hCa hba f0 f1 hWs ⊢
      have HWS : Hid (W.heap.size = wr.heap.size + 1) := hWs
      obtain ⟨gs, hgs⟩ : ∃ gs, wr.heap.size = gs := ⟨_, rfl⟩
      rw [hgs] at f0 f1 ⊢
      have HGS : Hid (wr.heap.size = gs) := hgs
      have HIa : Hid (OwnI W w.heap.size u5 (endsL (L.take k))) := hIa
      have HCa : Hid (OwnSp W (w1.heap.size + 1) (.slice (some ⟨g, 0, none⟩) N c2) L) := hCa
      have hbs := hba.size
      have HBa : Hid (Below w.heap.size w W) := hba
      clear c0 c1 hWs hgs hCa hba
      by_cases h0 : 0 < p
      · have he : endsOf (p, q) = [p, q + 1] := by unfold endsOf; rw [if_pos h0]
        rw [he] at HT
        clear he
        go_upto_region 7 with (at_builtin; refine wpList_append_int rfl (.tmp 21) (.tmp 24) rfl w.heap.size u5 (endsL (L.take k)) rfl hIa p rfl (by omega) hbs ?_; intro v6 W6 own6 grow6 lie6)
        obtain ⟨r1, r2, r3, r4⟩ := step_row (v' := v6) HIa.out HCa.out HO.out grow6 lie6 hbs
        have f2 : W6.cell? ⟨gs, 1, none⟩ = some (.int .i64 q) := (World.cell?_of_block (w := W) (a := ⟨gs, 1, none⟩) (r4 gs (by have := HWS.out; have := HGS.out; omega) (fun e => by have := HH.out gs e; have := HGS.out; omega))).trans f1
        have hbs6 := (HBa.out.trans r3).size
        have hel6 : (endsL (L.take k) ++ [p]).length ≤ 4398046511104 := by simp; omega
        have hC6 : Hid (OwnSp W6 (w1.heap.size + 1) (.slice (some ⟨g, 0, none⟩) N c2) L ∧ Off v6 (.slice (some ⟨g, 0, none⟩) N c2) ∧ Below w.heap.size w W6 ∧ OwnI W6 w.heap.size v6 (endsL (L.take k) ++ [p])) := ⟨r1, r2, HBa.out.trans r3, own6⟩
        clear r1 r2 r3 r4 grow6 lie6 f0 f1 hIa
        go_wp2_with (at_builtin; refine wpList_append_int rfl (.tmp 26) (.tmp 30) rfl w.heap.size v6 (endsL (L.take k) ++ [p]) rfl own6 (q + 1) rfl hel6 hbs6 ?_; intro v7 W7 own7 grow7 lie7)
        obtain ⟨t1, t2, t3, _⟩ := step_row (v' := v7) hC6.out.2.2.2 hC6.out.1 hC6.out.2.1 grow7 lie7 hbs6
        go_roundw
        case rel => exact ⟨k + 1, by omega, by go_num, by rw [HT.out]; simpa using own7, t2, t1, hC6.out.2.2.1.trans t3⟩
        case measure => simp [intOf]; omega
      · have he : endsOf (p, q) = [q + 1] := by unfold endsOf; rw [if_neg h0]
        rw [he] at HT
        clear he
        go_wp2_with (at_builtin; refine wpList_append_int rfl (.tmp 26) (.tmp 30) rfl w.heap.size u5 (endsL (L.take k)) rfl hIa (q + 1) rfl (by omega) hbs ?_; intro v7 W7 own7 grow7 lie7)
        obtain ⟨t1, t2, t3, _⟩ := step_row (v' := v7) HIa.out HCa.out HO.out grow7 lie7 hbs
        go_roundw
        case rel => exact ⟨k + 1, by omega, by go_num, by rw [HT.out]; exact own7, t2, t1, HBa.out.trans t3⟩
        case measure => simp [intOf]; omega
    · have hlt' : ¬ (k : Int) < (N : Int) := by omega
      have hT : L.take k = L := List.take_of_length_le (by rw [HN.out]; omega)
      have hpos : 0 < (endsL L).length := by simp [endsL]
      rw [hT] at hI hel
      have hso := isort_any w.heap.size u5 (endsL L) wr hI hpos (by omega)
      have HS : Hid (((endsL L).mergeSort fun x y => decide (x ≤ y)).length = (endsL L).length ∧ EndsIs a b (Lib.compact ((endsL L).mergeSort fun x y => decide (x ≤ y)))) := ⟨(sorted_is _).2.2, by rw [← HLE.out]; exact HE.out⟩
      generalize (endsL L).mergeSort (fun x y => decide (x ≤ y)) = S at hso HS
      have HI2 : Hid (OwnI wr w.heap.size u5 (endsL L)) := hI
      have HP : Hid (0 < (endsL L).length ∧ (endsL L).length ≤ 1000) := ⟨hpos, hel⟩
      clear hT hI hO hC hel hpos
      go_upto_region 10 with (go_at_call 62; refine hso.mono ?_; rintro e w8 ⟨rfl, own8, grow8⟩)
      have hco := icompact_any w.heap.size u5 S w8 own8 (by have := HS.out.1; have := HP.out; omega) (by have := HS.out.1; have := HP.out; omega)
      have b8 : Below w.heap.size w w8 := HW.out.trans (grown_below grow8 HW.out.size (fun k hk => (HI2.out.lt k hk).1))
      clear hso
      go_wp2_with (go_at_call 63; refine hco.mono ?_; rintro e w9 ⟨v9, rfl, own9, grow9⟩)
      go_ret
      exact ⟨_, _, rfl, own9, HS.out.2, b8.trans (grown_below grow9 b8.size (fun k hk => (own8.lt k hk).1))⟩
end Go.Proofs.Ytdellfmkmbabhaa
