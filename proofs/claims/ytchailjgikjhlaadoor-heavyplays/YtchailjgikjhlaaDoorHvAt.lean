/- A Heavy of package heavy in memory ('HvAt'): what New, All, least and take of it return, and leave. -/
import Derived.Test.YtchailjgikjhlaaDoorHvMap
import Derived.Deep.RegionHeld3
import Derived.Deep.DeepMust
import Derived.Lib.MinMax
namespace Go.Proofs.YtchailjgikjhlaaDoor
open Go.RowKit Go.Maps
set_option linter.unusedVariables false

theorem blkLt {w : World} {b : Nat} {o : Obj} (h : w.heap[b]? = some o) : b < w.heap.size := (Array.getElem?_eq_some_iff.1 h).1
structure HvAt (w : World) (b m : Nat) (h : Hv) : Prop where
  blk : w.heap[b]? = some (.cells #[.int .i64 h.n, .map (some m), .int .i64 h.less, .int .i64 h.all] 50 (0, 0))
  map : CntAt w m h.l
theorem HvAt.lt {w : World} {b m : Nat} {h : Hv} (k : HvAt w b m h) : b < w.heap.size := blkLt k.blk
theorem HvAt.ne {w : World} {b m : Nat} {h : Hv} (k : HvAt w b m h) : b ≠ m := fun e => by
  have hm := k.map
  rw [← e] at hm
  exact MapIs.not_cells hm k.blk
theorem HvAt.keep {w w' : World} {b m : Nat} {h : Hv} (k : HvAt w b m h) (hb : w'.heap[b]? = w.heap[b]?) (hm : w'.heap[m]? = w.heap[m]?) : HvAt w' b m h := ⟨hb.trans k.blk, k.map.block hm⟩
theorem HvAt.below {w w' : World} {b m : Nat} {h : Hv} (k : HvAt w b m h) (hb : Below w.heap.size w w') : HvAt w' b m h := k.keep (hb.block _ k.lt) (hb.block _ k.map.lt)
theorem HvAt.turn {w w' : World} {b m : Nat} {h : Hv} {F : Nat → Prop} (k : HvAt w b m h) (t : Turn F w w') (hb : ¬ F b) (hm : ¬ F m) : HvAt w' b m h := k.keep (t.block _ k.lt hb) (t.block _ k.map.lt hm)
theorem hv_cells {w : World} {b : Nat} {x y z u : Value} (h : w.heap[b]? = some (.cells #[x, y, z, u] 50 (0, 0))) : w.cell? ⟨b, 0, none⟩ = some x ∧ w.cell? ⟨b, 1, none⟩ = some y ∧ w.cell? ⟨b, 2, none⟩ = some z ∧ w.cell? ⟨b, 3, none⟩ = some u := by
  refine ⟨?_, ?_, ?_, ?_⟩ <;> (rw [cell_of_row w b _ _ _ _ h]; rfl)
theorem hv_frees {w : World} {b : Nat} {x y z u : Value} (h : w.heap[b]? = some (.cells #[x, y, z, u] 50 (0, 0))) : w.frozen? ⟨b, 0, none⟩ = false ∧ w.frozen? ⟨b, 1, none⟩ = false ∧ w.frozen? ⟨b, 2, none⟩ = false ∧ w.frozen? ⟨b, 3, none⟩ = false :=
  ⟨frozen_of_row w b 0 _ _ h, frozen_of_row w b 1 _ _ h, frozen_of_row w b 2 _ _ h, frozen_of_row w b 3 _ _ h⟩
theorem hv_set2 {w : World} {b : Nat} {x y z u : Value} (h : w.heap[b]? = some (.cells #[x, y, z, u] 50 (0, 0))) (z' : Value) :
    ∃ w', w.setCell ⟨b, 2, none⟩ z' = w' ∧ w'.heap[b]? = some (.cells #[x, y, z', u] 50 (0, 0)) ∧ Only b w w' :=
  ⟨_, rfl, heap_setCell_same _ b 2 _ _ z' h, (Only.refl _ _).setCell _ _⟩
theorem hv_set3 {w : World} {b : Nat} {x y z u : Value} (h : w.heap[b]? = some (.cells #[x, y, z, u] 50 (0, 0))) (u' : Value) :
    ∃ w', w.setCell ⟨b, 3, none⟩ u' = w' ∧ w'.heap[b]? = some (.cells #[x, y, z, u'] 50 (0, 0)) ∧ Only b w w' :=
  ⟨_, rfl, heap_setCell_same _ b 3 _ _ u' h, (Only.refl _ _).setCell _ _⟩
def numB (n : Int) : Bool := decide (1 ≤ n) && decide (n ≤ 20)
theorem number_any (n : Int) (w : World) : Calls Tryd.prog 15 #[.int .i64 n] w fun e w' => e = .returned (.bool (numB n)) ∧ w' = w := by
  by_cases h1 : 1 ≤ n
  · by_cases h2 : n ≤ 20
    · rw [show numB n = true by unfold numB; rw [decide_eq_true h1, decide_eq_true h2]; rfl]
      go_enter Tryd.func15, Tryd.ntmps15
      go_wp2
      go_ret
      exact ⟨rfl, rfl⟩
    · rw [show numB n = false by unfold numB; rw [decide_eq_true h1, decide_eq_false h2]; rfl]
      go_enter Tryd.func15, Tryd.ntmps15
      go_wp2
      go_ret
      exact ⟨rfl, rfl⟩
  · rw [show numB n = false by unfold numB; rw [decide_eq_false h1]; rfl]
    go_enter Tryd.func15, Tryd.ntmps15
    go_wp2
    go_ret
    exact ⟨rfl, rfl⟩
theorem hnew_bad (n : Int) (w : World) (h : numB n = false) : Calls Tryd.prog 4 #[.int .i64 n] w fun e w' => e = .returned (.tuple #[.pointer none, .iface 47 (.int .i64 1)]) ∧ w' = w := by
  have hc := number_any n w
  rw [h] at hc
  go_enter Tryd.func4, Tryd.ntmps4
  go_wp2_with (go_at_call 15; go_must (refine hc.mono ?_; rintro e W3 ⟨rfl, hW3⟩; rw [hW3]; clear hW3 W3))
  exact bodyPost_ret (v := .tuple #[.pointer none, .iface 47 (.int .i64 1)]) (by simp [results, Tryd.results4, go_sem]) rfl ⟨rfl, rfl⟩
theorem hnew_ok (n : Int) (w : World) (h : numB n = true) : Calls Tryd.prog 4 #[.int .i64 n] w fun e w' => e = .returned (.tuple #[.pointer (some ⟨w.heap.size + 1, 0, none⟩), .nilIface]) ∧ HvAt w' (w.heap.size + 1) w.heap.size { n := n, less := 0, all := 0, l := [] } ∧ Below w.heap.size w w' ∧ w'.heap.size = w.heap.size + 2 := by
  have hc := number_any n w
  rw [h] at hc
  have b1 : Below w.heap.size w ((w.alloc (.map #[] 0)).alloc (.cells #[.int .i64 n, .map (some w.heap.size), .int .i64 0, .int .i64 0] 50)) := ((Below.refl _ _).alloc (Nat.le_refl _) _).alloc (by simp) _
  have h1 : HvAt ((w.alloc (.map #[] 0)).alloc (.cells #[.int .i64 n, .map (some w.heap.size), .int .i64 0, .int .i64 0] 50)) (w.heap.size + 1) w.heap.size { n := n, less := 0, all := 0, l := [] } := by
    refine ⟨?_, ?_⟩
    · have := heap_alloc_new (w.alloc (.map #[] 0)) (.cells #[.int .i64 n, .map (some w.heap.size), .int .i64 0, .int .i64 0] 50)
      simpa using this
    · exact (CntAt.new w).block (Below.heap_alloc _ _ _ (by simp))
  have HB := hidE b1
  have HH := hidE h1
  have hmm := @run_makeMap Tryd.prog
  clear b1 h1
  go_enter Tryd.func4, Tryd.ntmps4
  go_wp2_with (go_at_call 15; go_must (refine hc.mono ?_; rintro e W3 ⟨rfl, hW3⟩; rw [hW3]; clear hW3 W3))
  exact bodyPost_ret (v := .tuple #[.pointer (some ⟨w.heap.size + 1, 0, none⟩), .nilIface]) (by simp [results, Tryd.results4, go_sem]) rfl ⟨rfl, HH.out, HB.out, by simp⟩
theorem hall_any (b m : Nat) (h : Hv) (w : World) (k : HvAt w b m h) : Calls Tryd.prog 14 #[.pointer (some ⟨b, 0, none⟩)] w fun e w' => e = .returned (.int .i64 h.all) ∧ w' = w := by
  obtain ⟨c0, c1, c2, c3⟩ := hv_cells k.blk
  clear k
  go_enter Tryd.func14, Tryd.ntmps14
  go_wp2_with fail
  go_ret
  exact ⟨rfl, rfl⟩
/-- Where least stands. -/
def LstW (many u : Int) (todo : Int → Bool) (l : Cs) : Prop := u ≤ many ∧ (∀ p ∈ l, todo p.1 = false → u ≤ p.2) ∧ (u = many ∨ ∃ p ∈ l, u = p.2)
theorem LstW.step {many u x c : Int} {todo : Int → Bool} {l : Cs} (h : LstW many u todo l) (ha : ApC l) (hx : (x, c) ∈ l) : LstW many (min u c) (strike todo x) l := by
  obtain ⟨h1, h2, h3⟩ := h
  refine ⟨by omega, fun p hp ht => ?_, ?_⟩
  · by_cases e : p.1 = x
    · have := ap_one ha hx hp e
      subst this
      simp only
      omega
    · have := h2 p hp (by simpa [strike, e] using ht)
      omega
  · by_cases e : u ≤ c
    · rw [show min u c = u by omega]; exact h3
    · exact Or.inr ⟨_, hx, by simp only; omega⟩
set_option maxRecDepth 100000 in
set_option maxHeartbeats 8000000 in
theorem least_any (b m : Nat) (h : Hv) (many : Int) (w : World) (k : HvAt w b m h) : Calls Tryd.prog 18 #[.pointer (some ⟨b, 0, none⟩), .int .i64 many] w fun e w' => e = .returned (.int .i64 (leastL many h.l)) ∧ Below w.heap.size w w' := by
  obtain ⟨c0, c1, c2, c3⟩ := hv_cells k.blk
  have hcnt := k.map
  have hap := k.map.ap
  generalize h.l = l at hcnt hap ⊢
  have HL : Hid (∀ u, LstW many u (fun _ => false) l → u = leastL many l) := fun u hu => least_is hu.1 (fun p hp => hu.2.1 p hp rfl) hu.2.2
  generalize leastL many l = ans at HL ⊢
  clear k c0 c2 c3
  go_enter Tryd.func18, Tryd.ntmps18
  go_wp2_with (first
    | (at_range; refine wpList_range_c _ rfl _ rfl m l rfl hcnt ?_; intro w0 todo0 cnt0 hrg0 ht0 hg0 hs0)
    | go_in)
  go_frame
  have HT0 : Hid (LstW many many todo0 l) := ⟨Int.le_refl _, (fun p hp h0 => by rw [ht0 p hp] at h0; cases h0), Or.inl rfl⟩
  have HAP := hidE hap
  clear ht0 hcnt hap c1
  go_loopw [1] (fun v wr => ∃ (todo : Int → Bool) (cnt : Nat) (u : Int), v = .int .i64 u ∧ RngC wr m w.heap.size l todo cnt ∧ Hid (LstW many u todo l) ∧ Hid (Below w.heap.size w wr)) (fun _ wr => wr.rangeLeft m w.heap.size)
  case atStart => exact ⟨_, _, _, rfl, hrg0, HT0, ⟨hg0.os, hg0.tape, hg0.output, hg0.size, fun i hi => hg0.block i hi (by simp)⟩⟩
  case round =>
    obtain ⟨todo, cnt, u, rfl, hrg, HU, HB⟩ := hrel
    go_wp2_with (first
      | (at_next; refine wpList_next_c _ rfl _ rfl m w.heap.size l _ _ rfl hrg ?_ ?_)
      | go_in)
    · intro hl0
      have e : u = ans := HL.out u ⟨HU.out.1, fun p hp _ => HU.out.2.1 p hp (hl0 p.1 p.2 hp), HU.out.2.2⟩
      clear hl0
      go_wp2_with fail
      go_ret
      exact ⟨by rw [e]; rfl, HB.out⟩
    · intro x c w1 cnt1 hwx hmem hlx hrg1 hlt hg1 hs1 hen
      have HN := hidE (HU.out.step HAP.out hmem)
      have HB1 : Hid (Below w.heap.size w w1) := ⟨hg1.os.trans HB.out.os, hg1.tape.trans HB.out.tape, hg1.output.trans HB.out.output, Nat.le_trans HB.out.size hg1.size, fun i hi => (hg1.block i (Nat.lt_of_lt_of_le hi HB.out.size) (by simp; omega)).trans (HB.out.block i hi)⟩
      clear hmem hlx hg1 hwx
      go_wp2_with fail
      go_roundw
      case rel => exact ⟨_, _, _, rfl, hrg1, HN, HB1⟩
      case measure => rw [hrg1.left_eq, hrg.left_eq]; exact hlt
theorem strike_strike (todo : Int → Bool) (k : Int) : strike (strike todo k) k = strike todo k := by
  funext z; unfold strike; cases todo z <;> cases decide (z = k) <;> rfl
set_option maxRecDepth 100000 in
set_option maxHeartbeats 8000000 in
theorem take_any (b m : Nat) (h : Hv) (part : Int) (w : World) (k : HvAt w b m h) (h0 : 0 ≤ part) (h1 : part ≤ 4398046511104) (hp : PosC h.l) (hs : sumC h.l ≤ 4398046511104) (hl : h.l.length ≤ 1000) (hl0 : 0 ≤ h.less) (hl1 : h.less ≤ 4398046511104) :
    Calls Tryd.prog 19 #[.pointer (some ⟨b, 0, none⟩), .int .i64 part] w fun e w' => e = .returned (.tuple #[]) ∧ HvAt w' b m { n := h.n, less := h.less + part, all := h.all, l := takeL part h.l } ∧ Turn (fun i => i = b ∨ i = m) w w' := by
  have hb := k.blk
  have hne := k.ne
  have hblt := k.lt
  have hmlt := k.map.lt
  obtain ⟨c0, c1, c2, c3⟩ := hv_cells k.blk
  have hcnt := k.map
  have hap := k.map.ap
  have HM : Hid (∀ p ∈ h.l, 1 ≤ p.2 ∧ p.2 ≤ 4398046511104) := fun p hm => ⟨hp p hm, Int.le_trans (mem_sum hp p hm) hs⟩
  generalize h.l = l at hcnt hap HM hl ⊢
  generalize h.n = n at hb ⊢
  generalize h.less = less at hb hl0 hl1 c2 ⊢
  generalize h.all = al at hb ⊢
  have HBK := hidE hb
  have HAP := hidE hap
  have HL := hidE hl
  clear k hp hs c0 c2 c3 hb hap hl
  go_enter Tryd.func19, Tryd.ntmps19
  go_wp2_with (first
    | (at_range; refine wpList_range_c _ rfl _ rfl m l rfl hcnt ?_; intro w0 todo0 cnt0 hrg0 ht0 hg0 hs0)
    | go_in)
  go_frame
  have hrg00 : RngC w0 m w.heap.size (takeW part todo0 l) todo0 cnt0 := by rw [takeW_all part ht0]; exact hrg0
  have HT0 : Hid (Turn (fun i => i = m) w w0) := Turn.of_grown hg0 (fun g e => by cases e)
  clear ht0 hcnt c1 hg0 hs0 hrg0
  go_loopw [4] (fun _ wr => ∃ (todo : Int → Bool) (cnt : Nat), RngC wr m w.heap.size (takeW part todo l) todo cnt ∧ Hid (Turn (fun i => i = m) w wr)) (fun _ wr => wr.rangeLeft m w.heap.size)
  case atStart => exact ⟨_, _, hrg00, HT0⟩
  case round =>
    clear hrg00 HT0
    obtain ⟨todo, cnt, hrg, HT⟩ := hrel
    go_wp2_with (first
      | (at_next; refine wpList_next_c _ rfl _ rfl m w.heap.size _ _ _ rfl hrg ?_ ?_)
      | go_in)
    · intro hd0
      have hd : ∀ p ∈ l, todo p.1 = false := fun p hp => by
        cases ht : todo p.1
        · rfl
        · rw [hd0 p.1 p.2 (takeW_mem (c := p.2) hp ht)] at ht; cases ht
      have hm := hrg.owns
      rw [takeW_none part hd] at hm
      have hb := (HT.out.block b hblt hne).trans HBK.out
      obtain ⟨c0, c1, c2, c3⟩ := hv_cells hb
      obtain ⟨y0, y1, y2, y3⟩ := hv_frees hb
      obtain ⟨W4, hW4, x4, o4⟩ := hv_set2 hb (.int .i64 (less + part))
      have HF : Hid (HvAt W4 b m { n := n, less := less + part, all := al, l := takeL part l } ∧ Turn (fun i => i = b ∨ i = m) w W4) := by
        refine ⟨⟨x4, hm.block (o4.block m hne.symm)⟩, ?_⟩
        exact (HT.out.mono (fun i _ e => Or.inr e)).trans (Turn.of_only o4 (Or.inl rfl))
      have HW := hidE hW4
      clear hd0 hd hm hb x4 o4 hW4 hrg c0 c1 c3 y0 y1 y3
      go_wp2_with fail
      go_end0
      rw [HW.out]
      exact ⟨rfl, HF.out⟩
    · intro x c w1 cnt1 hwx hmem hlx hrg1 hlt hg1 hs1 hen
      have hin := takeW_inv HAP.out hmem hlx
      obtain ⟨hc1, hc2⟩ := HM.out _ hin
      simp only at hc1 hc2
      have T1 := HT.out.andThen (Turn.of_grown hg1 (F := fun i => i = w.heap.size) (fun g e => by cases e; rfl)) (fun i e => Or.inr (Nat.le_of_eq e.symm))
      have hb := (T1.block b hblt hne).trans HBK.out
      obtain ⟨c0, c1, c2, c3⟩ := hv_cells hb
      have HT1 := hidE T1
      have HLX := hidE hlx
      have HIN := hidE hin
      have HMEM := hidE hmem
      clear T1 hb c0 c2 c3 hg1 hlx hin hmem
      by_cases hc : part < c
      · have hll : (takeW part todo l).length ≤ 1000000 := by have := takeW_len part todo l; have := HL.out; omega
        have HC := hidE hc
        go_wp2_with (first
          | (refine wpList_set_c _ rfl _ _ _ rfl m w.heap.size _ _ _ rfl hrg1 hll x c (c - part) rfl rfl hwx HMEM.out ?_; intro w2 hrg2 hg2; go_frame)
          | go_in)
        have hrg3 : RngC w2 m w.heap.size (takeW part (strike todo x) l) (strike todo x) cnt1 := by
          rw [← takeW_set HAP.out HIN.out HLX.out HC.out]; exact hrg2
        go_roundw
        case rel => exact ⟨_, _, hrg3, HT1.out.trans (Turn.of_grown hg2 (fun g e => by cases e; rfl))⟩
        case measure => rw [hrg3.left_eq, hrg.left_eq]; exact hlt
      · have HC := hidE hc
        go_wp2_with (first
          | (at_delete; refine wpList_del_c _ rfl _ _ rfl m w.heap.size _ _ _ rfl hrg1 x rfl hwx ?_; intro w2 cnt2 hrg2 hle hg2; go_frame)
          | go_in)
        have hrg3 : RngC w2 m w.heap.size (takeW part (strike todo x) l) (strike todo x) cnt2 := by
          rw [← takeW_del HAP.out HIN.out HLX.out HC.out]
          rw [strike_strike] at hrg2
          exact hrg2
        go_roundw
        case rel => exact ⟨_, _, hrg3, HT1.out.trans (Turn.of_grown hg2 (fun g e => by cases e; rfl))⟩
        case measure => rw [hrg3.left_eq, hrg.left_eq]; omega
end Go.Proofs.YtchailjgikjhlaaDoor
