/- What ranked of package heavy returns: all counts, the greatest first. -/
import Derived.Test.YtchailjgikjhlaaDoorHvSrt
namespace Go.Proofs.YtchailjgikjhlaaDoor
open Go.RowKit Go.Maps
set_option linter.unusedVariables false

def ctOf (less : Int) (p : Int × Int) : Ct := { key := p.1, many := p.2, less := less }
def doneB (todo : Int → Bool) (p : Int × Int) : Bool := !todo p.1
theorem done_step {l : Cs} (ha : ApC l) {x c : Int} (h : (x, c) ∈ l) {todo : Int → Bool} (ht : todo x = true) : (l.filter (doneB (strike todo x))).Perm ((x, c) :: l.filter (doneB todo)) := by
  have h1 := (filter_one ha h).filter (doneB (strike todo x))
  refine h1.trans ?_
  have e1 : doneB (strike todo x) (x, c) = true := by simp [doneB, strike]
  rw [List.filter_cons_of_pos e1, List.filter_filter]
  refine List.Perm.cons _ ?_
  rw [List.filter_congr (q := doneB todo)]
  intro p hp
  by_cases e : p.1 = x
  · simp [doneB, strike, neC, e, ht]
  · simp [doneB, strike, neC, e]
theorem done_none {l : Cs} {todo : Int → Bool} (h : ∀ p ∈ l, todo p.1 = true) : l.filter (doneB todo) = [] := List.filter_eq_nil_iff.2 (fun p hp => by simp [doneB, h p hp])
theorem done_all {l : Cs} {todo : Int → Bool} (h : ∀ p ∈ l, todo p.1 = false) : l.filter (doneB todo) = l := List.filter_eq_self.2 (fun p hp => by simp [doneB, h p hp])
/-- Where ranked stands. -/
structure RkS (w : World) (b m : Nat) (h : Hv) (todo : Int → Bool) (v : Value) (ks : List Ct) (X : World) : Prop where
  hv : HvAt X b m h
  own : OwnCt X (w.heap.size + 1) v ks
  pm : ks.Perm ((h.l.filter (doneB todo)).map (ctOf h.less))
  bel : Below w.heap.size w X
  sz : w.heap.size + 1 ≤ X.heap.size
theorem RkS.below {w X X' : World} {b m : Nat} {h : Hv} {todo : Int → Bool} {v : Value} {ks : List Ct} (k : RkS w b m h todo v ks X) (hb : Below X.heap.size X X') : RkS w b m h todo v ks X' :=
  ⟨k.hv.below hb, OwnN.below k.own hb, k.pm, k.bel.trans (hb.mono k.bel.size), Nat.le_trans k.sz hb.size⟩
theorem RkS.next {w X X' : World} {b m : Nat} {h : Hv} {todo : Int → Bool} {v : Value} {ks : List Ct} (k : RkS w b m h todo v ks X) (hbl : b < w.heap.size) (hml : m < w.heap.size) (hg : X.grownBy X' (some w.heap.size)) : RkS w b m h todo v ks X' := by
  have hb0 : b < X.heap.size := k.hv.lt
  have hm0 : m < X.heap.size := k.hv.map.lt
  refine ⟨k.hv.keep (hg.block _ hb0 (by simp; omega)) (hg.block _ hm0 (by simp; omega)), OwnN.blk k.own (fun j hj => hg.block j (OwnN.block k.own j hj).2 (by have := (OwnN.block k.own j hj).1; simp; omega)), k.pm, ?_, Nat.le_trans k.sz hg.size⟩
  exact ⟨hg.os.trans k.bel.os, hg.tape.trans k.bel.tape, hg.output.trans k.bel.output, Nat.le_trans k.bel.size hg.size, fun i hi => (hg.block i (Nat.lt_of_lt_of_le hi k.bel.size) (by simp; omega)).trans (k.bel.block i hi)⟩
theorem RkS.push {w X X' : World} {b m : Nat} {h : Hv} {todo : Int → Bool} {v v' : Value} {ks : List Ct} (k : RkS w b m h todo v ks X) (hbl : b < w.heap.size) (hml : m < w.heap.size) {x c : Int} (hx : (x, c) ∈ h.l) (ht : todo x = true) (o : Obj) (hg : (X.alloc o).grownBy X' v.ownBlock) (hown : OwnCt X' (w.heap.size + 1) v' (ks ++ [ctOf h.less (x, c)])) :
    RkS w b m h (strike todo x) v' (ks ++ [ctOf h.less (x, c)]) X' := by
  have hno : ∀ i, i ≤ w.heap.size → some i ≠ v.ownBlock := fun i hi e => by
    have := OwnN.block k.own i e.symm
    omega
  have hb0 : b < X.heap.size := k.hv.lt
  have hm0 : m < X.heap.size := k.hv.map.lt
  have ba : Below X.heap.size X (X.alloc o) := (Below.refl _ _).alloc (Nat.le_refl _) _
  have ka := k.hv.below ba
  refine ⟨ka.keep (hg.block _ ka.lt (hno b (by omega))) (hg.block _ ka.map.lt (hno m (by omega))), hown, ?_, ?_, ?_⟩
  · have h1 := ((done_step k.hv.map.ap hx ht).map (ctOf h.less)).symm
    refine List.Perm.trans ?_ h1
    rw [List.map_cons]
    exact (List.perm_append_singleton _ _).trans (List.Perm.cons _ k.pm)
  · have hs : X.heap.size ≤ (X.alloc o).heap.size := by simp
    exact ⟨hg.os.trans k.bel.os, hg.tape.trans k.bel.tape, hg.output.trans k.bel.output, Nat.le_trans k.bel.size (Nat.le_trans hs hg.size), fun i hi => (hg.block i (Nat.lt_of_lt_of_le hi (Nat.le_trans k.bel.size hs)) (hno i (by omega))).trans ((ba.block i (Nat.lt_of_lt_of_le hi k.bel.size)).trans (k.bel.block i hi))⟩
  · have := k.sz
    have := hg.size
    have : X.heap.size ≤ (X.alloc o).heap.size := by simp
    omega
set_option maxRecDepth 100000 in
set_option maxHeartbeats 16000000 in
theorem ranked_any (b m : Nat) (h : Hv) (w : World) (k : HvAt w b m h) (hl : h.l.length ≤ 1000) :
    Calls Tryd.prog 23 #[.pointer (some ⟨b, 0, none⟩)] w fun e w' => ∃ v qs, e = .returned v ∧ Cts w' v qs ∧ qs.Perm (h.l.map (ctOf h.less)) ∧ qs.Pairwise (fun p q => ¬ LtC q p) ∧ Below w.heap.size w w' := by
  obtain ⟨Q, hQ⟩ : ∃ Q : Ending → World → Prop, Q = fun e w' => ∃ v qs, e = .returned v ∧ Cts w' v qs ∧ qs.Perm (h.l.map (ctOf h.less)) ∧ qs.Pairwise (fun p q => ¬ LtC q p) ∧ Below w.heap.size w w' := ⟨_, rfl⟩
  have HQ := hidE hQ
  rw [← hQ]
  clear hQ
  obtain ⟨c0, c1, c2, c3⟩ := hv_cells k.blk
  have hcnt := k.map
  have hblt := k.lt
  have hmlt := k.map.lt
  have HK := hidE k
  have HL := hidE hl
  obtain ⟨l, hll⟩ : ∃ l, h.l = l := ⟨_, rfl⟩
  have HLL := hidE hll
  rw [hll] at hcnt
  clear k hl hll c0 c2 c3
  go_enter Tryd.func23, Tryd.ntmps23
  go_wp2_with (first
    | (at_range; refine wpList_range_c _ rfl _ rfl m l rfl hcnt ?_; intro w0 todo0 cnt0 hrg0 ht0 hg0 hs0)
    | go_in)
  go_frame
  have HR0 : Hid (RkS w b m h todo0 (.slice none 0 0) [] w0) := by
    refine ⟨HK.out.keep (hg0.block _ hblt (by simp)) (hg0.block _ hmlt (by simp)), OwnN.nil _ _, ?_, ⟨hg0.os, hg0.tape, hg0.output, hg0.size, fun i hi => hg0.block i hi (by simp)⟩, by omega⟩
    rw [HLL.out, done_none ht0]
    exact .refl _
  clear ht0 hcnt c1 hg0 hs0
  go_loopw [3] (fun v wr => ∃ (todo : Int → Bool) (cnt : Nat) (ks : List Ct), RngC wr m w.heap.size l todo cnt ∧ Hid (RkS w b m h todo v ks wr)) (fun _ wr => wr.rangeLeft m w.heap.size)
  case atStart => exact ⟨_, _, _, hrg0, HR0⟩
  case round =>
    clear hrg0 HR0
    obtain ⟨todo, cnt, ks, hrg, HR⟩ := hrel
    go_wp2_with (first
      | (at_next; refine wpList_next_c _ rfl _ rfl m w.heap.size _ _ _ rfl hrg ?_ ?_)
      | go_in)
    · intro hd0
      have hR := HR.out
      have hkl : ks.length ≤ 1000 := by
        rw [hR.pm.length_eq, List.length_map]
        exact Nat.le_trans (List.length_filter_le _ _) HL.out
      have hcs := csort_keeps wr (w.heap.size + 1) u3 ks hR.own hkl hR.sz
      have HPM : Hid (ks.Perm (h.l.map (ctOf h.less))) := by
        have := hR.pm
        rw [done_all (fun p hp => hd0 p.1 p.2 (by rw [← HLL.out]; exact hp))] at this
        exact this
      clear hd0 hrg hkl hR
      go_upto_region 7 with (go_at_call 26; go_must (refine hcs.mono ?_; rintro e W3 ⟨rfl, qs, q1, q2, q3, q4, q5⟩))
      have HFIN : Hid (Q (.returned u3) W3) := by
        show Q _ _
        rw [HQ.out]
        exact ⟨_, qs, rfl, q3, q1.trans HPM.out, q2, HR.out.bel.trans (q4.mono (Nat.le_succ _))⟩
      clear q1 q2 q3 q4 q5 hcs
      go_wp2_with fail
      exact HFIN.out
    · intro x c w1 cnt1 hwx hmem hlx hrg1 hlt hg1 hs1 hen
      have hR := HR.out.next hblt hmlt hg1
      have hmem' : (x, c) ∈ h.l := by rw [HLL.out]; exact hmem
      have hcc := count_any b m h x w1 hR.hv hwx
      rw [getC_mem hR.hv.map.ap hmem'] at hcc
      unfold cntV at hcc
      obtain ⟨less, hless⟩ : ∃ less, h.less = less := ⟨_, rfl⟩
      have HLS := hidE hless
      rw [hless] at hcc
      have HR1 := hidE hR
      have HME := hidE hmem'
      have HLX := hidE hlx
      have hkl : ks.length ≤ 1000 := by
        rw [hR.pm.length_eq, List.length_map]
        exact Nat.le_trans (List.length_filter_le _ _) HL.out
      clear hR hmem hmem' hless hlx hg1 hwx
      go_upto_region 5 with fail
      clear hen
      have HRG1 := hidE hrg1
      have HLT := hidE hlt
      clear hrg1 hlt
      go_wp2_with (first
        | (go_at_call 8; go_must (refine hcc.mono ?_; rintro e W2 ⟨rfl, b2⟩; have hown2 := (HR1.out.below b2).own; have hbase2 := (HR1.out.below b2).sz))
        | (at_builtin; refine wpList_append_ct rfl (.tmp 14) (.tmp 18) rfl (w.heap.size + 1) u3 ks rfl hown2 { key := x, many := c, less := less } rfl (by omega) hbase2 ?_; intro v4 W4 hown4 hg4; go_frame)
        | go_in)
      have hrg4 : RngC W4 m w.heap.size l (strike todo x) cnt1 := by
        have hno : ∀ i, i ≤ w.heap.size → some i ≠ u3.ownBlock := fun i hi e => by
          have := OwnN.block hown2 i e.symm
          omega
        have h2 := HRG1.out.kept (row := none) ⟨b2.os, b2.tape, b2.output, b2.size, fun i hi _ => b2.block i hi⟩ (by simp) (by simp)
        exact (h2.kept (World.grownBy_alloc W2 _ none) (by simp) (by simp)).kept hg4 (hno m (by omega)) (hno _ (Nat.le_refl _))
      have HR4 : Hid (RkS w b m h (strike todo x) v4 (ks ++ [ctOf h.less (x, c)]) W4) := by
        refine (HR1.out.below b2).push hblt hmlt HME.out HLX.out _ hg4 ?_
        rw [HLS.out]
        exact hown4
      have HLT2 := HLT.out
      clear hown2 hown4 hg4 hbase2 b2 hcc HRG1
      go_roundw
      case rel => exact ⟨_, _, _, hrg4, HR4⟩
      case measure => rw [hrg4.left_eq, hrg.left_eq]; exact HLT2
end Go.Proofs.YtchailjgikjhlaaDoor
