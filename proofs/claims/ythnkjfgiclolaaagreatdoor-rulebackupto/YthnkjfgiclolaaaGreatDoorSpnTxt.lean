/- What the program's 'word', 'read' and Print return (package span). Conditions: the library's table of powers of ten holds what its text lays; strconv.ErrSyntax and strconv.ErrRange hold errors; internal/bytealg.MaxLen holds a number. -/
import Derived.Test.YthnkjfgiclolaaaGreatDoorMgE
import Derived.Test.YthnkjfgiclolaaaGreatDoorMgF
import Derived.Test.YthnkjfgiclolaaaGreatDoorMgF
import Derived.Deep.DeepMust
namespace Go.Proofs.YthnkjfgiclolaaaGreatDoor
open Go.RowKit
set_option linter.unusedVariables false
set_option maxRecDepth 4000

theorem var_below {w w' : World} {name : String} {x : Array Value} (h : w.var? Tryz.prog name = some x) (hb : Below w.heap.size w w') : w'.var? Tryz.prog name = some x := by
  unfold World.var? at h ⊢
  cases hg : Tryz.prog.globalNamed name with
  | none => rw [hg] at h; exact h
  | some g =>
    rw [hg] at h
    simp only [Option.bind_some] at h ⊢
    have hlt : g < w.heap.size := by
      rcases Nat.lt_or_ge g w.heap.size with h1 | h1
      · exact h1
      · rw [Array.getElem?_eq_none h1] at h; simp at h
    rw [hb.block g hlt]; exact h
/-- What the library's variables hold. -/
structure TxE (w : World) : Prop where
  tab : Lib.TabIs Tryz.prog w "internal/strconv.uint64pow10" .u64 Lib.pow10Tab
  syn : ∃ tp p, w.var? Tryz.prog "strconv.ErrSyntax" = some #[.iface tp p]
  rng : ∃ tp p, w.var? Tryz.prog "strconv.ErrRange" = some #[.iface tp p]
  mx : ∃ m : Int, w.cell? ⟨3, 0, none⟩ = some (.int .i64 m)
theorem TxE.below {w w' : World} (h : TxE w) (hb : Below w.heap.size w w') : TxE w' := by
  refine ⟨?_, ?_, ?_, ?_⟩
  · have := h.tab
    unfold Lib.TabIs at this ⊢
    exact var_below this hb
  · obtain ⟨tp, p, e⟩ := h.syn; exact ⟨tp, p, var_below e hb⟩
  · obtain ⟨tp, p, e⟩ := h.rng; exact ⟨tp, p, var_below e hb⟩
  · obtain ⟨m, e⟩ := h.mx
    refine ⟨m, ?_⟩
    have hlt : 3 < w.heap.size := by
      rcases Nat.lt_or_ge 3 w.heap.size with h1 | h1
      · exact h1
      · simp [World.cell?, Array.getElem?_eq_none h1] at e
    rw [hb.cell (p := ⟨3, 0, none⟩) hlt]; exact e
theorem below_grownX {B : Nat} {w : World} (k : Nat) (os : Array Obj) (hB : B ≤ w.heap.size) : Below B w (Go.Sort.grow (w.drewN k) os) := by
  refine ⟨rfl, rfl, rfl, ?_, ?_⟩
  · simp [Go.Sort.grow, World.drewN]
  · intro j hj
    simp [Go.Sort.grow, World.drewN, Array.getElem?_append, Nat.lt_of_lt_of_le hj hB]
theorem digL_decX (n : Nat) : Lib.decDigits n = digL n := by
  induction n using Nat.strongRecOn with
  | _ n ih =>
    unfold Lib.decDigits
    by_cases h : n < 10
    · rw [dif_pos h, digL_lt h, UInt8.ofNat_add]; rfl
    · rw [dif_neg h, digL_ge h, ih (n / 10) (by omega), UInt8.ofNat_add]; rfl
theorem itoaX_any (n : Int) (w : World) (h0 : 0 ≤ n) (h1 : n ≤ 65535) (ht : TxE w) :
    Calls Tryz.prog 89 #[.int .i64 n] w fun e w' => e = .returned (.string (mkB (digL n.toNat))) ∧ Below w.heap.size w w' := by
  refine (Tryz.strconv_Itoa n (by omega) (by omega) w ht.tab).mono ?_
  rintro e w' ⟨rfl, k, os, rfl⟩
  refine ⟨?_, below_grownX k os (Nat.le_refl _)⟩
  unfold Lib.itoa
  rw [if_neg (by omega), digL_decX]; rfl
/-- One span as text. -/
def wordL (s : Sp) : List UInt8 := if s.1 = s.2 then digL s.1.toNat else digL s.1.toNat ++ [45] ++ digL s.2.toNat
theorem wordL_len {s : Sp} (h0 : 0 ≤ s.1) (h1 : s.1 ≤ s.2) (h2 : s.2 ≤ 65535) : (wordL s).length ≤ 200000 := by
  unfold wordL
  have := digL_len s.1.toNat
  have := digL_len s.2.toNat
  split
  · omega
  · simp; omega
theorem mk45 : (⟨#[45]⟩ : ByteArray) = mkB [45] := rfl
set_option maxHeartbeats 4000000 in
theorem word_any (p q : Int) (w : World) (h0 : 0 ≤ p) (h1 : p ≤ q) (h2 : q ≤ 65535) (ht : TxE w) :
    Calls Tryz.prog 90 #[.agg #[.int .i64 p, .int .i64 q]] w fun e w' => e = .returned (.string (mkB (wordL (p, q)))) ∧ Below w.heap.size w w' := by
  have b0 := (Below.refl w.heap.size w).alloc (Nat.le_refl _) (.cells #[.int .i64 p, .int .i64 q] 42)
  have hi1 := itoaX_any p (w.alloc (.cells #[.int .i64 p, .int .i64 q] 42)) h0 (by omega) (ht.below b0)
  have HI2 : Hid (∀ W, Below w.heap.size w W → Calls Tryz.prog 89 #[.int .i64 q] W fun e w' => e = .returned (.string (mkB (digL q.toNat))) ∧ Below W.heap.size W w') := fun W hW => itoaX_any q W (by omega) h2 (ht.below hW)
  have HB0 : Hid (Below w.heap.size w (w.alloc (.cells #[.int .i64 p, .int .i64 q] 42))) := b0
  have HS : Hid (w.heap.size < (w.alloc (.cells #[.int .i64 p, .int .i64 q] 42)).heap.size) := by rw [Hid]; simp
  have d0 : (w.alloc (.cells #[.int .i64 p, .int .i64 q] 42)).cell? ⟨w.heap.size, 0, none⟩ = some (.int .i64 p) := by simp
  have d1 : (w.alloc (.cells #[.int .i64 p, .int .i64 q] 42)).cell? ⟨w.heap.size, 1, none⟩ = some (.int .i64 q) := by simp
  have HD : Hid (∀ W, Below (w.alloc (.cells #[.int .i64 p, .int .i64 q] 42)).heap.size (w.alloc (.cells #[.int .i64 p, .int .i64 q] 42)) W → Below w.heap.size w W ∧ W.cell? ⟨w.heap.size, 0, none⟩ = some (.int .i64 p) ∧ W.cell? ⟨w.heap.size, 1, none⟩ = some (.int .i64 q)) := fun W hW => ⟨HB0.out.trans (hW.mono HB0.out.size), (hW.cell (p := ⟨w.heap.size, 0, none⟩) HS.out).trans d0, (hW.cell (p := ⟨w.heap.size, 1, none⟩) HS.out).trans d1⟩
  have hp5 := digL_len p.toNat
  have hq5 := digL_len q.toNat
  have hs1 : (mkB (digL p.toNat)).size ≤ 65536 := by rw [mkB_size]; omega
  have hs2 : (mkB (digL q.toNat)).size ≤ 65536 := by rw [mkB_size]; omega
  by_cases he : p = q
  · have hw : wordL (p, q) = digL p.toNat := by unfold wordL; rw [if_pos he]
    rw [hw]
    have hpq : (p == q) = true := by simpa using he
    clear hw he b0 d0 d1 HI2
    generalize mkB (digL p.toNat) = sp at hi1 hs1 ⊢
    go_enter Tryz.func90, Tryz.ntmps90
    go_upto_region 2 with (go_at_call 89; go_must (refine hi1.mono ?_; rintro e w1 ⟨rfl, b1⟩))
    obtain ⟨bw, e0, e1⟩ := HD.out w1 b1
    clear hi1
    go_wp2_with fail
    go_ret
    exact ⟨rfl, bw⟩
  · have hw : mkB (wordL (p, q)) = mkB (digL p.toNat) ++ ⟨#[45]⟩ ++ mkB (digL q.toNat) := by
      unfold wordL
      rw [if_neg (show ¬ (p, q).1 = (p, q).2 from he), mk45, mkB_append, mkB_append]
    rw [hw]
    have hpq : (p == q) = false := by simpa using he
    clear hw he b0 d0 d1
    generalize mkB (digL p.toNat) = sp at hi1 hs1 ⊢
    generalize mkB (digL q.toNat) = sq at HI2 hs2 ⊢
    go_enter Tryz.func90, Tryz.ntmps90
    go_upto_region 2 with (go_at_call 89; go_must (refine hi1.mono ?_; rintro e w1 ⟨rfl, b1⟩))
    obtain ⟨bw, e0, e1⟩ := HD.out w1 b1
    have hi2 := HI2.out w1 bw
    clear hi1
    go_wp2_with (go_at_call 89; go_must (refine hi2.mono ?_; rintro e w2 ⟨rfl, b2⟩))
    go_ret
    exact ⟨rfl, bw.trans (b2.mono bw.size)⟩
/-- Spans as text: of those that are Normed. -/
def textL (R : List Sp) : List UInt8 := if R = [] then [45] else Lib.join (R.map wordL) [44]
def printL (l : List Sp) : List UInt8 := textL (setP (inB l))
theorem join_len : ∀ (xs : List (List UInt8)) (b : Nat), (∀ x ∈ xs, x.length ≤ b) → (Lib.join xs [44]).length ≤ xs.length * (b + 1)
  | [], b, _ => by simp [Lib.join_nil]
  | [x], b, h => by rw [Lib.join_one]; have := h x (by simp); simp; omega
  | x :: y :: r, b, h => by
      have ih := join_len (y :: r) b (fun z hz => h z (by simp [hz]))
      have e : Lib.join (x :: y :: r) [44] = x ++ [44] ++ Lib.join (y :: r) [44] := by
        rw [Lib.join_cons, Lib.join_cons]; simp [Lib.joinTail]
      rw [e]
      have := h x (by simp)
      simp only [List.length_append, List.length_cons, List.length_nil] at ih ⊢
      rw [Nat.add_mul, Nat.one_mul]; omega
theorem mkB_lists (R : List Sp) : ((R.map fun s => mkB (wordL s)).map fun x => x.data.toList) = R.map wordL := by
  rw [List.map_map]
  apply List.map_congr_left
  intro s _
  exact mkB_toList _
set_option maxHeartbeats 8000000 in
theorem spPrint_any (v : Value) (l : List Sp) (w : World) (hv : Spns w v l) (hn : l.length ≤ 140737488355328) (ht : TxE w) :
    Calls Tryz.prog 48 #[v] w fun e w' => e = .returned (.tuple #[.string (if spE l = 0 then mkB (printL l) else ⟨#[]⟩), erV (spE l)]) ∧ Below w.heap.size w w' := by
  have hc := norm_any v l w hv hn
  by_cases h0 : spE l = 0
  case neg =>
    rw [if_neg h0]
    rw [erV_n h0] at hc ⊢
    generalize spE l = z at hc
    clear h0 hv
    go_enter Tryz.func48, Tryz.ntmps48
    go_wp2_with (go_at_call 86; go_must (refine hc.mono ?_; rintro e w1 ⟨v1, rfl, own1, b1⟩))
    go_ret2
    exact ⟨rfl, b1⟩
  case pos =>
  rw [if_pos h0, h0, erV_0]
  rw [h0, erV_0, resL_0] at hc
  have hR := (setP_is (inB l)).1
  have hlen : (setP (inB l)).length ≤ 200 := Nat.le_trans (setP_few (of_spE h0).2) (of_spE h0).1
  unfold printL
  generalize setP (inB l) = R at hc hR hlen ⊢
  obtain ⟨N, hN⟩ : ∃ N, R.length = N := ⟨_, rfl⟩
  have hc := hc.mono (R' := fun e w' => ∃ a1 c1, e = .returned (.tuple #[.slice a1 N c1, .nilIface]) ∧ Spns w' (.slice a1 N c1) R ∧ Below w.heap.size w w') (fun e w' h => by
    obtain ⟨v1, rfl, own1, b1⟩ := h
    obtain ⟨a1, c1, rfl⟩ := own1.len
    rw [hN] at own1 ⊢
    exact ⟨a1, c1, rfl, own1.spns, b1⟩)
  rw [hN] at hlen
  rcases Nat.eq_zero_or_pos N with hz | hz
  · have hzz : R = [] := List.length_eq_zero_iff.1 (by omega)
    subst hzz hz
    have e : textL [] = [45] := rfl
    rw [e]
    clear hR hN hlen hv e
    go_enter Tryz.func48, Tryz.ntmps48
    go_wp2_with (go_at_call 86; go_must (refine hc.mono ?_; rintro e w1 ⟨a1, c1, rfl, sp1, b1⟩))
    go_ret2
    exact ⟨rfl, b1⟩
  have hne : ¬ R = [] := fun e => by subst e; simp at hN; omega
  have HT : Hid (mkB (textL R) = ⟨(Lib.join ((R.map fun s => mkB (wordL s)).map fun x => x.data.toList) (⟨#[44]⟩ : ByteArray).data.toList).toArray⟩) := by
    unfold Hid textL
    rw [if_neg hne, mkB_lists]; rfl
  have hjl : (Lib.join ((R.map fun s => mkB (wordL s)).map fun x => x.data.toList) (⟨#[44]⟩ : ByteArray).data.toList).length ≤ 140737488355328 := by
    rw [mkB_lists]
    have := join_len (R.map wordL) 200000 (fun x hx => by
      obtain ⟨s, hs, rfl⟩ := List.mem_map.1 hx
      have := hR.1 s hs
      exact wordL_len this.1 this.2.1 this.2.2)
    rw [List.length_map, hN] at this
    have h4 : (⟨#[44]⟩ : ByteArray).data.toList = [44] := rfl
    rw [h4]
    have : N * (200000 + 1) ≤ 200 * 200001 := Nat.mul_le_mul hlen (by omega)
    omega
  have HJL : Hid ((Lib.join ((R.map fun s => mkB (wordL s)).map fun x => x.data.toList) (⟨#[44]⟩ : ByteArray).data.toList).length ≤ 140737488355328) := hjl
  have HN : Hid (R.length = N) := hN
  have HR : Hid (Nrm R) := hR
  have HTE : Hid (TxE w) := ht
  have hz0 : ((N : Int) == 0) = false := by simp; omega
  obtain ⟨tx, htx⟩ : ∃ tx, mkB (textL R) = tx := ⟨_, rfl⟩
  rw [htx] at HT ⊢
  clear hR hN hv hne hjl h0 ht htx
  go_enter Tryz.func48, Tryz.ntmps48
  go_wp2_with (go_at_call 86; go_must (refine hc.mono ?_; rintro e w1 ⟨a1, c1, rfl, sp1, b1⟩))
  have H1 : Hid (Spns w1 (.slice a1 N c1) R) := sp1
  clear sp1 hc
  go_loopw [6, 22] (fun v6 i wr => ∃ k : Nat, k ≤ N ∧ i = .int .i64 (k : Int) ∧ OwnS wr w1.heap.size v6 ((R.take k).map fun s => mkB (wordL s)) ∧ Below w1.heap.size w1 wr) (fun _ i _ => ((N : Int) - intOf i).toNat)
  case atStart => exact ⟨0, by omega, rfl, OwnS.nil _ _, Below.refl _ _⟩
  case round =>
    obtain ⟨k, hk, rfl, hown, hb⟩ := hrel
    by_cases hlt : k < N
    · have hlt' : (k : Int) < (N : Int) := by omega
      have hkl : k < R.length := by rw [HN.out]; exact hlt
      obtain ⟨b, off, rfl, hbl, hcc, hcm, hcs⟩ := H1.out.shape (by omega)
      obtain ⟨c0, c1'⟩ := (hcs k hkl).keep (hb.block b hbl)
      unfold maxLen at hcm
      have HM : Hid (((R.take (k + 1)).map fun s => mkB (wordL s)) = ((R.take k).map fun s => mkB (wordL s)) ++ [mkB (wordL R[k])]) := by
        rw [Hid, List.take_succ_eq_append_getElem hkl, List.map_append]; rfl
      have hok := HR.out.1 R[k] (List.getElem_mem _)
      have hll : ((R.take k).map fun s => mkB (wordL s)).length ≤ 1000 := by rw [List.length_map, List.length_take]; omega
      generalize R[k] = s at c0 c1' HM hok
      obtain ⟨p, q⟩ := s
      simp only at c0 c1' hok
      have bw := b1.trans (hb.mono b1.size)
      have ba := (Below.refl wr.heap.size wr).alloc (Nat.le_refl _) (.cells #[.int .i64 p, .int .i64 q] 42)
      have hwd := word_any p q (wr.alloc (.cells #[.int .i64 p, .int .i64 q] 42)) hok.1 hok.2.1 hok.2.2 ((HTE.out.below bw).below ba)
      generalize mkB (wordL (p, q)) = wd at hwd HM
      generalize ((R.take k).map fun s => mkB (wordL s)) = ws at hown HM hll
      have HOW : Hid (∀ W, Below (wr.alloc (.cells #[.int .i64 p, .int .i64 q] 42)).heap.size (wr.alloc (.cells #[.int .i64 p, .int .i64 q] 42)) W → OwnS W w1.heap.size u6 ws ∧ Below w1.heap.size w1 W) := fun W hW => ⟨ownsRow_below (ownsRow_below hown ba) hW, (hb.trans (ba.mono hb.size)).trans (hW.mono (by have := hb.size; simp; omega))⟩
      clear hcs hown hb bw ba hok
      go_upto_region 10 with fail
      go_wp2_with (first
        | (go_at_call 90; go_must (refine hwd.mono ?_; rintro e w2 ⟨rfl, b2⟩; obtain ⟨own2, bb2⟩ := HOW.out w2 b2; have hz2 := bb2.size))
        | (at_builtin; go_must (refine wpList_append_str rfl (.tmp 26) (.tmp 29) rfl w1.heap.size u6 ws rfl own2 wd rfl (by omega) hz2 ?_; intro v3 w3 own3 grow3)))
      go_roundw
      case rel =>
        refine ⟨k + 1, by omega, by go_num, by rw [HM.out]; exact own3, ?_⟩
        refine bb2.trans (((Below.refl w1.heap.size w2).alloc hz2 _).trans (grown_below grow3 (by simp; omega) (fun j hj => ?_)))
        exact (World.ownsRow.lt own2 j hj).1
      case measure => simp [intOf]; omega
    · have hlt' : ¬ (k : Int) < (N : Int) := by omega
      have hT : ((R.take k).map fun s => mkB (wordL s)) = (R.map fun s => mkB (wordL s)) := by rw [List.take_of_length_le (by rw [HN.out]; omega)]
      rw [hT] at hown
      obtain ⟨g, cap, rfl, hbg, hgl, hcl, hcm⟩ := hown.shape (by rw [List.length_map]; have := HN.out; omega)
      have hjo := Tryz.strings_Join g 0 cap (R.map fun s => mkB (wordL s)) ⟨#[44]⟩ wr (fun j x hx => by
        rw [Nat.zero_add]
        obtain ⟨hj, rfl⟩ := List.getElem?_eq_some_iff.1 hx
        exact hown.cell rfl j hj) hgl (by rw [List.length_map]; have := HN.out; omega) hcl HJL.out
      rw [← HT.out] at hjo
      have bw := b1.trans (hb.mono b1.size)
      generalize (R.map fun s => mkB (wordL s)).length = M at hjo ⊢
      clear hT hown hcl hcm
      go_wp2_with (go_at_call 76; go_must (refine hjo.mono ?_; rintro e w5 ⟨rfl, b5⟩))
      go_ret2
      exact ⟨rfl, bw.trans (b5.mono bw.size)⟩
end Go.Proofs.YthnkjfgiclolaaaGreatDoor
