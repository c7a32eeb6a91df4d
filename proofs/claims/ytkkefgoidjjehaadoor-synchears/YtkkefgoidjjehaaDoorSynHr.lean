/- What Hear of package sync's Hearer returns: the notes that come out with a note that comes. -/
import Derived.Test.YtkkefgoidjjehaaDoorSynNx
import Derived.BigRegion
namespace Go.Proofs.YtkkefgoidjjehaaDoor
open Go.RowKit Go.Maps
set_option linter.unusedVariables false

/-- A hearer, and a note beside it. -/
def HeN (ν : Nat → Nt) (X : World) (b m s : Nat) (W : List Nat) (B : Nat) (N : Nt) : Prop := HeAt ν X b m s W ∧ NtAt X B N
theorem HeN.drew {ν : Nat → Nt} {X : World} {b m s : Nat} {W : List Nat} {B : Nat} {N : Nt} (h : HeN ν X b m s W B N) : HeN ν X.drew b m s W B N := ⟨h.1.drew, h.2⟩
theorem HeN.alloc {ν : Nat → Nt} {X : World} {b m s : Nat} {W : List Nat} {B : Nat} {N : Nt} (h : HeN ν X b m s W B N) (o : Obj) : HeN ν (X.alloc o) b m s W B N := ⟨h.1.alloc o, h.2.alloc o⟩
theorem he_look {ν : Nat → Nt} {b m s : Nat} {W : List Nat} {X : World} (h : HeAt ν X b m s W) (j : Nat) (hj : j < 900000) : (Instr.lookup 65 (.map (some m)) (.int .i64 (j : Int)) true).run Tryd.prog X = .ok (.tuple #[ntV (if j ∈ W then ν j else zeroN), .bool (decide (j ∈ W))]) X := by
  by_cases hm : j ∈ W
  · rw [if_pos hm, decide_eq_true hm]
    exact h.2.lookOk lawI Tryd.underlying65 (zeroNt X) (keyI (by omega)) (litN_mem hm)
  · rw [if_neg hm, decide_eq_false hm]
    exact h.2.lookOkNo lawI Tryd.underlying65 (zeroNt X) (keyI (by omega)) (litN_no hm)
set_option maxRecDepth 100000 in
set_option maxHeartbeats 16000000 in
theorem heHear_any (ν : Nat → Nt) (hν : ∀ j, (ν j).seq = (j : Int)) (b m s : Nat) (W : List Nat) (j : Nat) (w : World) (h : HeAt ν w b m s W) (hs : s < 800000) (hW : s + W.length + 1 < 900000) (hj1 : 1 ≤ j) (hj2 : j ≤ s + 200) (hE : ntE (ν j) = 0) (hL : Lives w) :
    Calls Tryd.prog 9 #[.pointer (some ⟨b, 0, none⟩), ntV (ν j)] w fun e w' => ∃ v k, e = .returned (.tuple #[v, .nilIface]) ∧ (hearS s W j).1 = s + k ∧ OwnNt w' w.heap.size v (outN ν s k) ∧ HeAt ν w' b m (s + k) (hearS s W j).2 ∧ Turn (Two b m) w w' := by
  have hjq := hν j
  obtain ⟨N, hN⟩ : ∃ N, ν j = N := ⟨_, rfl⟩
  rw [hN] at hE hjq ⊢
  have n1 := NtAt.new w N
  have b1 : Below w.heap.size w (w.alloc (.cells #[.int .i64 N.what, .int .i64 N.seq, .int .i64 N.fl.key.kind, .int .i64 N.fl.key.src, .int .i64 N.fl.key.frm, .int .i64 N.fl.key.dst, .int .i64 N.fl.key.too, .int .i64 N.fl.st, .int .i64 N.fl.unt, .int .i64 N.fl.stp, .int .i64 N.fl.h0, .int .i64 N.fl.h1, .int .i64 N.fl.w0, .int .i64 N.fl.w1, .bool N.fl.d0, .bool N.fl.d1, .int .i64 N.fl.num] 29)) := (Below.refl _ _).alloc (Nat.le_refl _) _
  obtain ⟨W1, hW1⟩ : ∃ W1, w.alloc (.cells #[.int .i64 N.what, .int .i64 N.seq, .int .i64 N.fl.key.kind, .int .i64 N.fl.key.src, .int .i64 N.fl.key.frm, .int .i64 N.fl.key.dst, .int .i64 N.fl.key.too, .int .i64 N.fl.st, .int .i64 N.fl.unt, .int .i64 N.fl.stp, .int .i64 N.fl.h0, .int .i64 N.fl.h1, .int .i64 N.fl.w0, .int .i64 N.fl.w1, .bool N.fl.d0, .bool N.fl.d1, .int .i64 N.fl.num] 29) = W1 := ⟨_, rfl⟩
  rw [hW1] at n1 b1
  have cC := ntChk_any N W1 (hL.below b1)
  rw [hE, show errV 0 = .nilIface from rfl] at cC
  unfold ntV at cC ⊢
  have HJ := hidE hjq
  have e0 : (N.seq == 0) = false := by rw [hjq]; simp; omega
  have HNU := hidE hν
  have HNN := hidE hN
  clear hE hL hν hN hjq
  go_enter Tryd.func9, Tryd.ntmps9
  go_upto_region 1 with fail
  try rw [hW1]
  clear hW1
  go_upto_region 4 with (first | (refine wpList_load_nt rfl (.tmp 3) rfl _ _ rfl n1 ?_) | (go_at_call 17; refine cC.mono ?_; rintro e w2 ⟨rfl, b2⟩))
  have n2 := n1.below n1.lt b2
  have b2' := b1.trans (b2.mono b1.size)
  have h2 := h.below (Nat.le_refl _) b2'
  clear n1 b1 b2 cC
  obtain ⟨c0, c1⟩ := h2.cells
  have q1 := n2.cells.2.1
  go_upto_region 6 with fail
  clear e0
  have HD : Hid (wrap64 (N.seq - (s : Int)) ≤ 200) := by
    show wrap64 (N.seq - (s : Int)) ≤ 200
    rw [HJ.out]
    unfold wrap64; omega
  go_cut [25] (fun v25 wc => v25 = .bool false ∧ wc = w2.drew)
  case first =>
    go_region
    all_goals (go_wp2_with fail; go_meet; case rel => exact ⟨by simpa using HD.out, rfl⟩)
  case rest =>
    obtain ⟨rfl, hwc⟩ := hcut
    rw [hwc]
    clear hwc c0 c1 q1 HD
    have h3 := h2.drew
    have n3 : NtAt w2.drew w.heap.size N := n2
    have b3 : Below w.heap.size w w2.drew := b2'.drew
    obtain ⟨X3, hX3⟩ : ∃ X3, w2.drew = X3 := ⟨_, rfl⟩
    rw [hX3] at h3 n3 b3 ⊢
    clear hX3 h2 n2 b2'
    obtain ⟨M, HM⟩ : ∃ M, Hid ((if j ∈ W then ν j else zeroN) = M) := ⟨_, rfl⟩
    obtain ⟨y, HY⟩ : ∃ y, Hid (decide (j ∈ W) = y) := ⟨_, rfl⟩
    have HK : Hid (∀ X, HeN ν X b m s W w.heap.size N → ((X.cell? ⟨b, 0, none⟩ = some (.int .i64 (s : Int)) ∧ X.cell? ⟨b, 1, none⟩ = some (.map (some m)) ∧ X.cell? ⟨w.heap.size, 1, none⟩ = some (.int .i64 N.seq) ∧ (Instr.lookup 65 (.map (some m)) (.int .i64 N.seq) true).run Tryd.prog X = .ok (.tuple #[.agg #[.int .i64 M.what, .int .i64 M.seq, .int .i64 M.fl.key.kind, .int .i64 M.fl.key.src, .int .i64 M.fl.key.frm, .int .i64 M.fl.key.dst, .int .i64 M.fl.key.too, .int .i64 M.fl.st, .int .i64 M.fl.unt, .int .i64 M.fl.stp, .int .i64 M.fl.h0, .int .i64 M.fl.h1, .int .i64 M.fl.w0, .int .i64 M.fl.w1, .bool M.fl.d0, .bool M.fl.d1, .int .i64 M.fl.num], .bool y]) X) ∧ HeN ν X b m s W w.heap.size N)) := by
      intro X hX
      have e := he_look hX.1 j (by omega)
      rw [HM.out, HY.out] at e
      exact ⟨⟨hX.1.cells.1, hX.1.cells.2, hX.2.cells.2.1, by rw [HJ.out]; exact e⟩, hX⟩
    have hS := HK.out X3 ⟨h3, n3⟩
    go_upto_region 8 with fail
    go_cut [7, 8] (fun v7 v8 wc => v8 = .bool y ∧ Hid (HeAt ν wc b m s W) ∧ Hid (NtAt wc w.heap.size N) ∧ Hid (Below X3.heap.size X3 wc))
    case first =>
      go_region_held3 (fun X => ((X.cell? ⟨b, 0, none⟩ = some (.int .i64 (s : Int)) ∧ X.cell? ⟨b, 1, none⟩ = some (.map (some m)) ∧ X.cell? ⟨w.heap.size, 1, none⟩ = some (.int .i64 N.seq) ∧ (Instr.lookup 65 (.map (some m)) (.int .i64 N.seq) true).run Tryd.prog X = .ok (.tuple #[.agg #[.int .i64 M.what, .int .i64 M.seq, .int .i64 M.fl.key.kind, .int .i64 M.fl.key.src, .int .i64 M.fl.key.frm, .int .i64 M.fl.key.dst, .int .i64 M.fl.key.too, .int .i64 M.fl.st, .int .i64 M.fl.unt, .int .i64 M.fl.stp, .int .i64 M.fl.h0, .int .i64 M.fl.h1, .int .i64 M.fl.w0, .int .i64 M.fl.w1, .bool M.fl.d0, .bool M.fl.d1, .int .i64 M.fl.num], .bool y]) X) ∧ HeN ν X b m s W w.heap.size N)) (with_reducible first | assumption | exact hS | exact HK.out _ (HeN.drew (And.right (by assumption))) | exact HK.out _ (HeN.alloc (And.right (by assumption)) _) | exact HK.out _ (HeN.drew (HeN.alloc (And.right (by assumption)) _)) | exact HK.out _ (HeN.drew (And.right hS)) | exact HK.out _ (HeN.drew (HeN.alloc (And.right hS) _))) (fail)
      all_goals (go_wp2_with fail; go_meet; case rel => exact ⟨rfl, (h3.alloc _).drew, n3.alloc _, ((Below.refl _ _).alloc (Nat.le_refl _) _).drew⟩)
    case rest =>
      clear hS HK
      obtain ⟨rfl, H4, N4, B4⟩ := hcut
      obtain ⟨X4, hX4⟩ : ∃ X4, wc = X4 := ⟨_, rfl⟩
      rw [hX4] at H4 N4 B4 ⊢
      clear hX4
      have b4 : Below w.heap.size w X4 := b3.trans (B4.out.mono b3.size)
      clear b3 h3 n3 B4
      obtain ⟨c0, c1⟩ := H4.out.cells
      have q1 := N4.out.cells.2.1
      go_upto_region 9 with fail
      go_cut [47] (fun v47 wc => v47 = .bool (decide (s < j) && !y) ∧ wc = X4.drew)
      case first =>
        have hjs := HJ.out
        by_cases hlt : s < j
        · have hl : (s : Int) < N.seq := by rw [hjs]; omega
          have HLT := hidE hlt
          clear hjs hlt
          cases y
          · go_region
            all_goals (go_wp2_with fail; go_meet; case rel => exact ⟨by rw [decide_eq_true HLT.out]; rfl, rfl⟩)
          · go_region
            all_goals (go_wp2_with fail; go_meet; case rel => exact ⟨by rw [decide_eq_true HLT.out]; rfl, rfl⟩)
        · have hl : ¬ (s : Int) < N.seq := by rw [hjs]; omega
          have HLT := hidE hlt
          clear hjs hlt
          go_region
          all_goals (go_wp2_with fail; go_meet; case rel => exact ⟨by rw [decide_eq_false HLT.out]; rfl, rfl⟩)
      case rest =>
        obtain ⟨rfl, hwc⟩ := hcut
        rw [hwc]
        clear hwc c0 c1 q1
        have h5 := H4.out.drew
        have n5 : NtAt X4.drew w.heap.size N := N4.out
        have b5 : Below w.heap.size w X4.drew := b4.drew
        obtain ⟨X5, hX5⟩ : ∃ X5, X4.drew = X5 := ⟨_, rfl⟩
        rw [hX5] at h5 n5 b5 ⊢
        clear hX5 H4 N4 b4
        by_cases hp : s < j ∧ j ∉ W
        · have e1 : (decide (s < j) && !y) = true := by rw [← HY.out]; simp [hp.1, hp.2]
          rw [e1]
          clear e1
          have hpw : putW s W j = j :: W := by unfold putW; rw [if_pos hp]
          have hkey : keyOf Tryd.prog 3 (.int .i64 N.seq) = some (.int .i64 (j : Int)) := by rw [HJ.out]; exact keyI (by omega)
          obtain ⟨W6, hup, m6, g6⟩ := h5.drew.2.store lawI Tryd.underlying65 (by simp [litN, maxLen]; omega) hkey (.agg #[.int .i64 N.what, .int .i64 N.seq, .int .i64 N.fl.key.kind, .int .i64 N.fl.key.src, .int .i64 N.fl.key.frm, .int .i64 N.fl.key.dst, .int .i64 N.fl.key.too, .int .i64 N.fl.st, .int .i64 N.fl.unt, .int .i64 N.fl.stp, .int .i64 N.fl.h0, .int .i64 N.fl.h1, .int .i64 N.fl.w0, .int .i64 N.fl.w1, .bool N.fl.d0, .bool N.fl.d1, .int .i64 N.fl.num])
          have hfl : (W.filter fun x => decide (x ≠ j)) = W := List.filter_eq_self.2 (fun x hx => decide_eq_true (fun (e : x = j) => hp.2 (e ▸ hx)))
          rw [litN_filter, hfl] at m6
          have h6 : HeAt ν W6 b m s (j :: W) := by
            refine ⟨?_, ?_⟩
            · rw [g6.block b (by simpa using h5.lt) (fun e => h5.ne (by simpa using e))]; exact h5.1
            · have e : litN ν (j :: W) = (.int .i64 (j : Int), .agg #[.int .i64 N.what, .int .i64 N.seq, .int .i64 N.fl.key.kind, .int .i64 N.fl.key.src, .int .i64 N.fl.key.frm, .int .i64 N.fl.key.dst, .int .i64 N.fl.key.too, .int .i64 N.fl.st, .int .i64 N.fl.unt, .int .i64 N.fl.stp, .int .i64 N.fl.h0, .int .i64 N.fl.h1, .int .i64 N.fl.w0, .int .i64 N.fl.w1, .bool N.fl.d0, .bool N.fl.d1, .int .i64 N.fl.num]) :: litN ν W := by
                unfold litN; rw [List.map_cons, HNN.out]; rfl
              rw [e]; exact m6
          have t6 : Turn (Two b m) w W6 := ((Turn.of_below b5 (Two b m)).drewN 1).trans (Turn.of_grown g6 (fun g e => .inr (by simpa using e.symm)))
          obtain ⟨c0, c1⟩ := h5.cells
          obtain ⟨q0, q1, q2, q3, q4, q5, q6, q7, q8, q9, q10, q11, q12, q13, q14, q15, q16⟩ := n5.cells
          have HPW := hidE hpw
          clear hkey hp hpw m6 g6 hfl
          go_upto_region 10 with fail
          go_cut [3] (fun v3 wc => v3 = .pointer (some ⟨w.heap.size, 0, none⟩) ∧ wc = W6)
          case first =>
            go_region
            all_goals (go_wp2_with fail; go_meet; case rel => exact ⟨rfl, rfl⟩)
          case rest =>
            obtain ⟨rfl, hwc⟩ := hcut
            rw [hwc]
            clear hwc hup c0 c1
            have cX := heNext_any ν HNU.out b m s (j :: W) W6 h6 (by simp; omega)
            go_wp2_with (go_at_call 24; refine cX.mono ?_; rintro e w9 ⟨v9, k9, rfl, hk9, own9, h9, t9⟩)
            go_ret2
            unfold hearS
            rw [HPW.out]
            exact ⟨v9, k9, rfl, hk9, OwnN.rebase own9 t6.size, h9, t6.andThen t9 (fun i hi => .inl hi)⟩
        · have e1 : (decide (s < j) && !y) = false := by
            rw [← HY.out]
            by_cases h1 : s < j
            · have h2 : j ∈ W := Classical.byContradiction fun h2 => hp ⟨h1, h2⟩
              simp [h2]
            · simp [h1]
          rw [e1]
          have hpw : putW s W j = W := by unfold putW; rw [if_neg hp]
          have cX := heNext_any ν HNU.out b m s W X5 h5 (by omega)
          have t5 : Turn (Two b m) w X5 := Turn.of_below b5 _
          have HPW := hidE hpw
          clear hpw e1 hp
          go_wp2_with (go_at_call 24; refine cX.mono ?_; rintro e w9 ⟨v9, k9, rfl, hk9, own9, h9, t9⟩)
          go_ret2
          unfold hearS
          rw [HPW.out]
          exact ⟨v9, k9, rfl, hk9, OwnN.rebase own9 b5.size, h9, t5.andThen t9 (fun i hi => .inl hi)⟩
end Go.Proofs.YtkkefgoidjjehaaDoor
