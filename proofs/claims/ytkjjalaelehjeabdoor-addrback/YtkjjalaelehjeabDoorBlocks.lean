/- What the program's blocks and Range return (package addr): the fewest prefixes from one address to another one, in a row of the call's own. -/
import Derived.Test.YtkjjalaelehjeabDoorOwnP
import Derived.Test.YtkjjalaelehjeabDoorSpreadL
import Derived.Test.YtkjjalaelehjeabDoorAddrNum
import Derived.Test.YtkjjalaelehjeabDoorPairs
namespace Go.Proofs.YtkjjalaelehjeabDoor
open Go.RowKit
set_option linter.unusedVariables false

theorem pw_half {n : Nat} (h : n < 32) : pw (32 - (n : Int)) = pw (32 - ((n + 1 : Nat) : Int)) * 2 := by
  have := pw_succ (32 - (n + 1))
  have e1 : ((32 - (n + 1) : Nat) : Int) = 32 - ((n + 1 : Nat) : Int) := by omega
  have e2 : 32 - ((n + 1 : Nat) : Int) + 1 = 32 - (n : Int) := by omega
  rw [e1, e2] at this
  exact this
theorem fits_iff (l high : Int) (n : Nat) : fitsB l high n = true ↔ l % pw (32 - (n : Int)) = 0 ∧ l + pw (32 - (n : Int)) - 1 ≤ high := by unfold fitsB; simp
theorem fits_up {l high : Int} {n : Nat} (h : n < 32) (hf : fitsB l high n = true) : fitsB l high (n + 1) = true := by
  rw [fits_iff] at hf ⊢
  have hp := pw_pos (32 - ((n + 1 : Nat) : Int))
  rw [pw_half h] at hf
  refine ⟨?_, by omega⟩
  have h1 := hf.1
  generalize pw (32 - ((n + 1 : Nat) : Int)) = q at *
  have h2 := Int.emod_emod_of_dvd l (Int.dvd_mul_right q 2)
  rw [h1] at h2
  simpa using h2.symm
theorem findN_at (l high : Int) (m : Nat) : ∀ (f n : Nat), (∀ k, n ≤ k → k < m → fitsB l high k = false) → fitsB l high m = true → n ≤ m → m ≤ n + f → findN l high f n = m
  | 0, n, _, _, h1, h2 => by rw [findN]; omega
  | f + 1, n, hno, hyes, h1, h2 => by
      rw [findN]
      by_cases e : n = m
      · subst e; rw [if_pos hyes]
      · rw [if_neg (by rw [hno n (Nat.le_refl _) (by omega)]; simp)]
        exact findN_at l high m f (n + 1) (fun k a b => hno k (by omega) b) hyes (by omega) (by omega)
theorem best_of {l high : Int} {n : Nat} (hn : n ≤ 32) (hf : fitsB l high n = true) (hno : n = 0 ∨ fitsB l high (n - 1) = false) : bestN l high = n := by
  unfold bestN
  refine findN_at l high n 32 0 (fun k _ hk => ?_) hf (Nat.zero_le _) (by omega)
  rcases h : fitsB l high k with _ | _
  · rfl
  · exfalso
    rcases hno with h0 | h0
    · omega
    · have up : ∀ j, k + j ≤ n - 1 → fitsB l high (k + j) = true := by
        intro j
        induction j with
        | zero => intro _; exact h
        | succ j ih => intro hj; exact (Nat.add_assoc k j 1) ▸ fits_up (n := k + j) (by omega) (ih (by omega))
      have := up (n - 1 - k) (by omega)
      have e : k + (n - 1 - k) = n - 1 := by omega
      rw [e, h0] at this; cases this
theorem best_fits {l high : Int} (h : l ≤ high) : fitsB l high (bestN l high) = true := by
  have go : ∀ f n, fitsB l high (n + f) = true → fitsB l high (findN l high f n) = true := by
    intro f
    induction f with
    | zero => intro n hn; rw [findN]; exact hn
    | succ f ih =>
      intro n hn
      rw [findN]
      split
      · assumption
      · exact ih (n + 1) (by rw [Nat.add_assoc, Nat.add_comm 1 f]; exact hn)
  exact go 32 0 (by simpa using fits_32 h)

set_option maxRecDepth 100000 in
set_option maxHeartbeats 4000000 in
theorem blocks_any (low high : Int) (w : World) (h0 : 0 ≤ low) (h1 : high ≤ 4294967295) (h2 : low ≤ 4294967296) :
    Calls Tryd.prog 17 #[.int .i64 low, .int .i64 high] w fun e w' => ∃ v, e = .returned v ∧ OwnP w' w.heap.size v (spreadL low high) ∧ Below w.heap.size w w' := by
  go_enter Tryd.func17, Tryd.ntmps17
  go_wp2
  go_loopw [0, 5] (fun lo v wr => ∃ (l : Int) (ps : List (Int × Int)), lo = .int .i64 l ∧ low ≤ l ∧ l ≤ 9223372036 ∧ OwnP wr w.heap.size v ps ∧ (ps.length : Int) ≤ l - low ∧ Below w.heap.size w wr ∧ Hid (ps ++ spreadL l high = spreadL low high)) (fun lo _ _ => (high + 1 - intOf lo).toNat)
  case atStart => exact ⟨low, [], rfl, by omega, by omega, OwnP.nil _ _, by simp, Below.refl _ _, rfl⟩
  case round =>
    obtain ⟨l, ps, rfl, hl0, hl1, hown, hlen, hbel, hT⟩ := hrel
    by_cases hlt : l ≤ high
    · have HT : Hid ((ps ++ [(l, (bestN l high : Int))]) ++ spreadL (l + pw (32 - (bestN l high : Int))) high = spreadL low high) := by
        show (ps ++ [(l, (bestN l high : Int))]) ++ spreadL (l + pw (32 - (bestN l high : Int))) high = spreadL low high
        rw [← hT.out, spreadL_yes hlt]; simp
      clear hT
      have hbz := hbel.size
      go_wp2_with fail
      obtain ⟨w0, rfl⟩ : ∃ w0, w0 = wr := ⟨wr, rfl⟩
      have hv : ∀ j, u5.ownBlock = some j → j < w0.heap.size := fun j hj => (World.ownsRow.lt hown j hj).2
      have hne : some w0.heap.size ≠ u5.ownBlock := fun h => absurd (hv _ h.symm) (Nat.lt_irrefl _)
      have hp0 := PairAt.new w0 l 32 28
      have hb0 : Below w0.heap.size w0 (w0.alloc (.cells #[.int .i64 l, .int .i64 32] 28)) := (Below.refl _ _).alloc (Nat.le_refl _) _
      go_loopw [7] (fun _ wi => ∃ n : Nat, n ≤ 32 ∧ PairAt wi w0.heap.size l (n : Int) ∧ Below w0.heap.size w0 wi ∧ fitsB l high n = true) (fun _ wi => match wi.cell? ⟨w0.heap.size, 1, none⟩ with | some v => (intOf v).toNat | none => 0)
      case atStart => exact ⟨32, by omega, hp0, hb0, fits_32 hlt⟩
      case round =>
        obtain ⟨n, hn, hP, hbi, hfit⟩ := hrel
        have hq := pw_le (n := 32 - (n : Int)) (by omega) (by omega)
        have hqp := pw_pos (32 - (n : Int))
        have hfn := ((fits_iff _ _ _).1 hfit).2
        rcases Nat.eq_zero_or_pos n with hz | hz
        · have hB := best_of (by omega) hfit (.inl hz)
          obtain ⟨p0, p1, _, _⟩ := id hP
          rw [hB] at HT
          have hz' : (n : Int) ≤ 0 := by omega
          clear hB hfit hp0 hb0 hz
          go_wp2_with (first
            | (at_builtin; refine wpList_append_pref rfl (.tmp 36) (.tmp 38) rfl w.heap.size _ ps rfl (hown.below hbi) l (n : Int) rfl (by omega) ?hz ?_; (case hz => have := (hbi).size; omega); intro v1 w1 own1 grow1; have c0 := grow1.cell (PairAt.alloc hP (.cells #[.int .i64 l, .int .i64 (n : Int)] 28)).1 hne; have c1 := grow1.cell (PairAt.alloc hP (.cells #[.int .i64 l, .int .i64 (n : Int)] 28)).2.1 hne)
            | (go_at_call 18; refine (size_any _ _ _ (by omega) (by omega)).mono ?_; rintro e w2 ⟨rfl, rfl⟩))
          have b1 : Below w.heap.size w w1 := (((hbel.trans ((hbi).mono hbz)).alloc (by have := (hbi).size; omega) _).grown grow1 (by have := (hbi).size; simp; omega) (fun j hj => (World.ownsRow.lt hown j hj).1))
          go_roundw
          case rel => exact ⟨l + pw (32 - (n : Int)), ps ++ [(l, (n : Int))], rfl, by omega, by omega, own1.alloc _, by simp; omega, b1.alloc b1.size _, HT⟩
          case measure => simp [intOf]; omega
        · obtain ⟨m, rfl⟩ : ∃ m, n = m + 1 := ⟨n - 1, by omega⟩
          have hx1 : Below w0.heap.size w0 (wr.alloc (.cells #[.int .i64 l, .int .i64 (m : Int)] 28)) := hbi.alloc hbi.size _
          have hx2 : Below w0.heap.size w0 ((wr.alloc (.cells #[.int .i64 l, .int .i64 (m : Int)] 28)).alloc (.cells #[.int .i64 l, .int .i64 (m : Int)] 28)) := hx1.alloc hx1.size _
          have hx3 : Below w0.heap.size w0 (((wr.alloc (.cells #[.int .i64 l, .int .i64 (m : Int)] 28)).alloc (.cells #[.int .i64 l, .int .i64 (m : Int)] 28)).alloc (.cells #[.int .i64 l, .int .i64 (m : Int)] 28)) := hx2.alloc hx2.size _
          have hP' : PairAt wr w0.heap.size l ((m : Int) + 1) := by simpa using hP
          have hP1 := hP'.alloc (.cells #[.int .i64 l, .int .i64 (m : Int)] 28)
          have hP2 := hP1.alloc (.cells #[.int .i64 l, .int .i64 (m : Int)] 28)
          have hP3 := hP2.alloc (.cells #[.int .i64 l, .int .i64 (m : Int)] 28)
          obtain ⟨p0, p1, p2, p3⟩ := id hP'
          have hlt0 := hP.lt
          have hqm := pw_pos (32 - (m : Int))
          have hqm2 := pw_le (n := 32 - (m : Int)) (by omega) (by omega)
          have hzm : (pw (32 - (m : Int)) == 0) = false := by simp; omega
          have e0 : (((m + 1 : Nat) : Int)) = (m : Int) + 1 := by omega
          rw [e0] at hq hqp hfn
          rcases hft : fitsB l high m with _ | _
          · have hB := best_of hn hfit (.inr hft)
            rw [hB, e0] at HT
            have hno : ¬ (l % pw (32 - (m : Int)) = 0 ∧ l + pw (32 - (m : Int)) - 1 ≤ high) := fun h => by rw [(fits_iff _ _ _).2 h] at hft; cases hft
            clear hB hfit hp0 hb0 hz hft e0 hP hP'
            rcases hm : (l % pw (32 - (m : Int)) == 0) with _ | _
            · have hm' : (l % pw (32 - (m : Int)) != 0) = true := by simp [bne, hm]
              clear hno hm hx3 hP3 hP1 hx1
              go_upto_region 8 with (go_at_call 18; refine (size_any _ _ _ (by omega) (by omega)).mono ?_; rintro e w2 ⟨rfl, rfl⟩)
              generalize ((wr.alloc (.cells #[.int .i64 l, .int .i64 (m : Int)] 28)).alloc (.cells #[.int .i64 l, .int .i64 (m : Int)] 28)) = wx at hx2 hP2 ⊢
              obtain ⟨_, _, _, _⟩ := id hP2
              go_wp2_with (first
                | (at_builtin; refine wpList_append_pref rfl (.tmp 36) (.tmp 38) rfl w.heap.size _ ps rfl (hown.below hx2) l ((m : Int) + 1) rfl (by omega) ?hz ?_; (case hz => have := (hx2).size; omega); intro v1 w1 own1 grow1; have c0 := grow1.cell (PairAt.alloc hP2 (.cells #[.int .i64 l, .int .i64 ((m : Int) + 1)] 28)).1 hne; have c1 := grow1.cell (PairAt.alloc hP2 (.cells #[.int .i64 l, .int .i64 ((m : Int) + 1)] 28)).2.1 hne)
                | (go_at_call 18; refine (size_any _ _ _ (by omega) (by omega)).mono ?_; rintro e w2 ⟨rfl, rfl⟩))
              have b1 : Below w.heap.size w w1 := (((hbel.trans ((hx2).mono hbz)).alloc (by have := (hx2).size; omega) _).grown grow1 (by have := (hx2).size; simp; omega) (fun j hj => (World.ownsRow.lt hown j hj).1))
              go_roundw
              case rel => exact ⟨l + pw (32 - ((m : Int) + 1)), ps ++ [(l, ((m : Int) + 1))], rfl, by omega, by omega, own1.alloc _, by simp; omega, b1.alloc b1.size _, HT⟩
              case measure => simp [intOf]; omega
            · have hm' : (l % pw (32 - (m : Int)) != 0) = false := by simp [bne, hm]
              have hgt : high < l + pw (32 - (m : Int)) - 1 := by
                have : l % pw (32 - (m : Int)) = 0 := by simpa using hm
                omega
              clear hno hm hx2 hP2 hP1 hx1
              go_upto_region 8 with (go_at_call 18; refine (size_any _ _ _ (by omega) (by omega)).mono ?_; rintro e w2 ⟨rfl, rfl⟩)
              generalize (((wr.alloc (.cells #[.int .i64 l, .int .i64 (m : Int)] 28)).alloc (.cells #[.int .i64 l, .int .i64 (m : Int)] 28)).alloc (.cells #[.int .i64 l, .int .i64 (m : Int)] 28)) = wx at hx3 hP3 ⊢
              obtain ⟨_, _, _, _⟩ := id hP3
              go_wp2_with (first
                | (at_builtin; refine wpList_append_pref rfl (.tmp 36) (.tmp 38) rfl w.heap.size _ ps rfl (hown.below hx3) l ((m : Int) + 1) rfl (by omega) ?hz ?_; (case hz => have := (hx3).size; omega); intro v1 w1 own1 grow1; have c0 := grow1.cell (PairAt.alloc hP3 (.cells #[.int .i64 l, .int .i64 ((m : Int) + 1)] 28)).1 hne; have c1 := grow1.cell (PairAt.alloc hP3 (.cells #[.int .i64 l, .int .i64 ((m : Int) + 1)] 28)).2.1 hne)
                | (go_at_call 18; refine (size_any _ _ _ (by omega) (by omega)).mono ?_; rintro e w2 ⟨rfl, rfl⟩))
              have b1 : Below w.heap.size w w1 := (((hbel.trans ((hx3).mono hbz)).alloc (by have := (hx3).size; omega) _).grown grow1 (by have := (hx3).size; simp; omega) (fun j hj => (World.ownsRow.lt hown j hj).1))
              go_roundw
              case rel => exact ⟨l + pw (32 - ((m : Int) + 1)), ps ++ [(l, ((m : Int) + 1))], rfl, by omega, by omega, own1.alloc _, by simp; omega, b1.alloc b1.size _, HT⟩
              case measure => simp [intOf]; omega
          · have hyes := (fits_iff _ _ _).1 hft
            obtain ⟨hy1, hy2⟩ := hyes
            have hm' : (l % pw (32 - (m : Int)) != 0) = false := by simp [hy1]
            clear hp0 hb0 e0 hP
            have b3 := (hx3.setCell (p := ⟨w0.heap.size, 0, none⟩) (Nat.le_refl _) (.int .i64 l)).setCell (p := ⟨w0.heap.size, 1, none⟩) (Nat.le_refl _) (.int .i64 (m : Int))
            have q3 := (hP3.set0 l).set1 (m : Int)
            have hQ := ((PairAt.new wr l (m : Int) 28).alloc (.cells #[.int .i64 l, .int .i64 (m : Int)] 28)).alloc (.cells #[.int .i64 l, .int .i64 (m : Int)] 28)
            clear hx1 hx2 hP1 hP2
            go_upto_region 7 with (go_at_call 18; refine (size_any _ _ _ (by omega) (by omega)).mono ?_; rintro e w2 ⟨rfl, rfl⟩)
            generalize (((wr.alloc (.cells #[.int .i64 l, .int .i64 (m : Int)] 28)).alloc (.cells #[.int .i64 l, .int .i64 (m : Int)] 28)).alloc (.cells #[.int .i64 l, .int .i64 (m : Int)] 28)) = wx at hx3 hP3 b3 q3 hQ ⊢
            obtain ⟨_, _, _, _⟩ := id hP3
            obtain ⟨_, _, _, _⟩ := id hQ
            go_wp2_with fail
            go_roundw
            case rel => exact ⟨m, by omega, q3, b3, hft⟩
            case measure =>
              have a1 := q3.2.1
              have a2 := hP'.2.1
              rw [a1, a2]; simp [intOf]
    · have HT : Hid (ps = spreadL low high) := by
        show ps = spreadL low high
        rw [← hT.out, spreadL_no (by omega)]; simp
      clear hT
      have hgt : high < l := by omega
      clear hlt
      go_wp2
      go_ret
      exact ⟨_, rfl, by rw [← HT.out]; exact hown, hbel⟩

theorem range_ok (low high : Int) (w : World) (h0 : 0 ≤ low) (h1 : high ≤ 4294967295) (h2 : low ≤ high) :
    Calls Tryd.prog 5 #[.int .i64 low, .int .i64 high] w fun e w' => ∃ v, e = .returned (.tuple #[v, .nilIface]) ∧ OwnP w' w.heap.size v (spreadL low high) ∧ Below w.heap.size w w' := by
  have ha := isAddr_yes h0 (by omega : low ≤ 4294967295)
  have hb := isAddr_yes (by omega : 0 ≤ high) h1
  have hbl := fun w => blocks_any low high w h0 h1 (by omega)
  go_enter Tryd.func5, Tryd.ntmps5
  go_wp2_with (first
    | (go_at_call 16; refine (isAddr_any _ _).mono ?_; rintro e w ⟨rfl, rfl⟩)
    | (go_at_call 17; refine (hbl _).mono ?_; rintro e w1 ⟨v, rfl, own1, b1⟩))
  exact bodyPost_ret (v := .tuple #[v, .nilIface]) (by simp [results, Tryd.results5, go_sem]) rfl ⟨v, rfl, own1, b1⟩
theorem range_bad (low high : Int) (w : World) (h : ¬ (0 ≤ low ∧ low ≤ high ∧ high ≤ 4294967295)) :
    Calls Tryd.prog 5 #[.int .i64 low, .int .i64 high] w fun e w' => e = .returned (.tuple #[.slice none 0 0, .iface 46 (.int .i64 1)]) ∧ w' = w := by
  rcases ha : isAddr low with _ | _
  · clear h
    go_enter Tryd.func5, Tryd.ntmps5
    go_wp2_with (go_at_call 16; refine (isAddr_any _ _).mono ?_; rintro e w ⟨rfl, rfl⟩)
    exact bodyPost_ret (v := .tuple #[.slice none 0 0, .iface 46 (.int .i64 1)]) (by simp [results, Tryd.results5, go_sem]) rfl ⟨rfl, rfl⟩
  rcases hb : isAddr high with _ | _
  · clear h
    go_enter Tryd.func5, Tryd.ntmps5
    go_wp2_with (go_at_call 16; refine (isAddr_any _ _).mono ?_; rintro e w ⟨rfl, rfl⟩)
    exact bodyPost_ret (v := .tuple #[.slice none 0 0, .iface 46 (.int .i64 1)]) (by simp [results, Tryd.results5, go_sem]) rfl ⟨rfl, rfl⟩
  have hgt : high < low := by have := of_isAddr ha; have := of_isAddr hb; omega
  clear h
  go_enter Tryd.func5, Tryd.ntmps5
  go_wp2_with (go_at_call 16; refine (isAddr_any _ _).mono ?_; rintro e w ⟨rfl, rfl⟩)
  exact bodyPost_ret (v := .tuple #[.slice none 0 0, .iface 46 (.int .i64 1)]) (by simp [results, Tryd.results5, go_sem]) rfl ⟨rfl, rfl⟩
end Go.Proofs.YtkjjalaelehjeabDoor
