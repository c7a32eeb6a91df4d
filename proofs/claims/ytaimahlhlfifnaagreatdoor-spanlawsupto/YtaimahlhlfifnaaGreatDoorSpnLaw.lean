/- SpanLaws: the law's walk. Conditions: as in SpnTxt; a text of at most 1048576 bytes. -/
import Derived.Test.YtaimahlhlfifnaaGreatDoorSpnMore
import Derived.Test.YtaimahlhlfifnaaGreatDoorEqSp
import Derived.Test.YtaimahlhlfifnaaGreatDoorSpnPar
namespace Go.Proofs.YtaimahlhlfifnaaGreatDoor
open Go.RowKit
set_option linter.unusedVariables false
set_option maxRecDepth 4000

theorem hid {p : Prop} (h : p) : Hid p := h
/-- Rows of spans that a law holds, through worlds. -/
structure SLt (w W : World) (L : List (Value × List Sp)) : Prop where
  rows : ∀ x ∈ L, Spns W x.1 x.2
  bel : Below w.heap.size w W
theorem SLt.below {w W W' : World} {L : List (Value × List Sp)} (h : SLt w W L) (hb : Below W.heap.size W W') : SLt w W' L :=
  ⟨fun x hx => (h.rows x hx).below hb, h.bel.trans (hb.mono h.bel.size)⟩
theorem SLt.add {w W W' : World} {L : List (Value × List Sp)} {v : Value} {l : List Sp} (h : SLt w W L) (hb : Below W.heap.size W W') (hv : Spns W' v l) : SLt w W' ((v, l) :: L) :=
  ⟨fun x hx => by
    rcases List.mem_cons.1 hx with rfl | hx
    · exact hv
    · exact (h.rows x hx).below hb, h.bel.trans (hb.mono h.bel.size)⟩
theorem SLt.get {w W : World} {L : List (Value × List Sp)} {v : Value} {l : List Sp} (h : SLt w W L) (hx : (v, l) ∈ L) : Spns W v l := h.rows _ hx
theorem one_spns (w : World) (p q : Int) : Spns (w.alloc (.cells #[.int .i64 p, .int .i64 q] 38)) (.slice (some ⟨w.heap.size, 0, none⟩) 1 1) [(p, q)] := by
  refine .inr ⟨w.heap.size, 0, 1, 1, rfl, by omega, by unfold maxLen; omega, rfl, by simp, fun i hi => ?_⟩
  match i, hi with
  | 0, _ => exact ⟨by simp, by simp⟩
theorem fact_join : setP (fun n => inB [(1, 2)] n || inB [(3, 4)] n) = [(1, 4)] := by
  refine (setP_unique ⟨OkS.one (by simp), List.pairwise_singleton _ _⟩ (fun n => ?_)).symm
  apply bool_ext
  rw [inB_one, insB_iff, Bool.and_eq_true, Bool.or_eq_true, inB_one, inB_one, insB_iff, insB_iff, decide_eq_true_eq]
  simp only
  omega
theorem cnt_set (p : Int → Bool) : cnt (inB (setP p)) = cnt p := by rw [← manyL_cnt (setP_is p).1, setP_many]
theorem cnt_add {p q r : Int → Bool} (h : ∀ k : Int, p k = (q k || r k) ∧ ¬ (q k = true ∧ r k = true)) : cnt p = cnt q + cnt r := by
  unfold cnt
  rw [cntTo_add (p := p) (q := q) (r := r) 65536 (fun k _ => h k)]; omega
theorem cnt_all {p : Int → Bool} (h : ∀ k : Int, p k = true) : cnt p = 65536 := by
  unfold cnt
  rw [cntTo_all 65536 (fun k _ => h k)]; rfl
set_option maxHeartbeats 64000000 in
theorem laws_walk (va : Value) (a : List Sp) (vb : Value) (b : List Sp) (n : Int) (s : ByteArray) (w : World) {q1 q2 q3 : Prop} (ha : Spns w va a) (hna : a.length ≤ 140737488355328) (hb : Spns w vb b) (hnb : b.length ≤ 140737488355328) (hq1 : q1) (hs : s.size ≤ 1048576) (ht : TxE w) :
    Calls Tryz.prog 4 #[va, vb, .int .i64 n, .string s] w fun e w' => e = .returned (.bool true) ∧ Below w.heap.size w w' := by
  have spn : ∀ {f : FuncId} {args : Array Value} {W : World} {er : Value} {R : List Sp}, Calls Tryz.prog f args W (fun e w' => ∃ v', e = .returned (.tuple #[v', er]) ∧ OwnSp w' W.heap.size v' R ∧ Below W.heap.size W w') → Calls Tryz.prog f args W (fun e w' => ∃ v', e = .returned (.tuple #[v', er]) ∧ Spns w' v' R ∧ Below W.heap.size W w') := fun h => h.mono (fun e w' ⟨v', h1, h2, h3⟩ => ⟨v', h1, h2.spns, h3⟩)
  have spl : ∀ {f : FuncId} {args : Array Value} {W : World} {er : Value} {R : List Sp} {N : Nat}, R.length = N → Calls Tryz.prog f args W (fun e w' => ∃ v', e = .returned (.tuple #[v', er]) ∧ OwnSp w' W.heap.size v' R ∧ Below W.heap.size W w') → Calls Tryz.prog f args W (fun e w' => ∃ x1 x2, e = .returned (.tuple #[.slice x1 N x2, er]) ∧ Spns w' (.slice x1 N x2) R ∧ Below W.heap.size W w') := fun hN h => h.mono (fun e w' ⟨v', h1, h2, h3⟩ => by
    obtain ⟨x1, x2, rfl⟩ := h2.len
    rw [hN] at h1 h2
    exact ⟨x1, x2, h1, h2.spns, h3⟩)
  have T0 : Hid (SLt w w [(va, a), (vb, b)]) := ⟨fun x hx => by
    simp at hx
    rcases hx with rfl | rfl
    · exact ha
    · exact hb, Below.refl _ _⟩
  have HBAD : Hid (¬ chE a b = 0 → Hid (∀ W, Spns W va a → Spns W vb b → Calls Tryz.prog 13 #[va, vb] W fun e w' => ∃ v', e = .returned (.tuple #[v', .iface 47 (.int .i64 (chE a b))]) ∧ Below W.heap.size W w')
      ∧ Hid (∀ W, Spns W va a → Spns W vb b → Calls Tryz.prog 14 #[va, vb] W fun e w' => ∃ v', e = .returned (.tuple #[v', .iface 47 (.int .i64 (chE a b))]) ∧ Below W.heap.size W w')
      ∧ Hid (∀ W, Spns W va a → Spns W vb b → Calls Tryz.prog 15 #[va, vb] W fun e w' => ∃ v', e = .returned (.tuple #[v', .iface 47 (.int .i64 (chE a b))]) ∧ Below W.heap.size W w')) := fun he => by
    refine ⟨fun W h k => ?_, fun W h k => ?_, fun W h k => ?_⟩
    · have := join_any va vb a b W h k hna hnb
      rw [erV_n he] at this
      exact this.mono (fun e w' ⟨v', h1, _, h3⟩ => ⟨v', h1, h3⟩)
    · have := meet_any va vb a b W h k hna hnb
      rw [erV_n he] at this
      exact this.mono (fun e w' ⟨v', h1, _, h3⟩ => ⟨v', h1, h3⟩)
    · have := less_any va vb a b W h k hna hnb
      rw [erV_n he] at this
      exact this.mono (fun e w' ⟨v', h1, _, h3⟩ => ⟨v', h1, h3⟩)
  obtain ⟨LJ, hLJ⟩ : ∃ L, setP (fun n => inB a n || inB b n) = L := ⟨_, rfl⟩
  obtain ⟨LM, hLM⟩ : ∃ L, setP (fun n => inB a n && inB b n) = L := ⟨_, rfl⟩
  obtain ⟨LD, hLD⟩ : ∃ L, setP (fun n => inB a n && !inB b n) = L := ⟨_, rfl⟩
  obtain ⟨LC, hLC⟩ : ∃ L, setP (fun n => !inB a n) = L := ⟨_, rfl⟩
  obtain ⟨LN, hLN⟩ : ∃ L, setP (inB a) = L := ⟨_, rfl⟩
  obtain ⟨NJ, hNJ⟩ : ∃ N, LJ.length = N := ⟨_, rfl⟩
  obtain ⟨NM, hNM⟩ : ∃ N, LM.length = N := ⟨_, rfl⟩
  obtain ⟨ND, hND⟩ : ∃ N, LD.length = N := ⟨_, rfl⟩
  obtain ⟨NC, hNC⟩ : ∃ N, LC.length = N := ⟨_, rfl⟩
  obtain ⟨x, hx⟩ : ∃ x, inB a n = x := ⟨_, rfl⟩
  obtain ⟨y, hy⟩ : ∃ y, inB b n = y := ⟨_, rfl⟩
  obtain ⟨ma, hma⟩ : ∃ z, cnt (inB a) = z := ⟨_, rfl⟩
  obtain ⟨mb, hmb⟩ : ∃ z, cnt (inB b) = z := ⟨_, rfl⟩
  obtain ⟨mj, hmj⟩ : ∃ z, cnt (inB LJ) = z := ⟨_, rfl⟩
  obtain ⟨mm, hmm⟩ : ∃ z, cnt (inB LM) = z := ⟨_, rfl⟩
  obtain ⟨md, hmd⟩ : ∃ z, cnt (inB LD) = z := ⟨_, rfl⟩
  obtain ⟨mc, hmc⟩ : ∃ z, cnt (inB LC) = z := ⟨_, rfl⟩
  have spz : ∀ p : Int → Bool, (setP p).length ≤ 200 → spE (setP p) = 0 := fun p h => spE_ok h (setP_is p).1.1
  have qj : mj = md + mb := by
    rw [← hmj, ← hmd, ← hmb, ← hLJ, ← hLD, cnt_set, cnt_set]
    exact cnt_add (fun k => by cases inB a k <;> cases inB b k <;> simp)
  have qa : ma = md + mm := by
    rw [← hma, ← hmd, ← hmm, ← hLD, ← hLM, cnt_set, cnt_set]
    exact cnt_add (fun k => by cases inB a k <;> cases inB b k <;> simp)
  have qc : mc + ma = 65536 := by
    rw [← hmc, ← hma, ← hLC, cnt_set]
    rw [← cnt_add (p := fun _ => true) (q := fun n => !inB a n) (r := inB a) (fun k => by cases inB a k <;> simp)]
    exact cnt_all (fun _ => rfl)
  have ba := cnt_le (inB a)
  have bb := cnt_le (inB b)
  have bd := cnt_le (inB LD)
  have bm := cnt_le (inB LM)
  have bc := cnt_le (inB LC)
  rw [hma] at ba
  rw [hmb] at bb
  rw [hmd] at bd
  rw [hmm] at bm
  rw [hmc] at bc
  have HSUM : Hid (mc + ma = 65536) := qc
  have HOKs : Hid (chE a b = 0 → Hid (∀ W, Spns W va a → Spns W vb b → Calls Tryz.prog 13 #[va, vb] W fun e w' => ∃ x1 x2, e = .returned (.tuple #[.slice x1 NJ x2, .nilIface]) ∧ Spns w' (.slice x1 NJ x2) LJ ∧ Below W.heap.size W w')
      ∧ Hid (∀ W, Spns W va a → Spns W vb b → Calls Tryz.prog 14 #[va, vb] W fun e w' => ∃ x1 x2, e = .returned (.tuple #[.slice x1 NM x2, .nilIface]) ∧ Spns w' (.slice x1 NM x2) LM ∧ Below W.heap.size W w')
      ∧ Hid (∀ W, Spns W va a → Spns W vb b → Calls Tryz.prog 15 #[va, vb] W fun e w' => ∃ x1 x2, e = .returned (.tuple #[.slice x1 ND x2, .nilIface]) ∧ Spns w' (.slice x1 ND x2) LD ∧ Below W.heap.size W w')
      ∧ Hid (∀ W, Spns W va a → Calls Tryz.prog 16 #[va, .int .i64 n] W fun e w' => e = .returned (.bool x) ∧ Below W.heap.size W w')
      ∧ Hid (∀ W, Spns W vb b → Calls Tryz.prog 16 #[vb, .int .i64 n] W fun e w' => e = .returned (.bool y) ∧ Below W.heap.size W w')
      ∧ Hid ((∀ W, Spns W va a → Calls Tryz.prog 17 #[va] W fun e w' => e = .returned (.int .i64 ma) ∧ Below W.heap.size W w')
        ∧ (∀ W, Spns W vb b → Calls Tryz.prog 17 #[vb] W fun e w' => e = .returned (.int .i64 mb) ∧ Below W.heap.size W w')
        ∧ (∀ W, Spns W va a → Calls Tryz.prog 18 #[va] W fun e w' => ∃ x1 x2, e = .returned (.tuple #[.slice x1 NC x2, .nilIface]) ∧ Spns w' (.slice x1 NC x2) LC ∧ Below W.heap.size W w')
        ∧ (∀ W, Spns W va a → Calls Tryz.prog 19 #[va] W fun e w' => ∃ v', e = .returned (.tuple #[v', .nilIface]) ∧ Spns w' v' LN ∧ Below W.heap.size W w')
        ∧ (NC ≤ 200 → Hid (∀ v W, Spns W v LC → Calls Tryz.prog 18 #[v] W fun e w' => ∃ v', e = .returned (.tuple #[v', .nilIface]) ∧ Spns w' v' LN ∧ Below W.heap.size W w')
          ∧ Hid (∀ v W, Spns W v LC → Calls Tryz.prog 17 #[v] W fun e w' => e = .returned (.int .i64 mc) ∧ Below W.heap.size W w')))
      ∧ Hid (0 ≤ n ∧ n ≤ 65535 → NJ ≤ 200 → NM ≤ 200 → ND ≤ 200 →
          Hid (∀ v W, Spns W v LJ → Calls Tryz.prog 16 #[v, .int .i64 n] W fun e w' => e = .returned (.bool (x || y)) ∧ Below W.heap.size W w')
        ∧ Hid (∀ v W, Spns W v LM → Calls Tryz.prog 16 #[v, .int .i64 n] W fun e w' => e = .returned (.bool (x && y)) ∧ Below W.heap.size W w')
        ∧ Hid (∀ v W, Spns W v LD → Calls Tryz.prog 16 #[v, .int .i64 n] W fun e w' => e = .returned (.bool (x && !y)) ∧ Below W.heap.size W w')
        ∧ Hid (∀ v W, Spns W v LJ → Calls Tryz.prog 17 #[v] W fun e w' => e = .returned (.int .i64 mj) ∧ Below W.heap.size W w')
        ∧ Hid (∀ v W, Spns W v LM → Calls Tryz.prog 17 #[v] W fun e w' => e = .returned (.int .i64 mm) ∧ Below W.heap.size W w')
        ∧ Hid (∀ v W, Spns W v LD → Calls Tryz.prog 17 #[v] W fun e w' => e = .returned (.int .i64 md) ∧ Below W.heap.size W w')
        ∧ (mj != md + mb) = false ∧ (ma != md + mm) = false)) := fun he => by
    have h1 : spE a = 0 := by
      unfold chE at he
      split at he
      · assumption
      · exact he
    have h2 : spE b = 0 := by unfold chE at he; rw [if_pos h1] at he; exact he
    obtain ⟨la, oka⟩ := of_spE h1
    obtain ⟨lb, okb⟩ := of_spE h2
    have hasz : ∀ {p : Int → Bool} {L : List Sp} {v : Value} {W : World}, setP p = L → L.length ≤ 200 → 0 ≤ n ∧ n ≤ 65535 → Spns W v L → Calls Tryz.prog 16 #[v, .int .i64 n] W fun e w' => e = .returned (.bool (p n)) ∧ Below W.heap.size W w' := fun {p L v W} hp hl hn hv => by
      have := Has_any v L n W hv (by omega)
      rw [← hp] at this hl
      rw [decide_eq_true (spz p hl), (setP_is p).2, decide_eq_true hn, Bool.true_and, Bool.true_and] at this
      exact this
    have manz : ∀ {p : Int → Bool} {L : List Sp} {v : Value} {W : World}, setP p = L → L.length ≤ 200 → Spns W v L → Calls Tryz.prog 17 #[v] W fun e w' => e = .returned (.int .i64 (cnt (inB L))) ∧ Below W.heap.size W w' := fun {p L v W} hp hl hv => by
      have := many_any v L W hv (by omega)
      have e : manyE L = cnt (inB L) := by unfold manyE; rw [if_pos (by rw [← hp] at hl ⊢; exact spz p hl)]
      rw [e] at this; exact this
    refine ⟨fun W h k => ?_, fun W h k => ?_, fun W h k => ?_, fun W h => ?_, fun W h => ?_, ⟨fun W h => ?_, fun W h => ?_, fun W h => ?_, fun W h => ?_, fun hc => ⟨fun v W h => ?_, fun v W h => ?_⟩⟩, fun hn h3 h4 h5 => ⟨fun v W h => ?_, fun v W h => ?_, fun v W h => ?_, fun v W h => ?_, fun v W h => ?_, fun v W h => ?_, by simp [qj], by simp [qa]⟩⟩
    · have := join_any va vb a b W h k hna hnb
      rw [he, erV_0, resL_0, hLJ] at this
      exact spl hNJ this
    · have := meet_any va vb a b W h k hna hnb
      rw [he, erV_0, resL_0, hLM] at this
      exact spl hNM this
    · have := less_any va vb a b W h k hna hnb
      rw [he, erV_0, resL_0, hLD] at this
      exact spl hND this
    · have := Has_any va a n W h hna
      rw [decide_eq_true h1, Bool.true_and, hx] at this; exact this
    · have := Has_any vb b n W h hnb
      rw [decide_eq_true h2, Bool.true_and, hy] at this; exact this
    · have := many_any va a W h hna
      unfold manyE at this
      rw [if_pos h1, hma] at this; exact this
    · have := many_any vb b W h hnb
      unfold manyE at this
      rw [if_pos h2, hmb] at this; exact this
    · have := not_any va a W h hna
      rw [h1, erV_0, resL_0, hLC] at this
      exact spl hNC this
    · have := norm_any va a W h hna
      rw [h1, erV_0, resL_0, hLN] at this
      exact spn this
    · have hz : spE LC = 0 := by rw [← hLC] at hNC ⊢; exact spz _ (by omega)
      have := not_any v LC W h (by omega)
      rw [hz, erV_0, resL_0] at this
      have e : (setP fun m => !inB LC m) = LN := by
        rw [← hLN]
        refine setP_congr (fun m h0 h1 => ?_)
        rw [← hLC, (setP_is _).2, decide_eq_true ⟨h0, h1⟩, Bool.true_and, Bool.not_not]
      rw [e] at this
      exact spn this
    · have := manz (v := v) (W := W) hLC (by omega) h
      rw [hmc] at this; exact this
    · have := hasz (v := v) (W := W) hLJ (by omega) hn h
      rw [hx, hy] at this; exact this
    · have := hasz (v := v) (W := W) hLM (by omega) hn h
      rw [hx, hy] at this; exact this
    · have := hasz (v := v) (W := W) hLD (by omega) hn h
      rw [hx, hy] at this; exact this
    · have := manz (v := v) (W := W) hLJ (by omega) h
      rw [hmj] at this; exact this
    · have := manz (v := v) (W := W) hLM (by omega) h
      rw [hmm] at this; exact this
    · have := manz (v := v) (W := W) hLD (by omega) h
      rw [hmd] at this; exact this
  have HPA : Hid (∀ W, Below w.heap.size w W → Calls Tryz.prog 11 #[.string s] W (Parses s W)) := fun W hW => parse_any s W hs (ht.below hW)
  have HPR : Hid (∀ v l W, parseO s = some l → l.length ≤ 1048577 → Spns W v l → Below w.heap.size w W → Calls Tryz.prog 8 #[v] W fun e w' => e = .returned (.tuple #[.string s, .nilIface]) ∧ Below W.heap.size W w') := fun v l W hp hl hv hW => by
    have := spPrint_any v l W hv (by omega) (ht.below hW)
    unfold parseO at hp
    split at hp
    · rename_i h45
      simp only [Option.some.injEq] at hp
      subst hp
      have e0 : spE [] = 0 := rfl
      rw [e0, if_pos rfl, erV_0] at this
      have e1 : mkB (printL []) = s := by
        have e2 : setP (inB []) = [] := (setP_unique Nrm.nil (fun m => by rw [inB_nil, Bool.and_false])).symm
        unfold printL
        rw [e2, ← mkB_data s, h45]; rfl
      rw [e1] at this; exact this
    · split at hp
      · cases hp
      · split at hp
        · rename_i h3
          simp only [Option.some.injEq] at hp
          subst hp
          rw [h3.1, if_pos rfl, erV_0, h3.2] at this; exact this
        · cases hp
  have hfa := join_any (.slice (some ⟨w.heap.size, 0, none⟩) 1 1) (.slice (some ⟨(w.alloc (.cells #[.int .i64 1, .int .i64 2] 38)).heap.size, 0, none⟩) 1 1) [(1, 2)] [(3, 4)] ((w.alloc (.cells #[.int .i64 1, .int .i64 2] 38)).alloc (.cells #[.int .i64 3, .int .i64 4] 38)) ((one_spns w 1 2).below ((Below.refl _ _).alloc (Nat.le_refl _) _)) (one_spns _ 3 4) (by simp) (by simp)
  have efa : chE [(1, 2)] [(3, 4)] = 0 := by decide
  rw [efa, erV_0, resL_0, fact_join] at hfa
  have hfa := spl (R := [(1, 4)]) (N := 1) rfl hfa
  have HB0 : Hid (Below w.heap.size w ((w.alloc (.cells #[.int .i64 1, .int .i64 2] 38)).alloc (.cells #[.int .i64 3, .int .i64 4] 38))) := ((Below.refl w.heap.size w).alloc (Nat.le_refl _) _).alloc (by simp) _
  have hfa := hfa.mono (R' := fun e w1 => ∃ g o c, e = .returned (.tuple #[.slice (some ⟨g, o, none⟩) 1 c, .nilIface]) ∧ 1 ≤ c ∧ c ≤ 9223372036854775807 ∧ w1.cell? ⟨g, o + 1, none⟩ = some (.int .i64 4) ∧ Below w.heap.size w w1) (fun e w1 h => by
    obtain ⟨x1, x2, rfl, hsp, hb1⟩ := h
    obtain ⟨g, o, rfl, h1, h2, h3, h4⟩ := hsp.shape (by simp)
    obtain ⟨c0, c1⟩ := h4 0 (by simp)
    unfold maxLen at h3
    exact ⟨g, o, x2, rfl, h2, by omega, by simpa using c1, HB0.out.trans (hb1.mono HB0.out.size)⟩)
  have hz1 : (w.alloc (.cells #[.int .i64 1, .int .i64 2] 38)).heap.size = w.heap.size + 1 := by simp
  rw [hz1] at hfa
  clear hz1
  have hsq := str_eq (rfl : s = s)
  have HSQ := hid hsq
  clear hsq efa
  clear hLJ hLM hLD hLC hLN hNJ hNM hND hNC hx hy hma hmb hmj hmm hmd hmc spz qj qa qc spn spl ha hb ht HB0 hna hnb hq1
  go_enter Tryz.func4, Tryz.ntmps4
  go_upto_region 2 with (go_at_call 13; go_must (refine hfa.mono ?_; rintro e w1 ⟨g, o, c, rfl, hc1, hc2, c1, b1⟩))
  go_upto_region 4 with fail
  have T1 : Hid (SLt w w1 _) := ⟨fun x hx => (T0.out.rows x hx).below b1, b1⟩
  have hpa := HPA.out w1 b1
  unfold Parses at hpa
  clear hfa c1 b1 T0 HPA
  go_upto_region 5 with (go_at_call 11; go_must (refine hpa.mono ?_; rintro e w2 ⟨v2, er2, rfl, hcase, b2⟩))
  have T2 : Hid (SLt w w2 _) := T1.out.below b2
  clear hpa b2 T1
  rcases hcase with ⟨l, hpo, rfl, sl, hll⟩ | ⟨hpo, rfl, rfl⟩
  · as_aux_lemma =>
    have kp := HPR.out v2 l w2 hpo hll sl T2.out.bel
    clear HPR hpo sl hll
    have hsq := HSQ.out
    go_upto_region 9 with (go_at_call 8; go_must (refine kp.mono ?_; rintro e w3 ⟨rfl, b3⟩))
    have T3 : Hid (SLt w w3 [(va, a), (vb, b)]) := T2.out.below b3
    clear b3 T2 kp hsq
    have HFIN : Hid True := trivial
    by_cases he : chE a b = 0
    · as_aux_lemma =>
      obtain ⟨HJ, HM, HD, HX, HY, hfn, HRG⟩ := HOKs.out he
      obtain ⟨h1f, h2f, h3f, h4f, h5f⟩ := hfn
      have HMA := hid h1f
      have HMB := hid h2f
      have HC := hid h3f
      have HNO := hid h4f
      have HFC := hid h5f
      clear h1f h2f h3f h4f h5f HFIN
      clear he HBAD HOKs
      have k0 : Hid (Spns w3 va a) := T3.out.get (by simp)
      have k1 : Hid (Spns w3 vb b) := T3.out.get (by simp)
      have kc := HJ.out _ k0.out k1.out
      go_upto_region 10 with (go_at_call 13; go_must (refine kc.mono ?_; rintro e z1 ⟨j1, j2, rfl, sj, bz1⟩))
      have T1 : Hid (SLt w z1 _) := T3.out.add bz1 sj
      clear kc k0 k1 bz1 T3 sj
      have k0 : Hid (Spns z1 va a) := T1.out.get (by simp)
      have k1 : Hid (Spns z1 vb b) := T1.out.get (by simp)
      have kc := HM.out _ k0.out k1.out
      go_upto_region 11 with (go_at_call 14; go_must (refine kc.mono ?_; rintro e z2 ⟨m1, m2, rfl, sm, bz2⟩))
      have T2 : Hid (SLt w z2 _) := T1.out.add bz2 sm
      clear kc k0 k1 bz2 T1 sm
      have k0 : Hid (Spns z2 va a) := T2.out.get (by simp)
      have k1 : Hid (Spns z2 vb b) := T2.out.get (by simp)
      have kc := HD.out _ k0.out k1.out
      go_upto_region 12 with (go_at_call 15; go_must (refine kc.mono ?_; rintro e z3 ⟨d1, d2, rfl, sd, bz3⟩))
      have T3 : Hid (SLt w z3 _) := T2.out.add bz3 sd
      clear kc k0 k1 bz3 T2 sd
      go_upto_region 14 with fail
      have k0 : Hid (Spns z3 va a) := T3.out.get (by simp)
      have kc := HX.out _ k0.out
      go_upto_region 15 with (go_at_call 16; go_must (refine kc.mono ?_; rintro e z4 ⟨rfl, bz4⟩))
      have T4 : Hid (SLt w z4 _) := T3.out.below bz4
      clear kc k0 bz4 T3
      have k0 : Hid (Spns z4 vb b) := T4.out.get (by simp)
      have kc := HY.out _ k0.out
      go_upto_region 16 with (go_at_call 16; go_must (refine kc.mono ?_; rintro e z5 ⟨rfl, bz5⟩))
      have T5 : Hid (SLt w z5 _) := T4.out.below bz5
      clear kc k0 bz5 T4
      by_cases hrg : (0 ≤ n ∧ n ≤ 65535) ∧ NJ ≤ 200 ∧ NM ≤ 200 ∧ ND ≤ 200
      · as_aux_lemma =>
        obtain ⟨HHJ, HHM, HHD, HMJ, HMM, HMD, hq1, hq2⟩ := HRG.out hrg.1 hrg.2.1 hrg.2.2.1 hrg.2.2.2
        obtain ⟨⟨hr0, hr1⟩, hr2, hr3, hr4⟩ := hrg
        have hr2' : (NJ : Int) ≤ 200 := by omega
        have hr3' : (NM : Int) ≤ 200 := by omega
        have hr4' : (ND : Int) ≤ 200 := by omega
        have HQ1 := hid hq1
        have HQ2 := hid hq2
        clear hq1 hq2 HRG
        go_upto_region 17 with fail
        have skj : Hid (Spns z5 (.slice j1 NJ j2) LJ) := T5.out.get (by simp)
        have kj := fun W (hW : Below z5.heap.size z5 W) => HHJ.out _ W (skj.out.below hW)
        have skm : Hid (Spns z5 (.slice m1 NM m2) LM) := T5.out.get (by simp)
        have km := fun W (hW : Below z5.heap.size z5 W) => HHM.out _ W (skm.out.below hW)
        have skd : Hid (Spns z5 (.slice d1 ND d2) LD) := T5.out.get (by simp)
        have kd := fun W (hW : Below z5.heap.size z5 W) => HHD.out _ W (skd.out.below hW)
        have hx1 : (x || y) = (x || y) := rfl
        clear hx1
        cases x <;> cases y
        all_goals
          as_aux_lemma =>
          go_upto_region 19 with (first | (go_at_call_of 16 (j2); refine (kj _ (Below.refl _ _)).mono ?_; rintro e q1 ⟨rfl, bq1⟩) | (go_at_call_of 16 (m2); refine (km q1 bq1).mono ?_; rintro e q2 ⟨rfl, bq2⟩; have bq2 := bq1.trans (bq2.mono bq1.size)) | (go_at_call_of 16 (d2); refine (kd q2 bq2).mono ?_; rintro e q3 ⟨rfl, bq3⟩; have bq3 := bq2.trans (bq3.mono bq2.size)))
          have T40 : Hid (SLt w q3 _) := T5.out.below bq3
          clear kj km kd skj skm skd bq1 bq2 bq3 T5
          have skj : Hid (Spns q3 (.slice j1 NJ j2) LJ) := T40.out.get (by simp)
          have kj := fun W (hW : Below q3.heap.size q3 W) => HMJ.out _ W (skj.out.below hW)
          have skm : Hid (Spns q3 (.slice m1 NM m2) LM) := T40.out.get (by simp)
          have km := fun W (hW : Below q3.heap.size q3 W) => HMM.out _ W (skm.out.below hW)
          have skd : Hid (Spns q3 (.slice d1 ND d2) LD) := T40.out.get (by simp)
          have kd := fun W (hW : Below q3.heap.size q3 W) => HMD.out _ W (skd.out.below hW)
          have ska : Hid (Spns q3 va a) := T40.out.get (by simp)
          have ka := fun W (hW : Below q3.heap.size q3 W) => HMA.out W (ska.out.below hW)
          have skb : Hid (Spns q3 vb b) := T40.out.get (by simp)
          have kb := fun W (hW : Below q3.heap.size q3 W) => HMB.out W (skb.out.below hW)
          have e1 := HQ1.out
          have e2 := HQ2.out
          have m0 : True := trivial
          go_upto_region 21 with (first | (go_at_call_of 17 (j2); refine (kj _ (Below.refl _ _)).mono ?_; rintro e p1 ⟨rfl, bp1⟩) | (go_at_call_of 17 (vb); refine (kb p2 bp2).mono ?_; rintro e p3 ⟨rfl, bp3⟩; have bp3 := bp2.trans (bp3.mono bp2.size)) | (go_at_call_of 17 (va); refine (ka p3 bp3).mono ?_; rintro e p4 ⟨rfl, bp4⟩; have bp4 := bp3.trans (bp4.mono bp3.size)) | (go_at_call_of 17 (m2); refine (km p5 bp5).mono ?_; rintro e p6 ⟨rfl, bp6⟩; have bp6 := bp5.trans (bp6.mono bp5.size)) | (go_at_call_of 17 (d2); have m1 : True := m0; clear m0; refine (kd p1 bp1).mono ?_; rintro e p2 ⟨rfl, bp2⟩; have bp2 := bp1.trans (bp2.mono bp1.size)) | (go_at_call_of 17 (d2); have m2' : True := m1; clear m1; refine (kd p4 bp4).mono ?_; rintro e p5 ⟨rfl, bp5⟩; have bp5 := bp4.trans (bp5.mono bp4.size)))
          have T41 : Hid (SLt w p6 _) := T40.out.below bp6
          clear kj km kd ka kb skj skm skd ska skb bp1 bp2 bp3 bp4 bp5 bp6 T40 e1 e2
          have k0 : Hid (Spns p6 va a) := T41.out.get (by simp)
          have kc := HC.out _ k0.out
          go_upto_region 22 with (go_at_call 18; go_must (refine kc.mono ?_; rintro e z42 ⟨c1, c2, rfl, sc, bz42⟩))
          have T42 : Hid (SLt w z42 _) := T41.out.add bz42 sc
          clear kc k0 bz42 T41 sc
          by_cases hcl : 200 < NC
          · as_aux_lemma =>
            have hcl' : (200 : Int) < (NC : Int) := by omega
            have HBB : Hid (Below w.heap.size w z42) := T42.out.bel
            clear T42
            go_wp2_with fail
            go_ret
            exact ⟨rfl, HBB.out⟩
          · as_aux_lemma =>
            have hcl' : ¬ (200 : Int) < (NC : Int) := by omega
            obtain ⟨HCC, HCM⟩ := HFC.out (by omega)
            go_upto_region 26 with fail
            have k0 : Hid (Spns z42 (.slice c1 NC c2) LC) := T42.out.get (by simp)
            have kc := HCC.out _ _ k0.out
            go_upto_region 27 with (go_at_call 18; go_must (refine kc.mono ?_; rintro e z43 ⟨f1, rfl, sf, bz43⟩))
            have T43 : Hid (SLt w z43 _) := T42.out.add bz43 sf
            clear kc k0 bz43 T42 sf
            have k0 : Hid (Spns z43 va a) := T43.out.get (by simp)
            have kc := HNO.out _ k0.out
            go_upto_region 28 with (go_at_call 19; go_must (refine kc.mono ?_; rintro e z44 ⟨g1, rfl, sg, bz44⟩))
            have T44 : Hid (SLt w z44 _) := T43.out.add bz44 sg
            clear kc k0 bz44 T43 sg
            have k0 : Hid (Spns z44 f1 LN) := T44.out.get (by simp)
            have k1 : Hid (Spns z44 g1 LN) := T44.out.get (by simp)
            have kc := sameSp f1 g1 LN _ k0.out k1.out
            go_upto_region 29 with (go_at_call 12; go_must (refine kc.mono ?_; rintro e z45 ⟨rfl, bz45⟩))
            have T45 : Hid (SLt w z45 _) := T44.out.below bz45
            clear kc k0 k1 bz45 T44
            have k0 : Hid (Spns z45 (.slice c1 NC c2) LC) := T45.out.get (by simp)
            have k1 : Hid (Spns z45 va a) := T45.out.get (by simp)
            have kc := HCM.out _ _ k0.out
            have kd := fun W (hW : Below z45.heap.size z45 W) => HMA.out W (k1.out.below hW)
            have HBB : Hid (Below w.heap.size w z45) := T45.out.bel
            have hsum := HSUM.out
            clear T45
            go_wp2_with (first | (go_at_call_of 17 (c2); refine kc.mono ?_; rintro e q1 ⟨rfl, bq1⟩) | (go_at_call_of 17 (va); refine (kd q1 bq1).mono ?_; rintro e q2 ⟨rfl, bq2⟩))
            go_ret
            exact ⟨rfl, (HBB.out.trans (bq1.mono HBB.out.size)).trans (bq2.mono (Nat.le_trans HBB.out.size bq1.size))⟩
      · as_aux_lemma =>
        clear HRG
        by_cases hr0 : 0 ≤ n
        · by_cases hr1 : n ≤ 65535
          · by_cases hr2 : NJ ≤ 200
            · have hr2' : (NJ : Int) ≤ 200 := by omega
              by_cases hr3 : NM ≤ 200
              · as_aux_lemma =>
                have hr3' : (NM : Int) ≤ 200 := by omega
                have hr4' : ¬ (ND : Int) ≤ 200 := by omega
                clear hrg
                go_upto_region 21 with fail
                have k0 : Hid (Spns z5 va a) := T5.out.get (by simp)
                have kc := HC.out _ k0.out
                go_upto_region 22 with (go_at_call 18; go_must (refine kc.mono ?_; rintro e z6 ⟨c1, c2, rfl, sc, bz6⟩))
                have T6 : Hid (SLt w z6 _) := T5.out.add bz6 sc
                clear kc k0 bz6 T5 sc
                by_cases hcl : 200 < NC
                · as_aux_lemma =>
                  have hcl' : (200 : Int) < (NC : Int) := by omega
                  have HBB : Hid (Below w.heap.size w z6) := T6.out.bel
                  clear T6
                  go_wp2_with fail
                  go_ret
                  exact ⟨rfl, HBB.out⟩
                · as_aux_lemma =>
                  have hcl' : ¬ (200 : Int) < (NC : Int) := by omega
                  obtain ⟨HCC, HCM⟩ := HFC.out (by omega)
                  go_upto_region 26 with fail
                  have k0 : Hid (Spns z6 (.slice c1 NC c2) LC) := T6.out.get (by simp)
                  have kc := HCC.out _ _ k0.out
                  go_upto_region 27 with (go_at_call 18; go_must (refine kc.mono ?_; rintro e z7 ⟨f1, rfl, sf, bz7⟩))
                  have T7 : Hid (SLt w z7 _) := T6.out.add bz7 sf
                  clear kc k0 bz7 T6 sf
                  have k0 : Hid (Spns z7 va a) := T7.out.get (by simp)
                  have kc := HNO.out _ k0.out
                  go_upto_region 28 with (go_at_call 19; go_must (refine kc.mono ?_; rintro e z8 ⟨g1, rfl, sg, bz8⟩))
                  have T8 : Hid (SLt w z8 _) := T7.out.add bz8 sg
                  clear kc k0 bz8 T7 sg
                  have k0 : Hid (Spns z8 f1 LN) := T8.out.get (by simp)
                  have k1 : Hid (Spns z8 g1 LN) := T8.out.get (by simp)
                  have kc := sameSp f1 g1 LN _ k0.out k1.out
                  go_upto_region 29 with (go_at_call 12; go_must (refine kc.mono ?_; rintro e z9 ⟨rfl, bz9⟩))
                  have T9 : Hid (SLt w z9 _) := T8.out.below bz9
                  clear kc k0 k1 bz9 T8
                  have k0 : Hid (Spns z9 (.slice c1 NC c2) LC) := T9.out.get (by simp)
                  have k1 : Hid (Spns z9 va a) := T9.out.get (by simp)
                  have kc := HCM.out _ _ k0.out
                  have kd := fun W (hW : Below z9.heap.size z9 W) => HMA.out W (k1.out.below hW)
                  have HBB : Hid (Below w.heap.size w z9) := T9.out.bel
                  have hsum := HSUM.out
                  clear T9
                  go_wp2_with (first | (go_at_call_of 17 (c2); refine kc.mono ?_; rintro e q1 ⟨rfl, bq1⟩) | (go_at_call_of 17 (va); refine (kd q1 bq1).mono ?_; rintro e q2 ⟨rfl, bq2⟩))
                  go_ret
                  exact ⟨rfl, (HBB.out.trans (bq1.mono HBB.out.size)).trans (bq2.mono (Nat.le_trans HBB.out.size bq1.size))⟩
              · as_aux_lemma =>
                have hr3' : ¬ (NM : Int) ≤ 200 := by omega
                clear hrg
                go_upto_region 21 with fail
                have k0 : Hid (Spns z5 va a) := T5.out.get (by simp)
                have kc := HC.out _ k0.out
                go_upto_region 22 with (go_at_call 18; go_must (refine kc.mono ?_; rintro e z6 ⟨c1, c2, rfl, sc, bz6⟩))
                have T6 : Hid (SLt w z6 _) := T5.out.add bz6 sc
                clear kc k0 bz6 T5 sc
                by_cases hcl : 200 < NC
                · as_aux_lemma =>
                  have hcl' : (200 : Int) < (NC : Int) := by omega
                  have HBB : Hid (Below w.heap.size w z6) := T6.out.bel
                  clear T6
                  go_wp2_with fail
                  go_ret
                  exact ⟨rfl, HBB.out⟩
                · as_aux_lemma =>
                  have hcl' : ¬ (200 : Int) < (NC : Int) := by omega
                  obtain ⟨HCC, HCM⟩ := HFC.out (by omega)
                  go_upto_region 26 with fail
                  have k0 : Hid (Spns z6 (.slice c1 NC c2) LC) := T6.out.get (by simp)
                  have kc := HCC.out _ _ k0.out
                  go_upto_region 27 with (go_at_call 18; go_must (refine kc.mono ?_; rintro e z7 ⟨f1, rfl, sf, bz7⟩))
                  have T7 : Hid (SLt w z7 _) := T6.out.add bz7 sf
                  clear kc k0 bz7 T6 sf
                  have k0 : Hid (Spns z7 va a) := T7.out.get (by simp)
                  have kc := HNO.out _ k0.out
                  go_upto_region 28 with (go_at_call 19; go_must (refine kc.mono ?_; rintro e z8 ⟨g1, rfl, sg, bz8⟩))
                  have T8 : Hid (SLt w z8 _) := T7.out.add bz8 sg
                  clear kc k0 bz8 T7 sg
                  have k0 : Hid (Spns z8 f1 LN) := T8.out.get (by simp)
                  have k1 : Hid (Spns z8 g1 LN) := T8.out.get (by simp)
                  have kc := sameSp f1 g1 LN _ k0.out k1.out
                  go_upto_region 29 with (go_at_call 12; go_must (refine kc.mono ?_; rintro e z9 ⟨rfl, bz9⟩))
                  have T9 : Hid (SLt w z9 _) := T8.out.below bz9
                  clear kc k0 k1 bz9 T8
                  have k0 : Hid (Spns z9 (.slice c1 NC c2) LC) := T9.out.get (by simp)
                  have k1 : Hid (Spns z9 va a) := T9.out.get (by simp)
                  have kc := HCM.out _ _ k0.out
                  have kd := fun W (hW : Below z9.heap.size z9 W) => HMA.out W (k1.out.below hW)
                  have HBB : Hid (Below w.heap.size w z9) := T9.out.bel
                  have hsum := HSUM.out
                  clear T9
                  go_wp2_with (first | (go_at_call_of 17 (c2); refine kc.mono ?_; rintro e q1 ⟨rfl, bq1⟩) | (go_at_call_of 17 (va); refine (kd q1 bq1).mono ?_; rintro e q2 ⟨rfl, bq2⟩))
                  go_ret
                  exact ⟨rfl, (HBB.out.trans (bq1.mono HBB.out.size)).trans (bq2.mono (Nat.le_trans HBB.out.size bq1.size))⟩
            · as_aux_lemma =>
              have hr2' : ¬ (NJ : Int) ≤ 200 := by omega
              clear hrg
              go_upto_region 21 with fail
              have k0 : Hid (Spns z5 va a) := T5.out.get (by simp)
              have kc := HC.out _ k0.out
              go_upto_region 22 with (go_at_call 18; go_must (refine kc.mono ?_; rintro e z6 ⟨c1, c2, rfl, sc, bz6⟩))
              have T6 : Hid (SLt w z6 _) := T5.out.add bz6 sc
              clear kc k0 bz6 T5 sc
              by_cases hcl : 200 < NC
              · as_aux_lemma =>
                have hcl' : (200 : Int) < (NC : Int) := by omega
                have HBB : Hid (Below w.heap.size w z6) := T6.out.bel
                clear T6
                go_wp2_with fail
                go_ret
                exact ⟨rfl, HBB.out⟩
              · as_aux_lemma =>
                have hcl' : ¬ (200 : Int) < (NC : Int) := by omega
                obtain ⟨HCC, HCM⟩ := HFC.out (by omega)
                go_upto_region 26 with fail
                have k0 : Hid (Spns z6 (.slice c1 NC c2) LC) := T6.out.get (by simp)
                have kc := HCC.out _ _ k0.out
                go_upto_region 27 with (go_at_call 18; go_must (refine kc.mono ?_; rintro e z7 ⟨f1, rfl, sf, bz7⟩))
                have T7 : Hid (SLt w z7 _) := T6.out.add bz7 sf
                clear kc k0 bz7 T6 sf
                have k0 : Hid (Spns z7 va a) := T7.out.get (by simp)
                have kc := HNO.out _ k0.out
                go_upto_region 28 with (go_at_call 19; go_must (refine kc.mono ?_; rintro e z8 ⟨g1, rfl, sg, bz8⟩))
                have T8 : Hid (SLt w z8 _) := T7.out.add bz8 sg
                clear kc k0 bz8 T7 sg
                have k0 : Hid (Spns z8 f1 LN) := T8.out.get (by simp)
                have k1 : Hid (Spns z8 g1 LN) := T8.out.get (by simp)
                have kc := sameSp f1 g1 LN _ k0.out k1.out
                go_upto_region 29 with (go_at_call 12; go_must (refine kc.mono ?_; rintro e z9 ⟨rfl, bz9⟩))
                have T9 : Hid (SLt w z9 _) := T8.out.below bz9
                clear kc k0 k1 bz9 T8
                have k0 : Hid (Spns z9 (.slice c1 NC c2) LC) := T9.out.get (by simp)
                have k1 : Hid (Spns z9 va a) := T9.out.get (by simp)
                have kc := HCM.out _ _ k0.out
                have kd := fun W (hW : Below z9.heap.size z9 W) => HMA.out W (k1.out.below hW)
                have HBB : Hid (Below w.heap.size w z9) := T9.out.bel
                have hsum := HSUM.out
                clear T9
                go_wp2_with (first | (go_at_call_of 17 (c2); refine kc.mono ?_; rintro e q1 ⟨rfl, bq1⟩) | (go_at_call_of 17 (va); refine (kd q1 bq1).mono ?_; rintro e q2 ⟨rfl, bq2⟩))
                go_ret
                exact ⟨rfl, (HBB.out.trans (bq1.mono HBB.out.size)).trans (bq2.mono (Nat.le_trans HBB.out.size bq1.size))⟩
          · as_aux_lemma =>
            clear hrg
            go_upto_region 21 with fail
            have k0 : Hid (Spns z5 va a) := T5.out.get (by simp)
            have kc := HC.out _ k0.out
            go_upto_region 22 with (go_at_call 18; go_must (refine kc.mono ?_; rintro e z6 ⟨c1, c2, rfl, sc, bz6⟩))
            have T6 : Hid (SLt w z6 _) := T5.out.add bz6 sc
            clear kc k0 bz6 T5 sc
            by_cases hcl : 200 < NC
            · as_aux_lemma =>
              have hcl' : (200 : Int) < (NC : Int) := by omega
              have HBB : Hid (Below w.heap.size w z6) := T6.out.bel
              clear T6
              go_wp2_with fail
              go_ret
              exact ⟨rfl, HBB.out⟩
            · as_aux_lemma =>
              have hcl' : ¬ (200 : Int) < (NC : Int) := by omega
              obtain ⟨HCC, HCM⟩ := HFC.out (by omega)
              go_upto_region 26 with fail
              have k0 : Hid (Spns z6 (.slice c1 NC c2) LC) := T6.out.get (by simp)
              have kc := HCC.out _ _ k0.out
              go_upto_region 27 with (go_at_call 18; go_must (refine kc.mono ?_; rintro e z7 ⟨f1, rfl, sf, bz7⟩))
              have T7 : Hid (SLt w z7 _) := T6.out.add bz7 sf
              clear kc k0 bz7 T6 sf
              have k0 : Hid (Spns z7 va a) := T7.out.get (by simp)
              have kc := HNO.out _ k0.out
              go_upto_region 28 with (go_at_call 19; go_must (refine kc.mono ?_; rintro e z8 ⟨g1, rfl, sg, bz8⟩))
              have T8 : Hid (SLt w z8 _) := T7.out.add bz8 sg
              clear kc k0 bz8 T7 sg
              have k0 : Hid (Spns z8 f1 LN) := T8.out.get (by simp)
              have k1 : Hid (Spns z8 g1 LN) := T8.out.get (by simp)
              have kc := sameSp f1 g1 LN _ k0.out k1.out
              go_upto_region 29 with (go_at_call 12; go_must (refine kc.mono ?_; rintro e z9 ⟨rfl, bz9⟩))
              have T9 : Hid (SLt w z9 _) := T8.out.below bz9
              clear kc k0 k1 bz9 T8
              have k0 : Hid (Spns z9 (.slice c1 NC c2) LC) := T9.out.get (by simp)
              have k1 : Hid (Spns z9 va a) := T9.out.get (by simp)
              have kc := HCM.out _ _ k0.out
              have kd := fun W (hW : Below z9.heap.size z9 W) => HMA.out W (k1.out.below hW)
              have HBB : Hid (Below w.heap.size w z9) := T9.out.bel
              have hsum := HSUM.out
              clear T9
              go_wp2_with (first | (go_at_call_of 17 (c2); refine kc.mono ?_; rintro e q1 ⟨rfl, bq1⟩) | (go_at_call_of 17 (va); refine (kd q1 bq1).mono ?_; rintro e q2 ⟨rfl, bq2⟩))
              go_ret
              exact ⟨rfl, (HBB.out.trans (bq1.mono HBB.out.size)).trans (bq2.mono (Nat.le_trans HBB.out.size bq1.size))⟩
        · as_aux_lemma =>
          clear hrg
          go_upto_region 21 with fail
          have k0 : Hid (Spns z5 va a) := T5.out.get (by simp)
          have kc := HC.out _ k0.out
          go_upto_region 22 with (go_at_call 18; go_must (refine kc.mono ?_; rintro e z6 ⟨c1, c2, rfl, sc, bz6⟩))
          have T6 : Hid (SLt w z6 _) := T5.out.add bz6 sc
          clear kc k0 bz6 T5 sc
          by_cases hcl : 200 < NC
          · as_aux_lemma =>
            have hcl' : (200 : Int) < (NC : Int) := by omega
            have HBB : Hid (Below w.heap.size w z6) := T6.out.bel
            clear T6
            go_wp2_with fail
            go_ret
            exact ⟨rfl, HBB.out⟩
          · as_aux_lemma =>
            have hcl' : ¬ (200 : Int) < (NC : Int) := by omega
            obtain ⟨HCC, HCM⟩ := HFC.out (by omega)
            go_upto_region 26 with fail
            have k0 : Hid (Spns z6 (.slice c1 NC c2) LC) := T6.out.get (by simp)
            have kc := HCC.out _ _ k0.out
            go_upto_region 27 with (go_at_call 18; go_must (refine kc.mono ?_; rintro e z7 ⟨f1, rfl, sf, bz7⟩))
            have T7 : Hid (SLt w z7 _) := T6.out.add bz7 sf
            clear kc k0 bz7 T6 sf
            have k0 : Hid (Spns z7 va a) := T7.out.get (by simp)
            have kc := HNO.out _ k0.out
            go_upto_region 28 with (go_at_call 19; go_must (refine kc.mono ?_; rintro e z8 ⟨g1, rfl, sg, bz8⟩))
            have T8 : Hid (SLt w z8 _) := T7.out.add bz8 sg
            clear kc k0 bz8 T7 sg
            have k0 : Hid (Spns z8 f1 LN) := T8.out.get (by simp)
            have k1 : Hid (Spns z8 g1 LN) := T8.out.get (by simp)
            have kc := sameSp f1 g1 LN _ k0.out k1.out
            go_upto_region 29 with (go_at_call 12; go_must (refine kc.mono ?_; rintro e z9 ⟨rfl, bz9⟩))
            have T9 : Hid (SLt w z9 _) := T8.out.below bz9
            clear kc k0 k1 bz9 T8
            have k0 : Hid (Spns z9 (.slice c1 NC c2) LC) := T9.out.get (by simp)
            have k1 : Hid (Spns z9 va a) := T9.out.get (by simp)
            have kc := HCM.out _ _ k0.out
            have kd := fun W (hW : Below z9.heap.size z9 W) => HMA.out W (k1.out.below hW)
            have HBB : Hid (Below w.heap.size w z9) := T9.out.bel
            have hsum := HSUM.out
            clear T9
            go_wp2_with (first | (go_at_call_of 17 (c2); refine kc.mono ?_; rintro e q1 ⟨rfl, bq1⟩) | (go_at_call_of 17 (va); refine (kd q1 bq1).mono ?_; rintro e q2 ⟨rfl, bq2⟩))
            go_ret
            exact ⟨rfl, (HBB.out.trans (bq1.mono HBB.out.size)).trans (bq2.mono (Nat.le_trans HBB.out.size bq1.size))⟩
    · as_aux_lemma =>
      obtain ⟨HJ, HM, HD⟩ := HBAD.out he
      clear he HBAD HOKs
      have k0 : Hid (Spns w3 va a) := T3.out.get (by simp)
      have k1 : Hid (Spns w3 vb b) := T3.out.get (by simp)
      have kc := HJ.out _ k0.out k1.out
      go_upto_region 10 with (go_at_call 13; go_must (refine kc.mono ?_; rintro e z1 ⟨j1, rfl, bz1⟩))
      have T1 : Hid (SLt w z1 _) := T3.out.below bz1
      clear kc k0 k1 bz1 T3
      have k0 : Hid (Spns z1 va a) := T1.out.get (by simp)
      have k1 : Hid (Spns z1 vb b) := T1.out.get (by simp)
      have kc := HM.out _ k0.out k1.out
      go_upto_region 11 with (go_at_call 14; go_must (refine kc.mono ?_; rintro e z2 ⟨m1, rfl, bz2⟩))
      have T2 : Hid (SLt w z2 _) := T1.out.below bz2
      clear kc k0 k1 bz2 T1
      have k0 : Hid (Spns z2 va a) := T2.out.get (by simp)
      have k1 : Hid (Spns z2 vb b) := T2.out.get (by simp)
      have kc := HD.out _ k0.out k1.out
      go_upto_region 12 with (go_at_call 15; go_must (refine kc.mono ?_; rintro e z3 ⟨d1, rfl, bz3⟩))
      have T3 : Hid (SLt w z3 _) := T2.out.below bz3
      clear kc k0 k1 bz3 T2
      have HBB : Hid (Below w.heap.size w z3) := T3.out.bel
      clear T3
      go_wp2_with fail
      go_ret
      exact ⟨rfl, HBB.out⟩
  · as_aux_lemma =>
    clear HPR hpo
    go_upto_region 9 with fail
    have T3 : Hid (SLt w w2 [(va, a), (vb, b)]) := T2.out
    clear T2
    have HFIN : Hid True := trivial
    by_cases he : chE a b = 0
    · as_aux_lemma =>
      obtain ⟨HJ, HM, HD, HX, HY, hfn, HRG⟩ := HOKs.out he
      obtain ⟨h1f, h2f, h3f, h4f, h5f⟩ := hfn
      have HMA := hid h1f
      have HMB := hid h2f
      have HC := hid h3f
      have HNO := hid h4f
      have HFC := hid h5f
      clear h1f h2f h3f h4f h5f HFIN
      clear he HBAD HOKs
      have k0 : Hid (Spns w2 va a) := T3.out.get (by simp)
      have k1 : Hid (Spns w2 vb b) := T3.out.get (by simp)
      have kc := HJ.out _ k0.out k1.out
      go_upto_region 10 with (go_at_call 13; go_must (refine kc.mono ?_; rintro e z1 ⟨j1, j2, rfl, sj, bz1⟩))
      have T1 : Hid (SLt w z1 _) := T3.out.add bz1 sj
      clear kc k0 k1 bz1 T3 sj
      have k0 : Hid (Spns z1 va a) := T1.out.get (by simp)
      have k1 : Hid (Spns z1 vb b) := T1.out.get (by simp)
      have kc := HM.out _ k0.out k1.out
      go_upto_region 11 with (go_at_call 14; go_must (refine kc.mono ?_; rintro e z2 ⟨m1, m2, rfl, sm, bz2⟩))
      have T2 : Hid (SLt w z2 _) := T1.out.add bz2 sm
      clear kc k0 k1 bz2 T1 sm
      have k0 : Hid (Spns z2 va a) := T2.out.get (by simp)
      have k1 : Hid (Spns z2 vb b) := T2.out.get (by simp)
      have kc := HD.out _ k0.out k1.out
      go_upto_region 12 with (go_at_call 15; go_must (refine kc.mono ?_; rintro e z3 ⟨d1, d2, rfl, sd, bz3⟩))
      have T3 : Hid (SLt w z3 _) := T2.out.add bz3 sd
      clear kc k0 k1 bz3 T2 sd
      go_upto_region 14 with fail
      have k0 : Hid (Spns z3 va a) := T3.out.get (by simp)
      have kc := HX.out _ k0.out
      go_upto_region 15 with (go_at_call 16; go_must (refine kc.mono ?_; rintro e z4 ⟨rfl, bz4⟩))
      have T4 : Hid (SLt w z4 _) := T3.out.below bz4
      clear kc k0 bz4 T3
      have k0 : Hid (Spns z4 vb b) := T4.out.get (by simp)
      have kc := HY.out _ k0.out
      go_upto_region 16 with (go_at_call 16; go_must (refine kc.mono ?_; rintro e z5 ⟨rfl, bz5⟩))
      have T5 : Hid (SLt w z5 _) := T4.out.below bz5
      clear kc k0 bz5 T4
      by_cases hrg : (0 ≤ n ∧ n ≤ 65535) ∧ NJ ≤ 200 ∧ NM ≤ 200 ∧ ND ≤ 200
      · as_aux_lemma =>
        obtain ⟨HHJ, HHM, HHD, HMJ, HMM, HMD, hq1, hq2⟩ := HRG.out hrg.1 hrg.2.1 hrg.2.2.1 hrg.2.2.2
        obtain ⟨⟨hr0, hr1⟩, hr2, hr3, hr4⟩ := hrg
        have hr2' : (NJ : Int) ≤ 200 := by omega
        have hr3' : (NM : Int) ≤ 200 := by omega
        have hr4' : (ND : Int) ≤ 200 := by omega
        have HQ1 := hid hq1
        have HQ2 := hid hq2
        clear hq1 hq2 HRG
        go_upto_region 17 with fail
        have skj : Hid (Spns z5 (.slice j1 NJ j2) LJ) := T5.out.get (by simp)
        have kj := fun W (hW : Below z5.heap.size z5 W) => HHJ.out _ W (skj.out.below hW)
        have skm : Hid (Spns z5 (.slice m1 NM m2) LM) := T5.out.get (by simp)
        have km := fun W (hW : Below z5.heap.size z5 W) => HHM.out _ W (skm.out.below hW)
        have skd : Hid (Spns z5 (.slice d1 ND d2) LD) := T5.out.get (by simp)
        have kd := fun W (hW : Below z5.heap.size z5 W) => HHD.out _ W (skd.out.below hW)
        have hx1 : (x || y) = (x || y) := rfl
        clear hx1
        cases x <;> cases y
        all_goals
          as_aux_lemma =>
          go_upto_region 19 with (first | (go_at_call_of 16 (j2); refine (kj _ (Below.refl _ _)).mono ?_; rintro e q1 ⟨rfl, bq1⟩) | (go_at_call_of 16 (m2); refine (km q1 bq1).mono ?_; rintro e q2 ⟨rfl, bq2⟩; have bq2 := bq1.trans (bq2.mono bq1.size)) | (go_at_call_of 16 (d2); refine (kd q2 bq2).mono ?_; rintro e q3 ⟨rfl, bq3⟩; have bq3 := bq2.trans (bq3.mono bq2.size)))
          have T40 : Hid (SLt w q3 _) := T5.out.below bq3
          clear kj km kd skj skm skd bq1 bq2 bq3 T5
          have skj : Hid (Spns q3 (.slice j1 NJ j2) LJ) := T40.out.get (by simp)
          have kj := fun W (hW : Below q3.heap.size q3 W) => HMJ.out _ W (skj.out.below hW)
          have skm : Hid (Spns q3 (.slice m1 NM m2) LM) := T40.out.get (by simp)
          have km := fun W (hW : Below q3.heap.size q3 W) => HMM.out _ W (skm.out.below hW)
          have skd : Hid (Spns q3 (.slice d1 ND d2) LD) := T40.out.get (by simp)
          have kd := fun W (hW : Below q3.heap.size q3 W) => HMD.out _ W (skd.out.below hW)
          have ska : Hid (Spns q3 va a) := T40.out.get (by simp)
          have ka := fun W (hW : Below q3.heap.size q3 W) => HMA.out W (ska.out.below hW)
          have skb : Hid (Spns q3 vb b) := T40.out.get (by simp)
          have kb := fun W (hW : Below q3.heap.size q3 W) => HMB.out W (skb.out.below hW)
          have e1 := HQ1.out
          have e2 := HQ2.out
          have m0 : True := trivial
          go_upto_region 21 with (first | (go_at_call_of 17 (j2); refine (kj _ (Below.refl _ _)).mono ?_; rintro e p1 ⟨rfl, bp1⟩) | (go_at_call_of 17 (vb); refine (kb p2 bp2).mono ?_; rintro e p3 ⟨rfl, bp3⟩; have bp3 := bp2.trans (bp3.mono bp2.size)) | (go_at_call_of 17 (va); refine (ka p3 bp3).mono ?_; rintro e p4 ⟨rfl, bp4⟩; have bp4 := bp3.trans (bp4.mono bp3.size)) | (go_at_call_of 17 (m2); refine (km p5 bp5).mono ?_; rintro e p6 ⟨rfl, bp6⟩; have bp6 := bp5.trans (bp6.mono bp5.size)) | (go_at_call_of 17 (d2); have m1 : True := m0; clear m0; refine (kd p1 bp1).mono ?_; rintro e p2 ⟨rfl, bp2⟩; have bp2 := bp1.trans (bp2.mono bp1.size)) | (go_at_call_of 17 (d2); have m2' : True := m1; clear m1; refine (kd p4 bp4).mono ?_; rintro e p5 ⟨rfl, bp5⟩; have bp5 := bp4.trans (bp5.mono bp4.size)))
          have T41 : Hid (SLt w p6 _) := T40.out.below bp6
          clear kj km kd ka kb skj skm skd ska skb bp1 bp2 bp3 bp4 bp5 bp6 T40 e1 e2
          have k0 : Hid (Spns p6 va a) := T41.out.get (by simp)
          have kc := HC.out _ k0.out
          go_upto_region 22 with (go_at_call 18; go_must (refine kc.mono ?_; rintro e z42 ⟨c1, c2, rfl, sc, bz42⟩))
          have T42 : Hid (SLt w z42 _) := T41.out.add bz42 sc
          clear kc k0 bz42 T41 sc
          by_cases hcl : 200 < NC
          · as_aux_lemma =>
            have hcl' : (200 : Int) < (NC : Int) := by omega
            have HBB : Hid (Below w.heap.size w z42) := T42.out.bel
            clear T42
            go_wp2_with fail
            go_ret
            exact ⟨rfl, HBB.out⟩
          · as_aux_lemma =>
            have hcl' : ¬ (200 : Int) < (NC : Int) := by omega
            obtain ⟨HCC, HCM⟩ := HFC.out (by omega)
            go_upto_region 26 with fail
            have k0 : Hid (Spns z42 (.slice c1 NC c2) LC) := T42.out.get (by simp)
            have kc := HCC.out _ _ k0.out
            go_upto_region 27 with (go_at_call 18; go_must (refine kc.mono ?_; rintro e z43 ⟨f1, rfl, sf, bz43⟩))
            have T43 : Hid (SLt w z43 _) := T42.out.add bz43 sf
            clear kc k0 bz43 T42 sf
            have k0 : Hid (Spns z43 va a) := T43.out.get (by simp)
            have kc := HNO.out _ k0.out
            go_upto_region 28 with (go_at_call 19; go_must (refine kc.mono ?_; rintro e z44 ⟨g1, rfl, sg, bz44⟩))
            have T44 : Hid (SLt w z44 _) := T43.out.add bz44 sg
            clear kc k0 bz44 T43 sg
            have k0 : Hid (Spns z44 f1 LN) := T44.out.get (by simp)
            have k1 : Hid (Spns z44 g1 LN) := T44.out.get (by simp)
            have kc := sameSp f1 g1 LN _ k0.out k1.out
            go_upto_region 29 with (go_at_call 12; go_must (refine kc.mono ?_; rintro e z45 ⟨rfl, bz45⟩))
            have T45 : Hid (SLt w z45 _) := T44.out.below bz45
            clear kc k0 k1 bz45 T44
            have k0 : Hid (Spns z45 (.slice c1 NC c2) LC) := T45.out.get (by simp)
            have k1 : Hid (Spns z45 va a) := T45.out.get (by simp)
            have kc := HCM.out _ _ k0.out
            have kd := fun W (hW : Below z45.heap.size z45 W) => HMA.out W (k1.out.below hW)
            have HBB : Hid (Below w.heap.size w z45) := T45.out.bel
            have hsum := HSUM.out
            clear T45
            go_wp2_with (first | (go_at_call_of 17 (c2); refine kc.mono ?_; rintro e q1 ⟨rfl, bq1⟩) | (go_at_call_of 17 (va); refine (kd q1 bq1).mono ?_; rintro e q2 ⟨rfl, bq2⟩))
            go_ret
            exact ⟨rfl, (HBB.out.trans (bq1.mono HBB.out.size)).trans (bq2.mono (Nat.le_trans HBB.out.size bq1.size))⟩
      · as_aux_lemma =>
        clear HRG
        by_cases hr0 : 0 ≤ n
        · by_cases hr1 : n ≤ 65535
          · by_cases hr2 : NJ ≤ 200
            · have hr2' : (NJ : Int) ≤ 200 := by omega
              by_cases hr3 : NM ≤ 200
              · as_aux_lemma =>
                have hr3' : (NM : Int) ≤ 200 := by omega
                have hr4' : ¬ (ND : Int) ≤ 200 := by omega
                clear hrg
                go_upto_region 21 with fail
                have k0 : Hid (Spns z5 va a) := T5.out.get (by simp)
                have kc := HC.out _ k0.out
                go_upto_region 22 with (go_at_call 18; go_must (refine kc.mono ?_; rintro e z6 ⟨c1, c2, rfl, sc, bz6⟩))
                have T6 : Hid (SLt w z6 _) := T5.out.add bz6 sc
                clear kc k0 bz6 T5 sc
                by_cases hcl : 200 < NC
                · as_aux_lemma =>
                  have hcl' : (200 : Int) < (NC : Int) := by omega
                  have HBB : Hid (Below w.heap.size w z6) := T6.out.bel
                  clear T6
                  go_wp2_with fail
                  go_ret
                  exact ⟨rfl, HBB.out⟩
                · as_aux_lemma =>
                  have hcl' : ¬ (200 : Int) < (NC : Int) := by omega
                  obtain ⟨HCC, HCM⟩ := HFC.out (by omega)
                  go_upto_region 26 with fail
                  have k0 : Hid (Spns z6 (.slice c1 NC c2) LC) := T6.out.get (by simp)
                  have kc := HCC.out _ _ k0.out
                  go_upto_region 27 with (go_at_call 18; go_must (refine kc.mono ?_; rintro e z7 ⟨f1, rfl, sf, bz7⟩))
                  have T7 : Hid (SLt w z7 _) := T6.out.add bz7 sf
                  clear kc k0 bz7 T6 sf
                  have k0 : Hid (Spns z7 va a) := T7.out.get (by simp)
                  have kc := HNO.out _ k0.out
                  go_upto_region 28 with (go_at_call 19; go_must (refine kc.mono ?_; rintro e z8 ⟨g1, rfl, sg, bz8⟩))
                  have T8 : Hid (SLt w z8 _) := T7.out.add bz8 sg
                  clear kc k0 bz8 T7 sg
                  have k0 : Hid (Spns z8 f1 LN) := T8.out.get (by simp)
                  have k1 : Hid (Spns z8 g1 LN) := T8.out.get (by simp)
                  have kc := sameSp f1 g1 LN _ k0.out k1.out
                  go_upto_region 29 with (go_at_call 12; go_must (refine kc.mono ?_; rintro e z9 ⟨rfl, bz9⟩))
                  have T9 : Hid (SLt w z9 _) := T8.out.below bz9
                  clear kc k0 k1 bz9 T8
                  have k0 : Hid (Spns z9 (.slice c1 NC c2) LC) := T9.out.get (by simp)
                  have k1 : Hid (Spns z9 va a) := T9.out.get (by simp)
                  have kc := HCM.out _ _ k0.out
                  have kd := fun W (hW : Below z9.heap.size z9 W) => HMA.out W (k1.out.below hW)
                  have HBB : Hid (Below w.heap.size w z9) := T9.out.bel
                  have hsum := HSUM.out
                  clear T9
                  go_wp2_with (first | (go_at_call_of 17 (c2); refine kc.mono ?_; rintro e q1 ⟨rfl, bq1⟩) | (go_at_call_of 17 (va); refine (kd q1 bq1).mono ?_; rintro e q2 ⟨rfl, bq2⟩))
                  go_ret
                  exact ⟨rfl, (HBB.out.trans (bq1.mono HBB.out.size)).trans (bq2.mono (Nat.le_trans HBB.out.size bq1.size))⟩
              · as_aux_lemma =>
                have hr3' : ¬ (NM : Int) ≤ 200 := by omega
                clear hrg
                go_upto_region 21 with fail
                have k0 : Hid (Spns z5 va a) := T5.out.get (by simp)
                have kc := HC.out _ k0.out
                go_upto_region 22 with (go_at_call 18; go_must (refine kc.mono ?_; rintro e z6 ⟨c1, c2, rfl, sc, bz6⟩))
                have T6 : Hid (SLt w z6 _) := T5.out.add bz6 sc
                clear kc k0 bz6 T5 sc
                by_cases hcl : 200 < NC
                · as_aux_lemma =>
                  have hcl' : (200 : Int) < (NC : Int) := by omega
                  have HBB : Hid (Below w.heap.size w z6) := T6.out.bel
                  clear T6
                  go_wp2_with fail
                  go_ret
                  exact ⟨rfl, HBB.out⟩
                · as_aux_lemma =>
                  have hcl' : ¬ (200 : Int) < (NC : Int) := by omega
                  obtain ⟨HCC, HCM⟩ := HFC.out (by omega)
                  go_upto_region 26 with fail
                  have k0 : Hid (Spns z6 (.slice c1 NC c2) LC) := T6.out.get (by simp)
                  have kc := HCC.out _ _ k0.out
                  go_upto_region 27 with (go_at_call 18; go_must (refine kc.mono ?_; rintro e z7 ⟨f1, rfl, sf, bz7⟩))
                  have T7 : Hid (SLt w z7 _) := T6.out.add bz7 sf
                  clear kc k0 bz7 T6 sf
                  have k0 : Hid (Spns z7 va a) := T7.out.get (by simp)
                  have kc := HNO.out _ k0.out
                  go_upto_region 28 with (go_at_call 19; go_must (refine kc.mono ?_; rintro e z8 ⟨g1, rfl, sg, bz8⟩))
                  have T8 : Hid (SLt w z8 _) := T7.out.add bz8 sg
                  clear kc k0 bz8 T7 sg
                  have k0 : Hid (Spns z8 f1 LN) := T8.out.get (by simp)
                  have k1 : Hid (Spns z8 g1 LN) := T8.out.get (by simp)
                  have kc := sameSp f1 g1 LN _ k0.out k1.out
                  go_upto_region 29 with (go_at_call 12; go_must (refine kc.mono ?_; rintro e z9 ⟨rfl, bz9⟩))
                  have T9 : Hid (SLt w z9 _) := T8.out.below bz9
                  clear kc k0 k1 bz9 T8
                  have k0 : Hid (Spns z9 (.slice c1 NC c2) LC) := T9.out.get (by simp)
                  have k1 : Hid (Spns z9 va a) := T9.out.get (by simp)
                  have kc := HCM.out _ _ k0.out
                  have kd := fun W (hW : Below z9.heap.size z9 W) => HMA.out W (k1.out.below hW)
                  have HBB : Hid (Below w.heap.size w z9) := T9.out.bel
                  have hsum := HSUM.out
                  clear T9
                  go_wp2_with (first | (go_at_call_of 17 (c2); refine kc.mono ?_; rintro e q1 ⟨rfl, bq1⟩) | (go_at_call_of 17 (va); refine (kd q1 bq1).mono ?_; rintro e q2 ⟨rfl, bq2⟩))
                  go_ret
                  exact ⟨rfl, (HBB.out.trans (bq1.mono HBB.out.size)).trans (bq2.mono (Nat.le_trans HBB.out.size bq1.size))⟩
            · as_aux_lemma =>
              have hr2' : ¬ (NJ : Int) ≤ 200 := by omega
              clear hrg
              go_upto_region 21 with fail
              have k0 : Hid (Spns z5 va a) := T5.out.get (by simp)
              have kc := HC.out _ k0.out
              go_upto_region 22 with (go_at_call 18; go_must (refine kc.mono ?_; rintro e z6 ⟨c1, c2, rfl, sc, bz6⟩))
              have T6 : Hid (SLt w z6 _) := T5.out.add bz6 sc
              clear kc k0 bz6 T5 sc
              by_cases hcl : 200 < NC
              · as_aux_lemma =>
                have hcl' : (200 : Int) < (NC : Int) := by omega
                have HBB : Hid (Below w.heap.size w z6) := T6.out.bel
                clear T6
                go_wp2_with fail
                go_ret
                exact ⟨rfl, HBB.out⟩
              · as_aux_lemma =>
                have hcl' : ¬ (200 : Int) < (NC : Int) := by omega
                obtain ⟨HCC, HCM⟩ := HFC.out (by omega)
                go_upto_region 26 with fail
                have k0 : Hid (Spns z6 (.slice c1 NC c2) LC) := T6.out.get (by simp)
                have kc := HCC.out _ _ k0.out
                go_upto_region 27 with (go_at_call 18; go_must (refine kc.mono ?_; rintro e z7 ⟨f1, rfl, sf, bz7⟩))
                have T7 : Hid (SLt w z7 _) := T6.out.add bz7 sf
                clear kc k0 bz7 T6 sf
                have k0 : Hid (Spns z7 va a) := T7.out.get (by simp)
                have kc := HNO.out _ k0.out
                go_upto_region 28 with (go_at_call 19; go_must (refine kc.mono ?_; rintro e z8 ⟨g1, rfl, sg, bz8⟩))
                have T8 : Hid (SLt w z8 _) := T7.out.add bz8 sg
                clear kc k0 bz8 T7 sg
                have k0 : Hid (Spns z8 f1 LN) := T8.out.get (by simp)
                have k1 : Hid (Spns z8 g1 LN) := T8.out.get (by simp)
                have kc := sameSp f1 g1 LN _ k0.out k1.out
                go_upto_region 29 with (go_at_call 12; go_must (refine kc.mono ?_; rintro e z9 ⟨rfl, bz9⟩))
                have T9 : Hid (SLt w z9 _) := T8.out.below bz9
                clear kc k0 k1 bz9 T8
                have k0 : Hid (Spns z9 (.slice c1 NC c2) LC) := T9.out.get (by simp)
                have k1 : Hid (Spns z9 va a) := T9.out.get (by simp)
                have kc := HCM.out _ _ k0.out
                have kd := fun W (hW : Below z9.heap.size z9 W) => HMA.out W (k1.out.below hW)
                have HBB : Hid (Below w.heap.size w z9) := T9.out.bel
                have hsum := HSUM.out
                clear T9
                go_wp2_with (first | (go_at_call_of 17 (c2); refine kc.mono ?_; rintro e q1 ⟨rfl, bq1⟩) | (go_at_call_of 17 (va); refine (kd q1 bq1).mono ?_; rintro e q2 ⟨rfl, bq2⟩))
                go_ret
                exact ⟨rfl, (HBB.out.trans (bq1.mono HBB.out.size)).trans (bq2.mono (Nat.le_trans HBB.out.size bq1.size))⟩
          · as_aux_lemma =>
            clear hrg
            go_upto_region 21 with fail
            have k0 : Hid (Spns z5 va a) := T5.out.get (by simp)
            have kc := HC.out _ k0.out
            go_upto_region 22 with (go_at_call 18; go_must (refine kc.mono ?_; rintro e z6 ⟨c1, c2, rfl, sc, bz6⟩))
            have T6 : Hid (SLt w z6 _) := T5.out.add bz6 sc
            clear kc k0 bz6 T5 sc
            by_cases hcl : 200 < NC
            · as_aux_lemma =>
              have hcl' : (200 : Int) < (NC : Int) := by omega
              have HBB : Hid (Below w.heap.size w z6) := T6.out.bel
              clear T6
              go_wp2_with fail
              go_ret
              exact ⟨rfl, HBB.out⟩
            · as_aux_lemma =>
              have hcl' : ¬ (200 : Int) < (NC : Int) := by omega
              obtain ⟨HCC, HCM⟩ := HFC.out (by omega)
              go_upto_region 26 with fail
              have k0 : Hid (Spns z6 (.slice c1 NC c2) LC) := T6.out.get (by simp)
              have kc := HCC.out _ _ k0.out
              go_upto_region 27 with (go_at_call 18; go_must (refine kc.mono ?_; rintro e z7 ⟨f1, rfl, sf, bz7⟩))
              have T7 : Hid (SLt w z7 _) := T6.out.add bz7 sf
              clear kc k0 bz7 T6 sf
              have k0 : Hid (Spns z7 va a) := T7.out.get (by simp)
              have kc := HNO.out _ k0.out
              go_upto_region 28 with (go_at_call 19; go_must (refine kc.mono ?_; rintro e z8 ⟨g1, rfl, sg, bz8⟩))
              have T8 : Hid (SLt w z8 _) := T7.out.add bz8 sg
              clear kc k0 bz8 T7 sg
              have k0 : Hid (Spns z8 f1 LN) := T8.out.get (by simp)
              have k1 : Hid (Spns z8 g1 LN) := T8.out.get (by simp)
              have kc := sameSp f1 g1 LN _ k0.out k1.out
              go_upto_region 29 with (go_at_call 12; go_must (refine kc.mono ?_; rintro e z9 ⟨rfl, bz9⟩))
              have T9 : Hid (SLt w z9 _) := T8.out.below bz9
              clear kc k0 k1 bz9 T8
              have k0 : Hid (Spns z9 (.slice c1 NC c2) LC) := T9.out.get (by simp)
              have k1 : Hid (Spns z9 va a) := T9.out.get (by simp)
              have kc := HCM.out _ _ k0.out
              have kd := fun W (hW : Below z9.heap.size z9 W) => HMA.out W (k1.out.below hW)
              have HBB : Hid (Below w.heap.size w z9) := T9.out.bel
              have hsum := HSUM.out
              clear T9
              go_wp2_with (first | (go_at_call_of 17 (c2); refine kc.mono ?_; rintro e q1 ⟨rfl, bq1⟩) | (go_at_call_of 17 (va); refine (kd q1 bq1).mono ?_; rintro e q2 ⟨rfl, bq2⟩))
              go_ret
              exact ⟨rfl, (HBB.out.trans (bq1.mono HBB.out.size)).trans (bq2.mono (Nat.le_trans HBB.out.size bq1.size))⟩
        · as_aux_lemma =>
          clear hrg
          go_upto_region 21 with fail
          have k0 : Hid (Spns z5 va a) := T5.out.get (by simp)
          have kc := HC.out _ k0.out
          go_upto_region 22 with (go_at_call 18; go_must (refine kc.mono ?_; rintro e z6 ⟨c1, c2, rfl, sc, bz6⟩))
          have T6 : Hid (SLt w z6 _) := T5.out.add bz6 sc
          clear kc k0 bz6 T5 sc
          by_cases hcl : 200 < NC
          · as_aux_lemma =>
            have hcl' : (200 : Int) < (NC : Int) := by omega
            have HBB : Hid (Below w.heap.size w z6) := T6.out.bel
            clear T6
            go_wp2_with fail
            go_ret
            exact ⟨rfl, HBB.out⟩
          · as_aux_lemma =>
            have hcl' : ¬ (200 : Int) < (NC : Int) := by omega
            obtain ⟨HCC, HCM⟩ := HFC.out (by omega)
            go_upto_region 26 with fail
            have k0 : Hid (Spns z6 (.slice c1 NC c2) LC) := T6.out.get (by simp)
            have kc := HCC.out _ _ k0.out
            go_upto_region 27 with (go_at_call 18; go_must (refine kc.mono ?_; rintro e z7 ⟨f1, rfl, sf, bz7⟩))
            have T7 : Hid (SLt w z7 _) := T6.out.add bz7 sf
            clear kc k0 bz7 T6 sf
            have k0 : Hid (Spns z7 va a) := T7.out.get (by simp)
            have kc := HNO.out _ k0.out
            go_upto_region 28 with (go_at_call 19; go_must (refine kc.mono ?_; rintro e z8 ⟨g1, rfl, sg, bz8⟩))
            have T8 : Hid (SLt w z8 _) := T7.out.add bz8 sg
            clear kc k0 bz8 T7 sg
            have k0 : Hid (Spns z8 f1 LN) := T8.out.get (by simp)
            have k1 : Hid (Spns z8 g1 LN) := T8.out.get (by simp)
            have kc := sameSp f1 g1 LN _ k0.out k1.out
            go_upto_region 29 with (go_at_call 12; go_must (refine kc.mono ?_; rintro e z9 ⟨rfl, bz9⟩))
            have T9 : Hid (SLt w z9 _) := T8.out.below bz9
            clear kc k0 k1 bz9 T8
            have k0 : Hid (Spns z9 (.slice c1 NC c2) LC) := T9.out.get (by simp)
            have k1 : Hid (Spns z9 va a) := T9.out.get (by simp)
            have kc := HCM.out _ _ k0.out
            have kd := fun W (hW : Below z9.heap.size z9 W) => HMA.out W (k1.out.below hW)
            have HBB : Hid (Below w.heap.size w z9) := T9.out.bel
            have hsum := HSUM.out
            clear T9
            go_wp2_with (first | (go_at_call_of 17 (c2); refine kc.mono ?_; rintro e q1 ⟨rfl, bq1⟩) | (go_at_call_of 17 (va); refine (kd q1 bq1).mono ?_; rintro e q2 ⟨rfl, bq2⟩))
            go_ret
            exact ⟨rfl, (HBB.out.trans (bq1.mono HBB.out.size)).trans (bq2.mono (Nat.le_trans HBB.out.size bq1.size))⟩
    · as_aux_lemma =>
      obtain ⟨HJ, HM, HD⟩ := HBAD.out he
      clear he HBAD HOKs
      have k0 : Hid (Spns w2 va a) := T3.out.get (by simp)
      have k1 : Hid (Spns w2 vb b) := T3.out.get (by simp)
      have kc := HJ.out _ k0.out k1.out
      go_upto_region 10 with (go_at_call 13; go_must (refine kc.mono ?_; rintro e z1 ⟨j1, rfl, bz1⟩))
      have T1 : Hid (SLt w z1 _) := T3.out.below bz1
      clear kc k0 k1 bz1 T3
      have k0 : Hid (Spns z1 va a) := T1.out.get (by simp)
      have k1 : Hid (Spns z1 vb b) := T1.out.get (by simp)
      have kc := HM.out _ k0.out k1.out
      go_upto_region 11 with (go_at_call 14; go_must (refine kc.mono ?_; rintro e z2 ⟨m1, rfl, bz2⟩))
      have T2 : Hid (SLt w z2 _) := T1.out.below bz2
      clear kc k0 k1 bz2 T1
      have k0 : Hid (Spns z2 va a) := T2.out.get (by simp)
      have k1 : Hid (Spns z2 vb b) := T2.out.get (by simp)
      have kc := HD.out _ k0.out k1.out
      go_upto_region 12 with (go_at_call 15; go_must (refine kc.mono ?_; rintro e z3 ⟨d1, rfl, bz3⟩))
      have T3 : Hid (SLt w z3 _) := T2.out.below bz3
      clear kc k0 k1 bz3 T2
      have HBB : Hid (Below w.heap.size w z3) := T3.out.bel
      clear T3
      go_wp2_with fail
      go_ret
      exact ⟨rfl, HBB.out⟩
end Go.Proofs.YtaimahlhlfifnaaGreatDoor
