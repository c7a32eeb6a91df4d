/- What is written is read back (package rule): the lines of rules, line by line. -/
import Derived.Test.YthnkjfgiclolaaaGreatDoorRulePa
import Derived.Test.YthnkjfgiclolaaaGreatDoorMgI
namespace Go.Proofs.YthnkjfgiclolaaaGreatDoor
open Go.RowKit
set_option linter.unusedVariables false

theorem hasP_app (p x : List UInt8) : Lib.hasPrefix (p ++ x) p = true := by unfold Lib.hasPrefix; simp
theorem trimP_app (p x : List UInt8) : Lib.trimPrefix (p ++ x) p = x := by unfold Lib.trimPrefix; rw [hasP_app]; simp
theorem splitC_first {c : UInt8} {p y : List UInt8} (h : ∀ x ∈ p, x ≠ c) (hy : y = [] ∨ ∃ z, y = c :: z) : (splitC c (p ++ y)).1 = p := by
  rcases hy with rfl | ⟨z, rfl⟩
  · rw [List.append_nil, splitC_noneX h]
  · rw [splitC_atX h]
theorem word_low {s : Sp} {c : UInt8} (hc : (c.toNat : Int) < 45) : ∀ x ∈ wordL s, x ≠ c := by
  intro x hx
  unfold wordL at hx
  split at hx
  · exact dig_no (by omega) x hx
  · rcases List.mem_append.1 hx with hx | hx
    · rcases List.mem_append.1 hx with hx | hx
      · exact dig_no (by omega) x hx
      · rw [List.mem_singleton] at hx; subst hx; intro e; rw [← e] at hc; revert hc; decide
    · exact dig_no (by omega) x hx
theorem join_low {c : UInt8} (h44 : (44 : UInt8) ≠ c) : ∀ (ws : List (List UInt8)), (∀ w ∈ ws, ∀ x ∈ w, x ≠ c) → ∀ x ∈ Lib.join ws [44], x ≠ c
  | [], _ => by simp [Lib.join_nil]
  | [w], h => by rw [Lib.join_one]; exact h w (by simp)
  | w :: v :: ws, h => by
      intro x hx
      have e : Lib.join (w :: v :: ws) [44] = w ++ 44 :: Lib.join (v :: ws) [44] := by
        rw [Lib.join_cons, Lib.join_cons]; simp [Lib.joinTail]
      rw [e] at hx
      rcases List.mem_append.1 hx with hx | hx
      · exact h w (by simp) x hx
      · rcases List.mem_cons.1 hx with hx | hx
        · rw [hx]; exact h44
        · exact join_low h44 (v :: ws) (fun u hu => h u (List.mem_cons_of_mem _ hu)) x hx
theorem text_low {l : List Sp} {c : UInt8} (hc : (c.toNat : Int) < 44) : ∀ x ∈ textL l, x ≠ c := by
  unfold textL
  split
  · intro x hx; rw [List.mem_singleton] at hx; subst hx; intro e; rw [← e] at hc; revert hc; decide
  · exact join_low (fun e => by rw [← e] at hc; revert hc; decide) _ (fun w hw => by
      obtain ⟨s, _, rfl⟩ := List.mem_map.1 hw
      exact word_low (by omega))
theorem show_low {a : Int} {c : UInt8} (hc : (c.toNat : Int) < 44) : ∀ x ∈ showL a, x ≠ c :=
  show_ne (by rw [UInt8.lt_iff_toNat_lt]; show c.toNat < 48; omega) (fun e => by rw [e] at hc; revert hc; decide)
theorem pref_low {a n : Int} {c : UInt8} (hc : (c.toNat : Int) < 44) : ∀ x ∈ showPrefL a n, x ≠ c := by
  unfold showPrefL
  split
  · intro x hx e
    subst e
    simp only [List.mem_cons, List.not_mem_nil, or_false] at hx
    rcases hx with rfl | rfl | rfl <;> revert hc <;> decide
  · intro x hx
    rcases List.mem_append.1 hx with hx | hx
    · rcases List.mem_append.1 hx with hx | hx
      · exact show_low hc x hx
      · rw [List.mem_singleton] at hx; subst hx; intro e; rw [← e] at hc; revert hc; decide
    · exact dig_no (by omega) x hx
theorem readR_text {l : List Sp} (h : Nrm l) (hl : l.length ≤ 200) (hne : l ≠ []) : readR (textL l) = some l := by
  have hcj := cut_join 44 (l.map wordL) (by simpa using hne) (fun w hw => by
    obtain ⟨t, _, rfl⟩ := List.mem_map.1 hw
    exact word_no)
  have ht : textL l = Lib.join (l.map wordL) [44] := by unfold textL; rw [if_neg hne]
  unfold readR
  rw [if_neg (fun e => ?_), ht, hcj, refFold_word l [] (by rw [List.nil_append]; exact h) (by rw [List.nil_append]; exact hl), List.nil_append]
  rw [ht] at e
  rw [e] at hcj
  have : cutL 44 [45] = [[45]] := by decide
  rw [this] at hcj
  cases l with
  | nil => exact hne rfl
  | cons s t =>
    simp only [List.map_cons, List.cons.injEq] at hcj
    have hw := hcj.1
    have hd : ∃ d ds, digL s.1.toNat = d :: ds := by
      cases hh : digL s.1.toNat with
      | nil => exact absurd hh (digL_ne _)
      | cons d ds => exact ⟨d, ds, rfl⟩
    obtain ⟨d, ds, hdd⟩ := hd
    have h45 : d = 45 := by
      unfold wordL at hw
      rw [hdd] at hw
      split at hw
      · simp at hw; exact hw.1.symm
      · simp at hw
    exact dig_no (c := 45) (by decide) d (by rw [hdd]; simp) h45
/-- A side is read back. -/
theorem side_back {Wd : List UInt8} {a n : Int} {ps : List Sp} {t : List UInt8} (hp : prefE a n = 0) (hn : Nrm ps) (hl : ps.length ≤ 200) (ht : t = [] ∨ ∃ z, t = 32 :: z) (hq : Lib.hasPrefix t portL = false) :
    sideO Wd (sideL Wd a n ps ++ t) = ⟨true, a, n, ps, t⟩ := by
  have e1 : Lib.trimPrefix (sideL Wd a n ps ++ t) Wd = showPrefL a n ++ (portsL ps ++ t) := by
    unfold sideL; rw [List.append_assoc, List.append_assoc, trimP_app]
  have hy : portsL ps ++ t = [] ∨ ∃ z, portsL ps ++ t = 32 :: z := by
    unfold portsL
    split
    · exact ht
    · exact .inr ⟨_, rfl⟩
  have e2 : (splitC 32 (showPrefL a n ++ (portsL ps ++ t))).1 = showPrefL a n := splitC_first (pref_low (by decide)) hy
  have e3 : (showPrefL a n ++ (portsL ps ++ t)).drop (showPrefL a n).length = portsL ps ++ t := List.drop_left
  unfold sideO
  rw [e1, e2, e3, readP_show hp, if_pos rfl]
  by_cases h0 : ps = []
  · have e4 : portsL ps = [] := by unfold portsL; rw [if_pos h0]
    rw [e4, List.nil_append, if_neg (by rw [hq]; simp), h0]
  · have e4 : portsL ps ++ t = portL ++ (textL ps ++ t) := by unfold portsL; rw [if_neg h0, printL_nrm hn, List.append_assoc]
    have e5 : (splitC 32 (textL ps ++ t)).1 = textL ps := splitC_first (text_low (by decide)) ht
    rw [e4, hasP_app, if_pos rfl, trimP_app, e5, readR_text hn hl h0, List.drop_left]
    rfl
theorem keep_rest (r : Rl) : (keepL r = [] ∨ ∃ z, keepL r = 32 :: z) ∧ Lib.hasPrefix (keepL r) portL = false ∧ Lib.hasPrefix (keepL r) keepW = r.keep := by
  unfold keepL
  rcases r.keep with _ | _
  · exact ⟨.inl rfl, by decide, by decide⟩
  · exact ⟨.inr ⟨_, rfl⟩, by decide, by decide⟩
theorem both_back {r : Rl} (h : Writ r) : sideO fromL (bothL r ++ keepL r) = ⟨true, r.sa, r.sl, r.fr, sideL toL r.da r.dl r.tl ++ keepL r⟩ ∧ sideO toL (sideL toL r.da r.dl r.tl ++ keepL r) = ⟨true, r.da, r.dl, r.tl, keepL r⟩ := by
  obtain ⟨k1, k2, _⟩ := keep_rest r
  refine ⟨?_, side_back h.dst h.tl h.tll k1 k2⟩
  unfold bothL
  rw [List.append_assoc]
  refine side_back h.src h.fr h.frl (.inr ⟨_, rfl⟩) ?_
  unfold sideL
  rw [List.append_assoc, List.append_assoc]
  rfl
theorem head_back {r : Rl} (h : Writ r) (Z : List UInt8) : headT (headL r ++ quickL r ++ (wayL r.way ++ kindL r.kind) ++ 32 :: 102 :: Z) = 32 :: 102 :: Z ∧ headR (headL r ++ quickL r ++ (wayL r.way ++ kindL r.kind) ++ 32 :: 102 :: Z) = { nilR with pass := r.pass, quick := r.quick, way := r.way, kind := r.kind } := by
  obtain ⟨pass, quick, keep, way, kind, sa, sl, da, dl, fr, tl⟩ := r
  have w0 := h.w0
  have w2 := h.w2
  have k0 := h.k0
  have k3 := h.k3
  simp only at w0 w2 k0 k3
  clear h
  rcases (by omega : way = 0 ∨ way = 1 ∨ way = 2) with rfl | rfl | rfl <;>
  rcases (by omega : kind = 0 ∨ kind = 1 ∨ kind = 2 ∨ kind = 3) with rfl | rfl | rfl | rfl <;>
  cases pass <;> cases quick <;> exact ⟨by kernel_rfl, by kernel_rfl⟩
theorem line_form (r : Rl) : ∃ Z, bothL r ++ keepL r = 32 :: 102 :: Z ∧ lineL r = headL r ++ quickL r ++ (wayL r.way ++ kindL r.kind) ++ 32 :: 102 :: Z := by
  have : ∃ Z, bothL r ++ keepL r = 32 :: 102 :: Z := ⟨_, rfl⟩
  obtain ⟨Z, hZ⟩ := this
  refine ⟨Z, hZ, ?_⟩
  unfold lineL
  rw [List.append_assoc _ (bothL r), hZ]
theorem loose_back {r : Rl} (h : Writ r) : bothOk (headT (lineL r)) = true ∧ looseR (lineL r) = r := by
  obtain ⟨Z, hZ, hl⟩ := line_form r
  obtain ⟨e1, e2⟩ := head_back h Z
  obtain ⟨b1, b2⟩ := both_back h
  rw [← hl] at e1 e2
  rw [← hZ] at e1
  constructor
  · unfold bothOk; rw [e1, b1]; simp only; rw [b2]; rfl
  · unfold looseR bothRest bothR
    rw [e1, e2, b1]
    simp only [if_true]
    rw [b2]
    simp only
    rw [(keep_rest r).2.2]
theorem trimS_app (x : List UInt8) : Lib.trimSuffix (x ++ [10]) [10] = x := by
  unfold Lib.trimSuffix Lib.hasSuffix
  rw [if_pos (by simp)]
  simp
/-- A line that was written is read back. -/
theorem readO_line {r : Rl} (h : Writ r) : readO (lineL r ++ [10]) = some r := by
  unfold readO
  rw [trimS_app]
  obtain ⟨h1, h2⟩ := loose_back h
  rw [h2, if_pos ⟨h1, rfl⟩]
theorem ten_all {l : List UInt8} (h : l.all (fun x => x != 10) = true) : ∀ x ∈ l, x ≠ 10 := fun x hx e => by
  have := List.all_eq_true.1 h x hx
  rw [e] at this
  exact absurd this (by decide)
theorem line_ten {r : Rl} (h : Writ r) : ∀ x ∈ lineL r, x ≠ 10 := by
  have hs : ∀ {Wd : List UInt8} {a n : Int} {ps : List Sp}, (∀ x ∈ Wd, x ≠ 10) → Nrm ps → ∀ x ∈ sideL Wd a n ps, x ≠ 10 := by
    intro Wd a n ps hW hn x hx
    unfold sideL at hx
    rcases List.mem_append.1 hx with hx | hx
    · rcases List.mem_append.1 hx with hx | hx
      · exact hW x hx
      · exact pref_low (by decide) x hx
    · unfold portsL at hx
      split at hx
      · cases hx
      · rcases List.mem_append.1 hx with hx | hx
        · exact ten_all (by decide) x hx
        · rw [printL_nrm hn] at hx; exact text_low (by decide) x hx
  intro x hx
  unfold lineL at hx
  rcases List.mem_append.1 hx with hx | hx
  · rcases List.mem_append.1 hx with hx | hx
    · rcases List.mem_append.1 hx with hx | hx
      · rcases List.mem_append.1 hx with hx | hx
        · unfold headL at hx; split at hx <;> exact ten_all (by decide) x hx
        · unfold quickL at hx; split at hx <;> exact ten_all (by decide) x hx
      · rcases List.mem_append.1 hx with hx | hx
        · unfold wayL at hx; split at hx <;> (try split at hx) <;> exact ten_all (by decide) x hx
        · unfold kindL at hx; split at hx <;> (try split at hx) <;> (try split at hx) <;> exact ten_all (by decide) x hx
    · unfold bothL at hx
      rcases List.mem_append.1 hx with hx | hx
      · exact hs (ten_all (by decide)) h.fr x hx
      · exact hs (ten_all (by decide)) h.tl x hx
  · unfold keepL at hx; split at hx <;> exact ten_all (by decide) x hx
theorem index_at {c : UInt8} {t : List UInt8} : ∀ {p : List UInt8}, (∀ x ∈ p, x ≠ c) → Lib.indexByte (p ++ c :: t) c = (p.length : Int)
  | [], _ => by simp [Lib.indexByte]
  | b :: p, h => by
      have ih := index_at (t := t) (p := p) (fun x hx => h x (List.mem_cons_of_mem _ hx))
      have hb : (b == c) = false := by rw [beq_eq_false_iff_ne]; exact h b (by simp)
      rw [List.cons_append, Lib.indexByte, hb, ih]
      rw [if_neg (by simp), if_neg (by rw [beq_iff_eq]; omega)]
      simp
theorem lnsL_line {p t : List UInt8} (h : ∀ x ∈ p, x ≠ 10) : lnsL (p ++ [10] ++ t) = (p ++ [10]) :: lnsL t := by
  have e : p ++ [10] ++ t = p ++ 10 :: t := by simp
  rw [e, lnsL_cut (by simp) (index_at h)]
  have e2 : p ++ 10 :: t = (p ++ [10]) ++ t := by simp
  have e3 : p.length + 1 = (p ++ [10]).length := by simp
  rw [e2, e3, List.take_left, List.drop_left]
theorem lnsL_lines {t : List UInt8} : ∀ {rs : List Rl}, (∀ r ∈ rs, Writ r) → lnsL (linesL rs ++ t) = (rs.map fun r => lineL r ++ [10]) ++ lnsL t
  | [], _ => rfl
  | r :: rs, h => by
      rw [linesL_cons, List.append_assoc, lnsL_line (line_ten (h r List.mem_cons_self)), lnsL_lines (fun x hx => h x (List.mem_cons_of_mem _ hx))]
      rfl
theorem parS_one {r : Rl} {acc : List Rl} {t : List (List UInt8)} (hr : ruE r = 0) (hn : ¬ acc.length = 20) : parS acc ((lineL r ++ [10]) :: t) = parS (acc ++ [r]) t := by
  have h1 : readO (lineL r ++ [10]) = some r := readO_line (writ_of hr)
  generalize lineL r ++ [10] = x at h1
  have h2 : lineE acc.length x = 0 := by unfold lineE; rw [h1]; simp only; rw [if_neg hn, hr]
  exact parS_ok h2 h1
theorem parS_stop {r : Rl} {acc : List Rl} {t : List (List UInt8)} (hr : ruE r = 0) (hn : acc.length = 20) : parS acc ((lineL r ++ [10]) :: t) = ([], 20, 4) := by
  have h1 : readO (lineL r ++ [10]) = some r := readO_line (writ_of hr)
  generalize lineL r ++ [10] = x at h1
  have h2 : lineE acc.length x = 4 := by unfold lineE; rw [h1]; simp only; rw [if_pos hn]
  rw [parS_bad (by rw [h2]; decide), h2, hn]
/-- What Parse does with lines that were written. -/
theorem parS_lines {t : List (List UInt8)} (rs : List Rl) : ∀ (acc : List Rl), (∀ r ∈ rs, ruE r = 0) → acc.length + rs.length ≤ 20 → parS acc ((rs.map fun r => lineL r ++ [10]) ++ t) = parS (acc ++ rs) t := by
  induction rs with
  | nil => intro acc _ _; rw [List.append_nil]; rfl
  | cons r rs ih =>
      intro acc h hl
      rw [List.length_cons] at hl
      have hr := h r List.mem_cons_self
      rw [List.map_cons, List.cons_append, parS_one hr (by omega), ih (acc ++ [r]) (fun x hx => h x (List.mem_cons_of_mem _ hx)) (by rw [List.length_append, List.length_singleton]; omega), List.append_assoc, List.singleton_append]
/-- Too many. -/
theorem parS_full {t : List (List UInt8)} (rs : List Rl) : ∀ (acc : List Rl), (∀ r ∈ rs, ruE r = 0) → acc.length ≤ 20 → 20 < acc.length + rs.length → parS acc ((rs.map fun r => lineL r ++ [10]) ++ t) = ([], 20, 4) := by
  induction rs with
  | nil => intro acc _ h1 h2; rw [List.length_nil] at h2; omega
  | cons r rs ih =>
      intro acc h hl hm
      rw [List.length_cons] at hm
      have hr := h r List.mem_cons_self
      by_cases h20 : acc.length = 20
      · rw [List.map_cons, List.cons_append, parS_stop hr h20]
      · rw [List.map_cons, List.cons_append, parS_one hr h20, ih (acc ++ [r]) (fun x hx => h x (List.mem_cons_of_mem _ hx)) (by rw [List.length_append, List.length_singleton]; omega) (by rw [List.length_append, List.length_singleton]; omega)]
theorem parS_end (acc : List Rl) : parS acc [] = (acc, 0, 0) := by rw [parS]
theorem parS_ge (ls : List (List UInt8)) : ∀ (acc : List Rl), (parS acc ls).2.2 ≠ 0 → acc.length ≤ (parS acc ls).2.1 := by
  induction ls with
  | nil => intro acc h; rw [parS_end] at h; exact absurd rfl h
  | cons x ls ih =>
      intro acc h
      by_cases h0 : lineE acc.length x = 0
      · rw [parS, if_pos h0] at h ⊢
        have := ih _ h
        rw [List.length_append, List.length_singleton] at this
        omega
      · rw [parS_bad h0]
        exact Nat.le_refl _
/-- A text behind some rules: where it goes wrong by itself, it goes wrong as many lines further down. -/
theorem parS_shift (ls : List (List UInt8)) : ∀ (acc acc' : List Rl) (d : Nat), acc'.length = d + acc.length → (parS acc ls).2.2 ≠ 0 → d + (parS acc ls).2.1 < 20 → (parS acc' ls).2.2 ≠ 0 ∧ (parS acc' ls).2.1 = d + (parS acc ls).2.1 := by
  induction ls with
  | nil => intro acc acc' d _ h _; rw [parS_end] at h; exact absurd rfl h
  | cons x ls ih =>
      intro acc acc' d hd h h20
      rcases hr : readO x with _ | r
      · have e : ∀ n, lineE n x = 2 := fun n => by unfold lineE; rw [hr]
        rw [parS_bad (by rw [e]; decide), parS_bad (acc := acc) (by rw [e]; decide), e]
        exact ⟨by show (2 : Int) ≠ 0; decide, hd⟩
      · by_cases hn : acc.length = 20
        · have e : lineE acc.length x = 4 := by unfold lineE; rw [hr]; simp only; rw [if_pos hn]
          rw [parS_bad (by rw [e]; decide)] at h20
          simp only at h20; omega
        · have e : lineE acc.length x = ruE r := by unfold lineE; rw [hr]; simp only; rw [if_neg hn]
          by_cases h0 : ruE r = 0
          · rw [parS_ok (acc := acc) (by rw [e]; exact h0) hr] at h h20 ⊢
            have ge := parS_ge ls (acc ++ [r]) h
            rw [List.length_append, List.length_singleton] at ge
            have e' : lineE acc'.length x = ruE r := by unfold lineE; rw [hr]; simp only; rw [if_neg (by omega)]
            rw [parS_ok (acc := acc') (by rw [e']; exact h0) hr]
            exact ih (acc ++ [r]) (acc' ++ [r]) d (by simp only [List.length_append, List.length_singleton]; omega) h h20
          · rw [parS_bad (acc := acc) (by rw [e]; exact h0)] at h h20 ⊢
            simp only at h20
            have e' : lineE acc'.length x = ruE r := by unfold lineE; rw [hr]; simp only; rw [if_neg (by omega)]
            rw [parS_bad (acc := acc') (by rw [e']; exact h0), e']
            exact ⟨h0, hd⟩
theorem word_short {s : Sp} (h : okB s = true) : (wordL s).length ≤ 11 := by
  unfold okB at h
  simp only [Bool.and_eq_true, decide_eq_true_eq] at h
  unfold wordL
  have h1 := digL_len5 (n := s.1.toNat) (by omega)
  have h2 := digL_len5 (n := s.2.toNat) (by omega)
  split
  · omega
  · simp only [List.length_append, List.length_singleton]; omega
theorem text_short {l : List Sp} (h : OkS l) (hl : l.length ≤ 200) : (textL l).length ≤ 2400 := by
  unfold textL
  split
  · simp
  · have := join_len (l.map wordL) 11 (fun x hx => by
      obtain ⟨s, hs, rfl⟩ := List.mem_map.1 hx
      have := h s hs
      exact word_short (by unfold okB; simp only [Bool.and_eq_true, decide_eq_true_eq]; exact ⟨⟨this.1, this.2.1⟩, this.2.2⟩))
    rw [List.length_map] at this
    omega
theorem line_short {r : Rl} (h : Writ r) : (lineL r).length ≤ 20000 := by
  have e1 : (headL r).length ≤ 5 := by unfold headL; split <;> simp
  have e2 : (quickL r).length ≤ 6 := by unfold quickL; split <;> simp
  have e3 : (keepL r).length ≤ 5 := by unfold keepL; split <;> simp
  have e4 : (wayL r.way).length ≤ 4 := by unfold wayL; split <;> (try split) <;> simp
  have e5 : (kindL r.kind).length ≤ 12 := by unfold kindL; split <;> (try split) <;> (try split) <;> simp
  have e6 := showPref_len h.src
  have e7 := showPref_len h.dst
  have ep : ∀ {l : List Sp}, Nrm l → l.length ≤ 200 → (portsL l).length ≤ 2410 := fun {l} hn hl => by
    unfold portsL
    split
    · simp
    · rw [printL_nrm hn, List.length_append]
      have := text_short hn.1 hl
      have : portL.length = 6 := rfl
      omega
  have e8 := ep h.fr h.frl
  have e9 := ep h.tl h.tll
  have f1 : fromL.length = 6 := rfl
  have f2 : toL.length = 4 := rfl
  unfold lineL bothL sideL
  simp only [List.length_append]
  omega
/-- Lines that were written, and a text's behind them, are short. -/
theorem lines_short {rs : List Rl} {t : List UInt8} (h : ∀ r ∈ rs, ruE r = 0) (hl : rs.length ≤ 20) (ht : t.length ≤ 1048576) : (linesL rs ++ t).length ≤ 140737488355328 ∧ ∀ x ∈ lnsL (linesL rs ++ t), x.length ≤ 1048576 := by
  have hw : ∀ r ∈ rs, Writ r := fun r hr => writ_of (h r hr)
  constructor
  · have := linesL_len rs hw
    rw [List.length_append]
    omega
  · intro x hx
    rw [lnsL_lines hw] at hx
    rcases List.mem_append.1 hx with hx | hx
    · obtain ⟨r, hr, rfl⟩ := List.mem_map.1 hx
      have := line_short (hw r hr)
      rw [List.length_append, List.length_singleton]
      omega
    · exact Nat.le_trans (lnsL_len hx) ht
theorem lines_short0 {rs : List Rl} (h : ∀ r ∈ rs, ruE r = 0) (hl : rs.length ≤ 20) : (linesL rs).length ≤ 1048576 := by
  have : ∀ (rs : List Rl), (∀ r ∈ rs, Writ r) → (linesL rs).length ≤ rs.length * 20001 := fun rs => by
    induction rs with
    | nil => intro _; simp [linesL]
    | cons r rs ih =>
      intro h
      have ih := ih (fun x hx => h x (List.mem_cons_of_mem _ hx))
      have := line_short (h r List.mem_cons_self)
      rw [linesL_cons]
      simp only [List.length_append, List.length_cons, List.length_nil]
      omega
  have := this rs (fun r hr => writ_of (h r hr))
  omega
end Go.Proofs.YthnkjfgiclolaaaGreatDoor
