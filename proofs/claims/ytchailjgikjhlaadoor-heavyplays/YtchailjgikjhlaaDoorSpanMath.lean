/- Plain facts on sets of ports as spans: spans that rise with a gap between any two ('Nrm') are told by their numbers; what a walk from end to end chooses ('choL'). No condition is asked of a program. -/
namespace Go.Proofs.YtchailjgikjhlaaDoor
set_option linter.unusedVariables false

abbrev Sp := Int × Int
def insB (s : Sp) (n : Int) : Bool := decide (s.1 ≤ n) && decide (n ≤ s.2)
def inB (l : List Sp) (n : Int) : Bool := l.any fun s => insB s n
def OkS (l : List Sp) : Prop := ∀ s ∈ l, 0 ≤ s.1 ∧ s.1 ≤ s.2 ∧ s.2 ≤ 65535
def Nrm (l : List Sp) : Prop := OkS l ∧ List.Pairwise (fun p q : Sp => p.2 + 1 < q.1) l
theorem insB_iff {s : Sp} {n : Int} : insB s n = true ↔ s.1 ≤ n ∧ n ≤ s.2 := by simp [insB]
theorem insB_not {s : Sp} {n : Int} : insB s n = false ↔ ¬ (s.1 ≤ n ∧ n ≤ s.2) := by
  rw [← insB_iff]; cases insB s n <;> simp
theorem inB_iff {l : List Sp} {n : Int} : inB l n = true ↔ ∃ s ∈ l, s.1 ≤ n ∧ n ≤ s.2 := by
  unfold inB; rw [List.any_eq_true]
  exact ⟨fun ⟨s, h1, h2⟩ => ⟨s, h1, insB_iff.1 h2⟩, fun ⟨s, h1, h2⟩ => ⟨s, h1, insB_iff.2 h2⟩⟩
theorem inB_nil (n : Int) : inB [] n = false := rfl
theorem inB_cons (s : Sp) (l : List Sp) (n : Int) : inB (s :: l) n = (insB s n || inB l n) := by simp [inB]
theorem inB_append (a b : List Sp) (n : Int) : inB (a ++ b) n = (inB a n || inB b n) := by simp [inB]
theorem inB_one (s : Sp) (n : Int) : inB [s] n = insB s n := by simp [inB]
theorem bool_ext {a b : Bool} (h : a = true ↔ b = true) : a = b := by cases a <;> cases b <;> simp_all
theorem inB_range {l : List Sp} (h : OkS l) {n : Int} (hn : inB l n = true) : 0 ≤ n ∧ n ≤ 65535 := by
  obtain ⟨s, hs, h1, h2⟩ := inB_iff.1 hn
  have := h s hs; omega
theorem OkS.nil : OkS [] := fun s hs => by cases hs
theorem Nrm.nil : Nrm [] := ⟨OkS.nil, List.Pairwise.nil⟩
theorem OkS.append {a b : List Sp} (h : OkS a) (k : OkS b) : OkS (a ++ b) := fun s hs => by
  rcases List.mem_append.1 hs with h1 | h1
  · exact h s h1
  · exact k s h1
theorem OkS.one {s : Sp} (h : 0 ≤ s.1 ∧ s.1 ≤ s.2 ∧ s.2 ≤ 65535) : OkS [s] := fun t ht => by
  rw [List.mem_singleton] at ht; subst ht; exact h
/-- Spans in order that have the same numbers are the same. -/
theorem nrm_unique : ∀ (P Q : List Sp), Nrm P → Nrm Q → (∀ x, inB P x = inB Q x) → P = Q
  | [], [], _, _, _ => rfl
  | [], q :: Q, _, hQ, h => by
      have hq := hQ.1 q (by simp)
      have h1 : inB (q :: Q) q.1 = true := inB_iff.2 ⟨q, by simp, by omega, by omega⟩
      rw [← h, inB_nil] at h1; cases h1
  | p :: P, [], hP, _, h => by
      have hp := hP.1 p (by simp)
      have h1 : inB (p :: P) p.1 = true := inB_iff.2 ⟨p, by simp, by omega, by omega⟩
      rw [h, inB_nil] at h1; cases h1
  | p :: P, q :: Q, hP, hQ, h => by
      obtain ⟨okP, sP⟩ := hP
      obtain ⟨okQ, sQ⟩ := hQ
      have hp := okP p (by simp)
      have hq := okQ q (by simp)
      rw [List.pairwise_cons] at sP sQ
      have inP : ∀ x, inB (p :: P) x = true → p.1 ≤ x := by
        intro x hx
        obtain ⟨r, hr, h1, h2⟩ := inB_iff.1 hx
        rcases List.mem_cons.1 hr with rfl | hr
        · exact h1
        · have := sP.1 r hr; omega
      have inQ : ∀ x, inB (q :: Q) x = true → q.1 ≤ x := by
        intro x hx
        obtain ⟨r, hr, h1, h2⟩ := inB_iff.1 hx
        rcases List.mem_cons.1 hr with rfl | hr
        · exact h1
        · have := sQ.1 r hr; omega
      have e1 : p.1 = q.1 := by
        have a := inQ p.1 (by rw [← h]; exact inB_iff.2 ⟨p, by simp, by omega, by omega⟩)
        have b := inP q.1 (by rw [h]; exact inB_iff.2 ⟨q, by simp, by omega, by omega⟩)
        omega
      have nP : ¬ inB (p :: P) (p.2 + 1) = true := by
        intro hx
        obtain ⟨r, hr, h1, h2⟩ := inB_iff.1 hx
        rcases List.mem_cons.1 hr with rfl | hr
        · omega
        · have := sP.1 r hr; omega
      have nQ : ¬ inB (q :: Q) (q.2 + 1) = true := by
        intro hx
        obtain ⟨r, hr, h1, h2⟩ := inB_iff.1 hx
        rcases List.mem_cons.1 hr with rfl | hr
        · omega
        · have := sQ.1 r hr; omega
      have e2 : p.2 = q.2 := by
        rcases Int.lt_trichotomy p.2 q.2 with h' | h' | h'
        · exact absurd (by rw [h]; exact inB_iff.2 ⟨q, by simp, by omega, by omega⟩) nP
        · exact h'
        · exact absurd (by rw [← h]; exact inB_iff.2 ⟨p, by simp, by omega, by omega⟩) nQ
      have e : p = q := Prod.ext e1 e2
      subst e
      congr 1
      refine nrm_unique P Q ⟨fun r hr => okP r (by simp [hr]), sP.2⟩ ⟨fun r hr => okQ r (by simp [hr]), sQ.2⟩ fun x => ?_
      have hx := h x
      rw [inB_cons, inB_cons] at hx
      cases hi : insB p x with
      | false => rw [hi] at hx; simpa using hx
      | true =>
        have h3 := insB_iff.1 hi
        have n1 : inB P x = false := by
          cases hb : inB P x with
          | false => rfl
          | true =>
            obtain ⟨r, hr, h1, h2⟩ := inB_iff.1 hb
            have := sP.1 r hr; omega
        have n2 : inB Q x = false := by
          cases hb : inB Q x with
          | false => rfl
          | true =>
            obtain ⟨r, hr, h1, h2⟩ := inB_iff.1 hb
            have := sQ.1 r hr; omega
        rw [n1, n2]

/-! ### one span more behind all -/
def extendL (l : List Sp) (low high : Int) : List Sp :=
  match l.reverse with
  | [] => [(low, high)]
  | s :: r => if s.2 = low - 1 then r.reverse ++ [(s.1, high)] else l ++ [(low, high)]
theorem extendL_nil (low high : Int) : extendL [] low high = [(low, high)] := rfl
theorem extendL_snoc (i : List Sp) (s : Sp) (low high : Int) : extendL (i ++ [s]) low high = if s.2 = low - 1 then i ++ [(s.1, high)] else i ++ [s] ++ [(low, high)] := by
  unfold extendL; simp
theorem extendL_len (l : List Sp) (low high : Int) : (extendL l low high).length ≤ l.length + 1 := by
  rcases List.eq_nil_or_concat l with rfl | ⟨i, s, rfl⟩
  · simp [extendL]
  · rw [List.concat_eq_append, extendL_snoc]; split <;> simp
theorem extendL_in {l : List Sp} {low high : Int} (hk : OkS l) (hl : ∀ s ∈ l, s.2 < low) (h : low ≤ high) (n : Int) : inB (extendL l low high) n = (inB l n || insB (low, high) n) := by
  rcases List.eq_nil_or_concat l with rfl | ⟨i, s, rfl⟩
  · rw [extendL_nil, inB_one, inB_nil, Bool.false_or]
  · rw [List.concat_eq_append] at hl hk ⊢
    rw [extendL_snoc]
    split
    · rename_i e
      have := hl s (by simp)
      have := hk s (by simp)
      rw [inB_append, inB_append, inB_one, inB_one, Bool.or_assoc]
      congr 1
      apply bool_ext
      rw [Bool.or_eq_true, insB_iff, insB_iff, insB_iff]
      simp only
      omega
    · rw [inB_append, inB_one]
theorem extendL_nrm {l : List Sp} {low high : Int} (hn : Nrm l) (hl : ∀ s ∈ l, s.2 < low) (h0 : 0 ≤ low) (h : low ≤ high) (h1 : high ≤ 65535) : Nrm (extendL l low high) ∧ ∀ s ∈ extendL l low high, s.2 ≤ high := by
  rcases List.eq_nil_or_concat l with rfl | ⟨i, s, rfl⟩
  · rw [extendL_nil]
    refine ⟨⟨OkS.one ⟨h0, h, h1⟩, List.pairwise_singleton _ _⟩, fun s hs => ?_⟩
    rw [List.mem_singleton] at hs; subst hs; exact Int.le_refl _
  · rw [List.concat_eq_append] at hl hn ⊢
    obtain ⟨ok, pw⟩ := hn
    rw [List.pairwise_append] at pw
    have hs := ok s (by simp)
    have hsl := hl s (by simp)
    rw [extendL_snoc]
    split
    · refine ⟨⟨OkS.append (fun t ht => ok t (by simp [ht])) (OkS.one ⟨hs.1, by simp only; omega, h1⟩), ?_⟩, fun t ht => ?_⟩
      · rw [List.pairwise_append]
        refine ⟨pw.1, List.pairwise_singleton _ _, fun a ha b hb => ?_⟩
        rw [List.mem_singleton] at hb; subst hb
        exact pw.2.2 a ha s (by simp)
      · rcases List.mem_append.1 ht with ht | ht
        · have := hl t (by simp [ht]); omega
        · rw [List.mem_singleton] at ht; subst ht; exact Int.le_refl _
    · rename_i hne
      refine ⟨⟨OkS.append ok (OkS.one ⟨h0, h, h1⟩), ?_⟩, fun t ht => ?_⟩
      · rw [List.pairwise_append]
        refine ⟨List.pairwise_append.2 pw, List.pairwise_singleton _ _, fun a ha b hb => ?_⟩
        rw [List.mem_singleton] at hb; subst hb
        simp only
        rcases List.mem_append.1 ha with ha | ha
        · have := pw.2.2 a ha s (by simp); omega
        · rw [List.mem_singleton] at ha; subst ha; omega
      · rcases List.mem_append.1 ht with ht | ht
        · have := hl t ht; omega
        · rw [List.mem_singleton] at ht; subst ht; exact Int.le_refl _

/-! ### from end to end -/
def isEnd (l : List Sp) (e : Int) : Prop := ∃ s ∈ l, (e = s.1 ∧ 0 < s.1) ∨ e = s.2 + 1
theorem same_to {l : List Sp} {low nx : Int} (h0 : 0 ≤ low) (hE : ∀ e, isEnd l e → e ≤ low ∨ nx ≤ e) {n : Int} (h1 : low ≤ n) (h2 : n < nx) : inB l n = inB l low := by
  apply bool_ext
  rw [inB_iff, inB_iff]
  constructor
  · rintro ⟨s, hs, a, b⟩
    refine ⟨s, hs, ?_, by omega⟩
    rcases Int.lt_or_le low s.1 with h | h
    · have := hE s.1 ⟨s, hs, .inl ⟨rfl, by omega⟩⟩; omega
    · exact h
  · rintro ⟨s, hs, a, b⟩
    refine ⟨s, hs, by omega, ?_⟩
    have := hE (s.2 + 1) ⟨s, hs, .inr rfl⟩; omega
def chooseL (p : Int → Bool) : List Int → Int → List Sp → List Sp
  | [], _, acc => acc
  | nx :: E, low, acc => chooseL p E nx (if p low = true then extendL acc low (nx - 1) else acc)
theorem chooseL_is (p : Int → Bool) (D : Int → Prop) (hD : ∀ low nx, 0 ≤ low → nx ≤ 65536 → (∀ e, D e → e ≤ low ∨ nx ≤ e) → ∀ n, low ≤ n → n < nx → p n = p low) :
    ∀ (E : List Int) (low : Int) (acc : List Sp), 0 ≤ low → low ≤ 65536 → (∀ e ∈ E, low < e ∧ e ≤ 65536) → E.Pairwise (· < ·) → (∀ e, D e ∨ e = 65536 → e ≤ low ∨ e ∈ E) → Nrm acc → (∀ s ∈ acc, s.2 < low) → (∀ n, inB acc n = (decide (0 ≤ n ∧ n < low) && p n)) →
      Nrm (chooseL p E low acc) ∧ ∀ n, inB (chooseL p E low acc) n = (decide (0 ≤ n ∧ n ≤ 65535) && p n)
  | [], low, acc, h0, h1, _, _, hd, hn, _, hi => by
      have : low = 65536 := by
        rcases hd 65536 (.inr rfl) with h | h
        · omega
        · cases h
      subst this
      refine ⟨hn, fun n => ?_⟩
      show inB acc n = _
      rw [hi]
      congr 1
      simp only [decide_eq_decide]; omega
  | nx :: E, low, acc, h0, h1, hE, hp, hd, hn, hl, hi => by
      obtain ⟨a1, a2⟩ := hE nx (by simp)
      rw [List.pairwise_cons] at hp
      have hc : ∀ n, low ≤ n → n < nx → p n = p low := hD low nx h0 a2 (fun e he => by
        rcases hd e (.inl he) with h | h
        · exact .inl h
        · rcases List.mem_cons.1 h with rfl | h
          · exact .inr (Int.le_refl _)
          · have := hp.1 e h; exact .inr (by omega))
      have hd' : ∀ e, D e ∨ e = 65536 → e ≤ nx ∨ e ∈ E := fun e he => by
        rcases hd e he with h | h
        · exact .inl (by omega)
        · rcases List.mem_cons.1 h with rfl | h
          · exact .inl (Int.le_refl _)
          · exact .inr h
      rw [chooseL]
      by_cases hpl : p low = true
      · rw [if_pos hpl]
        obtain ⟨n1, n2⟩ := extendL_nrm hn hl h0 (high := nx - 1) (by omega) (by omega)
        refine chooseL_is p D hD E nx _ (by omega) a2 (fun e he => ⟨hp.1 e he, (hE e (by simp [he])).2⟩) hp.2 hd' n1 (fun s hs => by have := n2 s hs; omega) (fun n => ?_)
        rw [extendL_in hn.1 hl (by omega), hi]
        by_cases hx : low ≤ n ∧ n < nx
        · rw [hc n hx.1 hx.2, hpl]
          have : insB (low, nx - 1) n = true := insB_iff.2 ⟨hx.1, by simp only; omega⟩
          rw [this]
          simp only [Bool.or_true, Bool.and_true]
          symm; rw [decide_eq_true_eq]; omega
        · have : insB (low, nx - 1) n = false := insB_not.2 (by simp only; omega)
          rw [this, Bool.or_false]
          congr 1
          simp only [decide_eq_decide]; omega
      · rw [if_neg hpl]
        refine chooseL_is p D hD E nx _ (by omega) a2 (fun e he => ⟨hp.1 e he, (hE e (by simp [he])).2⟩) hp.2 hd' hn (fun s hs => by have := hl s hs; omega) (fun n => ?_)
        rw [hi]
        by_cases hx : low ≤ n ∧ n < nx
        · rw [hc n hx.1 hx.2]
          have : p low = false := by simpa using hpl
          rw [this, Bool.and_false, Bool.and_false]
        · congr 1
          simp only [decide_eq_decide]; omega
/-- What is chosen of two: told by its numbers alone. -/
theorem choose_is {f : Bool → Bool → Bool} {a b : List Sp} {E : List Int} (hE : ∀ e ∈ E, 0 < e ∧ e ≤ 65536) (hs : E.Pairwise (· < ·)) (hd : ∀ e, isEnd a e ∨ isEnd b e ∨ e = 65536 → e ∈ E) :
    Nrm (chooseL (fun n => f (inB a n) (inB b n)) E 0 []) ∧ ∀ n, inB (chooseL (fun n => f (inB a n) (inB b n)) E 0 []) n = (decide (0 ≤ n ∧ n ≤ 65535) && f (inB a n) (inB b n)) := by
  refine chooseL_is _ (fun e => isEnd a e ∨ isEnd b e) (fun low nx h0 _ he n h1 h2 => ?_) E 0 [] (by omega) (by omega) hE hs (fun e he => ?_) Nrm.nil (fun s hs => by cases hs) (fun n => ?_)
  · rw [same_to h0 (fun e k => he e (.inl k)) h1 h2, same_to h0 (fun e k => he e (.inr k)) h1 h2]
  · rcases he with (he | he) | he
    · exact .inr (hd e (.inl he))
    · exact .inr (hd e (.inr (.inl he)))
    · exact .inr (hd e (.inr (.inr he)))
  · rw [inB_nil]; symm; rw [Bool.and_eq_false_imp]; intro h; have := of_decide_eq_true h; omega

/-! ### how many -/
def cntTo (p : Int → Bool) : Nat → Nat
  | 0 => 0
  | m + 1 => cntTo p m + if p m = true then 1 else 0
def cnt (p : Int → Bool) : Int := (cntTo p 65536 : Nat)
theorem cntTo_ext {p q : Int → Bool} : ∀ (m : Nat), (∀ k : Nat, k < m → p k = q k) → cntTo p m = cntTo q m
  | 0, _ => rfl
  | m + 1, h => by rw [cntTo, cntTo, cntTo_ext m (fun k hk => h k (by omega)), h m (by omega)]
theorem cntTo_add {p q r : Int → Bool} : ∀ (m : Nat), (∀ k : Nat, k < m → p k = (q k || r k) ∧ ¬ (q k = true ∧ r k = true)) → cntTo p m = cntTo q m + cntTo r m
  | 0, _ => rfl
  | m + 1, h => by
      rw [cntTo, cntTo, cntTo, cntTo_add m (fun k hk => h k (by omega))]
      obtain ⟨h1, h2⟩ := h m (by omega)
      rw [h1]
      cases hq : q (m : Int) <;> cases hr : r (m : Int) <;> simp_all <;> omega
theorem cntTo_all {p : Int → Bool} : ∀ (m : Nat), (∀ k : Nat, k < m → p k = true) → cntTo p m = m
  | 0, _ => rfl
  | m + 1, h => by rw [cntTo, cntTo_all m (fun k hk => h k (by omega)), h m (by omega)]; simp
theorem cntTo_none {p : Int → Bool} : ∀ (m : Nat), (∀ k : Nat, k < m → p k = false) → cntTo p m = 0
  | 0, _ => rfl
  | m + 1, h => by rw [cntTo, cntTo_none m (fun k hk => h k (by omega)), h m (by omega)]; simp
theorem cntTo_ins {s : Sp} (h0 : 0 ≤ s.1) : ∀ (m : Nat), ((cntTo (insB s) m : Nat) : Int) = max 0 (min (m : Int) (s.2 + 1) - s.1)
  | 0 => by rw [cntTo]; omega
  | m + 1 => by
      rw [cntTo, Int.natCast_add, cntTo_ins h0 m]
      by_cases h : s.1 ≤ (m : Int) ∧ (m : Int) ≤ s.2
      · rw [if_pos (insB_iff.2 h)]; omega
      · rw [if_neg (by rw [insB_iff]; exact h)]; omega
def manyL (l : List Sp) : Int := (l.map fun s => s.2 - s.1 + 1).sum
theorem manyL_nil : manyL [] = 0 := rfl
theorem manyL_cons (s : Sp) (l : List Sp) : manyL (s :: l) = s.2 - s.1 + 1 + manyL l := by simp [manyL]
theorem manyL_snoc (s : Sp) (l : List Sp) : manyL (l ++ [s]) = manyL l + (s.2 - s.1 + 1) := by simp [manyL]
theorem manyL_cnt : ∀ {l : List Sp}, Nrm l → manyL l = cnt (inB l)
  | [], _ => by
      unfold cnt; rw [cntTo_none _ (fun k _ => inB_nil _)]; rfl
  | s :: l, h => by
      obtain ⟨ok, pw⟩ := h
      have hs := ok s (by simp)
      rw [List.pairwise_cons] at pw
      rw [manyL_cons, manyL_cnt (l := l) ⟨fun r hr => ok r (by simp [hr]), pw.2⟩]
      unfold cnt
      rw [cntTo_add (p := inB (s :: l)) (q := insB s) (r := inB l) 65536 (fun k hk => ⟨inB_cons _ _ _, fun ⟨h1, h2⟩ => ?_⟩), Int.natCast_add, cntTo_ins hs.1]
      · omega
      · obtain ⟨r, hr, h3, h4⟩ := inB_iff.1 h2
        have := insB_iff.1 h1
        have := pw.1 r hr
        omega
theorem cntTo_le (p : Int → Bool) : ∀ m, cntTo p m ≤ m
  | 0 => Nat.le_refl _
  | m + 1 => by rw [cntTo]; have := cntTo_le p m; split <;> omega
theorem cnt_le (p : Int → Bool) : 0 ≤ cnt p ∧ cnt p ≤ 65536 := by unfold cnt; have := cntTo_le p 65536; omega
theorem manyL_le {l : List Sp} (h : Nrm l) : 0 ≤ manyL l ∧ manyL l ≤ 65536 := by rw [manyL_cnt h]; exact cnt_le _
theorem manyL_pre {a b : List Sp} (h : OkS (a ++ b)) : 0 ≤ manyL a ∧ manyL a ≤ manyL (a ++ b) := by
  have pos : ∀ {l : List Sp}, OkS l → 0 ≤ manyL l := fun {l} => by
    induction l with
    | nil => intro _; decide
    | cons s l ih => intro h; rw [manyL_cons]; have := h s (by simp); have := ih (fun r hr => h r (by simp [hr])); omega
  have e : manyL (a ++ b) = manyL a + manyL b := by simp [manyL]
  have := pos (l := a) (fun r hr => h r (by simp [hr]))
  have := pos (l := b) (fun r hr => h r (by simp [hr]))
  omega

/-! ### as few as can be -/
theorem len_of_sub : ∀ (l m : List Int), l.Nodup → (∀ x ∈ l, x ∈ m) → l.length ≤ m.length
  | [], m, _, _ => by simp
  | x :: l, m, hn, h => by
      rw [List.nodup_cons] at hn
      have hx := h x (by simp)
      have := len_of_sub l (m.erase x) hn.2 (fun y hy => (List.mem_erase_of_ne (fun e : y = x => hn.1 (by rw [← e]; exact hy))).2 (h y (by simp [hy])))
      rw [List.length_erase_of_mem hx] at this
      have := List.length_pos_of_mem hx
      simp only [List.length_cons]; omega
theorem nrm_few {r l : List Sp} (hr : Nrm r) (h : ∀ n, inB r n = inB l n) : r.length ≤ l.length := by
  have h1 : (r.map (·.1)).Nodup := by
    unfold List.Nodup
    rw [List.pairwise_map]
    refine List.Pairwise.imp_of_mem (fun {a b} ha hb hab => ?_) hr.2
    have := hr.1 a ha
    intro e; omega
  have h2 : ∀ x ∈ r.map (·.1), x ∈ l.map (·.1) := by
    intro x hx
    obtain ⟨s, hs, rfl⟩ := List.mem_map.1 hx
    have ok := hr.1 s hs
    have e1 : inB l s.1 = true := by rw [← h]; exact inB_iff.2 ⟨s, hs, by omega, by omega⟩
    obtain ⟨t, ht, t1, t2⟩ := inB_iff.1 e1
    rcases Int.lt_or_le t.1 s.1 with hlt | hle
    · exfalso
      have e2 : inB r (s.1 - 1) = true := by rw [h]; exact inB_iff.2 ⟨t, ht, by omega, by omega⟩
      obtain ⟨q, hq, q1, q2⟩ := inB_iff.1 e2
      have okq := hr.1 q hq
      have hne : q ≠ s := fun e => by subst e; omega
      obtain ⟨i, hi, rfl⟩ := List.mem_iff_getElem.1 hs
      obtain ⟨j, hj, rfl⟩ := List.mem_iff_getElem.1 hq
      rcases Nat.lt_trichotomy i j with k | k | k
      · have := (List.pairwise_iff_getElem.1 hr.2) i j hi hj k; omega
      · subst k; exact hne rfl
      · have := (List.pairwise_iff_getElem.1 hr.2) j i hj hi k; omega
    · have : t.1 = s.1 := by omega
      rw [← this]; exact List.mem_map.2 ⟨t, ht, rfl⟩
  have := len_of_sub _ _ h1 h2
  simpa using this
end Go.Proofs.YtchailjgikjhlaaDoor
