/- Package audit, in numbers: who was Master from when to when ('prF', as the program reckons it; 'rfM', as the reference does), and for how long nobody was ('gpF'). -/
import Derived.Test.YtfgaalhaeadhmaaDoorAuMath
namespace Go.Proofs.YtfgaalhaeadhmaaDoor
set_option linter.unusedVariables false

structure Ms where
  b : Int
  e : Int
  n : Int
def prM (s : List Ms × Int × Int) (e : Ev) : List Ms × Int × Int := if e.what = 3 then (s.1, e.time, e.node) else if e.what = 4 then (s.1 ++ [{ b := s.2.1, e := e.time, n := s.2.2 }], s.2.1, -1) else s
def prK (es : List Ev) (k : Nat) : List Ms × Int × Int := (es.take k).foldl prM ([], 0, -1)
def finM (s : List Ms × Int × Int) (t : Int) : List Ms := if s.2.2 = -1 then s.1 else s.1 ++ [{ b := s.2.1, e := t, n := s.2.2 }]
def fstF : List Ev → Int → Int
  | [], t => t
  | x :: l, t => if x.what = 4 then x.time else fstF l t
def rfM : List Ev → Int → List Ms
  | [], _ => []
  | x :: l, t => if x.what = 3 then { b := x.time, e := fstF l t, n := x.node } :: rfM l t else rfM l t
def RtE : List Ev → Int × Int → Prop
  | [], _ => True
  | e :: l, s => wrN e s.1 s.2 = 0 ∧ RtE l (nxE s e)
theorem prK_succ {es : List Ev} {k : Nat} (h : k < es.length) : prK es (k + 1) = prM (prK es k) es[k] := by
  unfold prK
  rw [List.take_succ_eq_append_getElem h, List.foldl_append]; rfl
theorem rt_from {es : List Ev} (hg : Gd es es.length) : ∀ j k, k + j = es.length → RtE (es.drop k) (stA es k)
  | 0, k, h => by rw [List.drop_of_length_le (by omega)]; trivial
  | j + 1, k, h => by
      rw [List.drop_eq_getElem_cons (by omega : k < es.length)]
      refine ⟨hg k (by omega) (by omega), ?_⟩
      rw [← stA_succ (by omega)]
      exact rt_from hg j (k + 1) (by omega)
theorem wrN_ok {e : Ev} {now m : Int} (h : wrN e now m = 0) : suB e m = true ∧ ¬ (e.what = 3 ∧ m ≠ -1) := by
  unfold wrN at h
  split at h
  · cases h
  · split at h
    · cases h
    · split at h
      · cases h
      · rename_i h3
        split at h
        · cases h
        · rename_i h4
          exact ⟨by simpa using h3, h4⟩
theorem pr_eq (t : Int) : ∀ (l : List Ev) (now m : Int) (out : List Ms) (b : Int), RtE l (now, m) →
    (m = -1 → finM (l.foldl prM (out, b, m)) t = out ++ rfM l t) ∧ (m ≠ -1 → finM (l.foldl prM (out, b, m)) t = out ++ { b := b, e := fstF l t, n := m } :: rfM l t)
  | [], now, m, out, b, _ => by
      refine ⟨fun h => ?_, fun h => ?_⟩
      · simp [finM, rfM, h]
      · simp [finM, rfM, fstF, h]
  | x :: l, now, m, out, b, h => by
      obtain ⟨h1, h2⟩ := h
      obtain ⟨_, _, hn, _, _, _⟩ := wrN_what h1
      obtain ⟨hs, h3⟩ := wrN_ok h1
      simp only [List.foldl_cons]
      by_cases w3 : x.what = 3
      · have hm : m = -1 := Decidable.byContradiction fun hm => h3 ⟨w3, hm⟩
        have h2' : RtE l (x.time, x.node) := by unfold nxE at h2; rw [if_pos w3] at h2; exact h2
        have hx : x.node ≠ -1 := by omega
        refine ⟨fun _ => ?_, fun h => absurd hm h⟩
        rw [show prM (out, b, m) x = (out, x.time, x.node) by unfold prM; rw [if_pos w3], (pr_eq t l x.time x.node out x.time h2').2 hx, rfM, if_pos w3]
      · by_cases w4 : x.what = 4
        · have h2' : RtE l (x.time, -1) := by unfold nxE at h2; rw [if_neg w3, if_pos w4] at h2; exact h2
          have hm : m ≠ -1 := by
            unfold suB at hs
            rw [if_neg (by omega), if_neg w3, if_pos w4] at hs
            simp at hs
            omega
          refine ⟨fun h => absurd h hm, fun _ => ?_⟩
          rw [show prM (out, b, m) x = (out ++ [{ b := b, e := x.time, n := m }], b, -1) by unfold prM; rw [if_neg w3, if_pos w4], (pr_eq t l x.time (-1) _ b h2').1 rfl, rfM, if_neg w3, fstF, if_pos w4]
          simp
        · have h2' : RtE l (x.time, m) := by unfold nxE at h2; rw [if_neg w3, if_neg w4] at h2; exact h2
          have hp : prM (out, b, m) x = (out, b, m) := by unfold prM; rw [if_neg w3, if_neg w4]
          rw [hp, rfM, if_neg w3, fstF, if_neg w4]
          exact pr_eq t l x.time m out b h2'
theorem pr_rf {es : List Ev} (hg : Gd es es.length) (t : Int) : finM (prK es es.length) t = rfM es t := by
  have := (pr_eq t es 0 (-1) [] 0 (rt_from hg es.length 0 (by omega))).1 rfl
  unfold prK
  rw [List.take_length]
  simpa using this
theorem pr_len (es : List Ev) : ∀ k, k ≤ es.length → (prK es k).1.length ≤ k
  | 0, _ => by simp [prK]
  | k + 1, h => by
      rw [prK_succ (by omega)]
      have := pr_len es k (by omega)
      unfold prM
      split
      · simpa using Nat.le_succ_of_le this
      · split
        · simp; omega
        · omega
theorem rf_len : ∀ (l : List Ev) (t : Int), (rfM l t).length ≤ l.length
  | [], _ => Nat.le_refl _
  | x :: l, t => by
      rw [rfM]
      have := rf_len l t
      split
      · simp; exact this
      · simp; omega
theorem fst_bd : ∀ (l : List Ev) (t : Int), (∀ e ∈ l, 0 ≤ e.time ∧ e.time ≤ 1000000) → 0 ≤ t → t ≤ 1000000 → 0 ≤ fstF l t ∧ fstF l t ≤ 1000000
  | [], t, _, h0, h1 => ⟨h0, h1⟩
  | x :: l, t, h, h0, h1 => by
      rw [fstF]
      split
      · exact h x (by simp)
      · exact fst_bd l t (fun e he => h e (by simp [he])) h0 h1
theorem rf_bd : ∀ (l : List Ev) (t : Int), (∀ e ∈ l, 0 ≤ e.time ∧ e.time ≤ 1000000) → 0 ≤ t → t ≤ 1000000 → ∀ m ∈ rfM l t, (0 ≤ m.b ∧ m.b ≤ 1000000) ∧ (0 ≤ m.e ∧ m.e ≤ 1000000)
  | [], t, _, _, _ => fun m hm => by cases hm
  | x :: l, t, h, h0, h1 => by
      have hl : ∀ e ∈ l, 0 ≤ e.time ∧ e.time ≤ 1000000 := fun e he => h e (by simp [he])
      have ih := rf_bd l t hl h0 h1
      rw [rfM]
      split
      · intro m hm
        rcases List.mem_cons.1 hm with rfl | hm
        · exact ⟨h x (by simp), fst_bd l t hl h0 h1⟩
        · exact ih m hm
      · exact ih
theorem Gd.times {es : List Ev} (hg : Gd es es.length) : ∀ e ∈ es, 0 ≤ e.time ∧ e.time ≤ 1000000 := by
  intro e he
  obtain ⟨i, hi, rfl⟩ := List.getElem_of_mem he
  have := wrN_what (hg i hi hi)
  exact ⟨this.1, this.2.1⟩
/-! ### for how long nobody was -/
def gpS (s : Int × Int × Int) (m : Ms) : Int × Int × Int := (max s.1 (m.b - s.2.2), s.2.1 + (m.b - s.2.2), m.e)
def gpK (ms : List Ms) (k : Nat) : Int × Int × Int := (ms.take k).foldl gpS (0, 0, 0)
def gpF (ms : List Ms) (t : Int) : Int × Int := (max (gpK ms ms.length).1 (t - (gpK ms ms.length).2.2), (gpK ms ms.length).2.1 + (t - (gpK ms ms.length).2.2))
theorem gpK_succ {ms : List Ms} {k : Nat} (h : k < ms.length) : gpK ms (k + 1) = gpS (gpK ms k) ms[k] := by
  unfold gpK
  rw [List.take_succ_eq_append_getElem h, List.foldl_append]; rfl
theorem gp_bd {ms : List Ms} (h : ∀ m ∈ ms, (0 ≤ m.b ∧ m.b ≤ 1000000) ∧ (0 ≤ m.e ∧ m.e ≤ 1000000)) : ∀ k, k ≤ ms.length →
    (0 ≤ (gpK ms k).1 ∧ (gpK ms k).1 ≤ 1000000) ∧ (-(k * 1000000 : Int) ≤ (gpK ms k).2.1 ∧ (gpK ms k).2.1 ≤ k * 1000000) ∧ (0 ≤ (gpK ms k).2.2 ∧ (gpK ms k).2.2 ≤ 1000000)
  | 0, _ => by simp [gpK]
  | k + 1, hk => by
      have ih := gp_bd h k (by omega)
      have hm := h ms[k] (List.getElem_mem (by omega))
      rw [gpK_succ (by omega)]
      unfold gpS
      simp only
      generalize (gpK ms k).1 = a at ih ⊢
      generalize (gpK ms k).2.1 = b at ih ⊢
      generalize (gpK ms k).2.2 = c at ih ⊢
      generalize ms[k].b = p at hm ⊢
      generalize ms[k].e = q at hm ⊢
      refine ⟨⟨?_, ?_⟩, ⟨?_, ?_⟩, ?_, ?_⟩
      · have := Int.le_max_left a (p - c); omega
      · exact Int.max_le.2 ⟨by omega, by omega⟩
      all_goals (push_cast; omega)
/-! ### who is Master, last rise first -/
def mastR : List Ev → Int
  | [] => -1
  | x :: l => if x.what = 3 then x.node else if x.what = 4 then -1 else mastR l
theorem st_snoc (es : List Ev) (x : Ev) (s : Int × Int) : ((es ++ [x]).foldl nxE s) = nxE (es.foldl nxE s) x := by rw [List.foldl_append]; rfl
/-- The state behind events, from the state behind all of them but the last ones, where these are neither. -/
theorem st_back {es : List Ev} : ∀ j k, k + j = es.length → (∀ i (h : i < es.length), k ≤ i → ¬ es[i].what = 3 ∧ ¬ es[i].what = 4) → (stA es es.length).2 = (stA es k).2
  | 0, k, h, _ => by rw [show k = es.length by omega]
  | j + 1, k, h, hn => by
      rw [st_back j (k + 1) (by omega) (fun i hi hk => hn i hi (by omega)), stA_succ (by omega)]
      have := hn k (by omega) (Nat.le_refl _)
      unfold nxE
      rw [if_neg this.1, if_neg this.2]
theorem st_m {es : List Ev} : ∀ k, k ≤ es.length → Gd es k → (stA es k).2 = -1 ∨ (stA es k).2 = 0 ∨ (stA es k).2 = 1
  | 0, _, _ => .inl rfl
  | k + 1, h, hg => by
      have ih := st_m k (by omega) (hg.le (by omega))
      have hw := wrN_what (hg k (by omega) (by omega))
      rw [stA_succ (by omega)]
      unfold nxE
      simp only
      split
      · omega
      · split
        · omega
        · exact ih
end Go.Proofs.YtfgaalhaeadhmaaDoor
