/- The law TableFull of package portlaw4 returns true, for every number of flows and every time, where the table of lives and errors.errorType hold what the rows lay; the walk of its text. -/
import Derived.Test.YtdhjfjnjdkmhjaaDoorTblBg
import Derived.Test.YtdhjfjnjdkmhjaaDoorMgU
import Derived.Deep.DeepMust
namespace Go.Proofs.YtdhjfjnjdkmhjaaDoor
open Go.RowKit Go.Maps
set_option linter.unusedVariables false

theorem errV_tf (e : Int) : ErrVal (errV e) e := by
  unfold errV
  split
  · exact .inl ⟨rfl, by assumption⟩
  · exact .inr rfl
/-- A table that the law has made. -/
structure FuS (w : World) (T : Nat) (t : Tb) (W : World) : Prop where
  tb : ∃ m, TbAt W T m t
  ok : TbOk t
  lt : w.heap.size ≤ T
  bel : Below w.heap.size w W
theorem FuS.step {w W W' : World} {T : Nat} {t : Tb} (h : FuS w T t W) (hb : Below W.heap.size W W') : FuS w T t W' := by
  obtain ⟨m, hm⟩ := h.tb
  exact ⟨⟨m, hm.below hb⟩, h.ok, h.lt, h.bel.trans (hb.mono h.bel.size)⟩
theorem FuS.alloc {w W : World} {T : Nat} {t : Tb} (h : FuS w T t W) (o : Obj) : FuS w T t (W.alloc o) := h.step ((Below.refl _ _).alloc (Nat.le_refl _) _)
theorem FuS.size {w W : World} {T : Nat} {t : Tb} (h : FuS w T t W) : T < W.heap.size := by
  obtain ⟨m, hm⟩ := h.tb
  exact hm.lt
theorem FuS.len {w W : World} {T : Nat} {t : Tb} (h : FuS w T t W) : Calls Tryd.prog 18 #[.pointer (some ⟨T, 0, none⟩)] W fun e w' => e = .returned (.int .i64 (t.fs.length : Int)) ∧ w' = W := by
  obtain ⟨m, hm⟩ := h.tb
  exact tlen_any T m t W hm
theorem FuS.new (w : World) (max : Int) (h1 : 1 ≤ max) (h2 : max ≤ 30) : FuS w (w.heap.size + 1) { max := max, now := 0, fs := [] } ((w.alloc (.map #[] 0)).alloc (.cells #[.int .i64 max, .int .i64 0, .map (some w.heap.size)] 75)) :=
  ⟨⟨_, tnew_at max w⟩, ⟨⟨h1, h2⟩, ⟨by simp, by simp⟩, .nil, by simp; omega⟩, by omega, ((Below.refl _ _).alloc (Nat.le_refl _) _).alloc (by simp) _⟩
theorem FuS.begin {w W : World} {T : Nat} {t : Tb} (h : FuS w T t W) (hL : Lives w) (k : Ky) (s : Sg) (rule now : Int) (hk : KyOk k) (hs : s.body = []) :
    Calls Tryd.prog 16 #[.pointer (some ⟨T, 0, none⟩), keyV k, segV s (.slice none 0 0), .int .i64 rule, .int .i64 now] W fun e w' => e = .returned (.tuple #[flV (tbF t k s rule now), errV (tbE t k s rule now)]) ∧ FuS w T (tbS t k s rule now) w' ∧ W.grownBy w' (some T) := by
  obtain ⟨m, hm⟩ := h.tb
  have hb : Bytes W (.slice none 0 0) s.body := by rw [hs]; exact .inl ⟨rfl, _, _, rfl, fun _ => rfl⟩
  refine (tbegin_any T m t k s (.slice none 0 0) rule now W hm h.ok hk hb (hL.below h.bel)).mono fun e w' ⟨h1, h2, h3⟩ => ?_
  exact ⟨h1, ⟨h2, h.ok.begun k s rule now, h.lt, h.bel.grown h3 h.bel.size (fun j hj => by cases hj; exact h.lt)⟩, h3⟩
theorem fu_cells {W : World} {b : Nat} {i : Int} (h : KyAt W b (fuK i)) : W.cell? ⟨b, 0, none⟩ = some (.int .i64 2) ∧ W.cell? ⟨b, 1, none⟩ = some (.int .i64 1) ∧ W.cell? ⟨b, 2, none⟩ = some (.int .i64 i) ∧ W.cell? ⟨b, 3, none⟩ = some (.int .i64 2) ∧ W.cell? ⟨b, 4, none⟩ = some (.int .i64 9) := h.cells
theorem fu_scells {W : World} {b : Nat} {i : Int} (h : SgAt W b (fuS i) (.slice none 0 0)) : W.cell? ⟨b, 0, none⟩ = some (.int .i64 i) ∧ W.cell? ⟨b, 1, none⟩ = some (.int .i64 9) ∧ W.cell? ⟨b, 2, none⟩ = some (.int .i64 0) ∧ W.cell? ⟨b, 3, none⟩ = some (.int .i64 0) ∧ W.cell? ⟨b, 4, none⟩ = some (.int .i64 0) ∧ W.cell? ⟨b, 5, none⟩ = some (.int .i64 0) ∧ W.cell? ⟨b, 6, none⟩ = some (.slice none 0 0) := h.cells
theorem ky_grown {W W' : World} {b T : Nat} {k : Ky} (h : KyAt W b k) (hg : W.grownBy W' (some T)) (hne : T < b) : KyAt W' b k := by
  unfold KyAt
  rw [hg.block b h.lt (by simp; omega)]; exact h
theorem sg_grown {W W' : World} {b T : Nat} {s : Sg} {bv : Value} (h : SgAt W b s bv) (hg : W.grownBy W' (some T)) (hne : T < b) : SgAt W' b s bv := by
  unfold SgAt
  rw [hg.block b h.lt (by simp; omega)]; exact h
theorem wf30 {n : Int} (h0 : 0 ≤ n) (h1 : n ≤ 65535) : (Lit.int .i64 n).wf = true := WalkArith.wf_i64 (by omega)
theorem fuK_ok {i : Int} (h0 : 0 ≤ i) (h1 : i ≤ 65535) : KyOk (fuK i) := ⟨wf30 (n := 2) (by omega) (by omega), wf30 (n := 1) (by omega) (by omega), wf30 h0 h1, wf30 (n := 2) (by omega) (by omega), wf30 (n := 9) (by omega) (by omega)⟩
theorem fu_one {w W : World} {T n : Nat} {t : Tb} {max now : Int} (h : FuS w T t W) (hL : Lives w) (hF : Full max now n t) (hn : (n : Int) < max) (hm : max ≤ 30) (n0 : 0 ≤ now) (n1 : now ≤ 900000) :
    Calls Tryd.prog 16 #[.pointer (some ⟨T, 0, none⟩), .agg #[.int .i64 2, .int .i64 1, .int .i64 (n : Int), .int .i64 2, .int .i64 9], .agg #[.int .i64 (n : Int), .int .i64 9, .int .i64 0, .int .i64 0, .int .i64 0, .int .i64 0, .slice none 0 0], .int .i64 0, .int .i64 now] W fun e w' => ∃ (g : Fl) (t' : Tb), e = .returned (.tuple #[.agg #[.int .i64 g.key.kind, .int .i64 g.key.src, .int .i64 g.key.frm, .int .i64 g.key.dst, .int .i64 g.key.too, .int .i64 g.st, .int .i64 g.unt, .int .i64 g.stp, .int .i64 g.h0, .int .i64 g.h1, .int .i64 g.w0, .int .i64 g.w1, .bool g.d0, .bool g.d1, .int .i64 g.num], .nilIface]) ∧ FuS w T t' w' ∧ Full max now (n + 1) t' ∧ (∃ f ∈ t'.fs, f.key = fuK n) ∧ W.grownBy w' (some T) := by
  obtain ⟨he, hf⟩ := hF.begin hn hm n0 n1
  refine (h.begin hL (fuK n) (fuS n) 0 now (fuK_ok (by omega) (by omega)) rfl).mono fun e w' ⟨h1, h2, h3⟩ => ?_
  refine ⟨tbF t (fuK n) (fuS n) 0 now, _, by rw [h1, he]; rfl, h2, hf, ?_, h3⟩
  unfold tbS
  rw [if_pos he]
  exact ⟨_, List.mem_cons_self, rfl⟩
theorem fu_two {w W : World} {T n : Nat} {t : Tb} {max now : Int} (h : FuS w T t W) (hL : Lives w) (hF : Full max now (n + 1) t) (hn : n + 1 ≤ 30) (n0 : 0 ≤ now) (n1 : now ≤ 900000) (hx : ∃ f ∈ t.fs, f.key = fuK n) :
    Calls Tryd.prog 16 #[.pointer (some ⟨T, 0, none⟩), .agg #[.int .i64 2, .int .i64 2, .int .i64 9, .int .i64 1, .int .i64 (n : Int)], .agg #[.int .i64 9, .int .i64 (n : Int), .int .i64 0, .int .i64 0, .int .i64 0, .int .i64 0, .slice none 0 0], .int .i64 0, .int .i64 now] W fun e w' => ∃ g : Fl, e = .returned (.tuple #[.agg #[.int .i64 g.key.kind, .int .i64 g.key.src, .int .i64 g.key.frm, .int .i64 g.key.dst, .int .i64 g.key.too, .int .i64 g.st, .int .i64 g.unt, .int .i64 g.stp, .int .i64 g.h0, .int .i64 g.h1, .int .i64 g.w0, .int .i64 g.w1, .bool g.d0, .bool g.d1, .int .i64 g.num], .iface 59 (.int .i64 7)]) ∧ FuS w T t w' ∧ W.grownBy w' (some T) := by
  have hi : (((n + 1 : Nat) : Int) - 1) = (n : Int) := by omega
  have he := hF.clash (by omega) hn n0 n1 (by rw [hi]; exact hx)
  rw [hi] at he
  refine (h.begin hL (turnK (fuK n)) (fuT n) 0 now (fuK_ok (by omega) (by omega)).turn rfl).mono fun e w' ⟨h1, h2, h3⟩ => ?_
  refine ⟨tbF t (turnK (fuK n)) (fuT n) 0 now, by rw [h1, he]; rfl, ?_⟩
  have e1 : tbS t (turnK (fuK n)) (fuT n) 0 now = t := by unfold tbS; rw [if_neg (by rw [he]; decide)]
  rw [e1] at h2; exact ⟨h2, h3⟩
theorem fu_full {w W : World} {T n : Nat} {t : Tb} {max now : Int} (h : FuS w T t W) (hL : Lives w) (hF : Full max now n t) (hn : (n : Int) = max) (hm : max ≤ 30) (n0 : 0 ≤ now) (n1 : now ≤ 900000) :
    Calls Tryd.prog 16 #[.pointer (some ⟨T, 0, none⟩), .agg #[.int .i64 2, .int .i64 1, .int .i64 100, .int .i64 2, .int .i64 9], .agg #[.int .i64 100, .int .i64 9, .int .i64 0, .int .i64 0, .int .i64 0, .int .i64 0, .slice none 0 0], .int .i64 0, .int .i64 (now + 29)] W fun e w' => ∃ g : Fl, e = .returned (.tuple #[.agg #[.int .i64 g.key.kind, .int .i64 g.key.src, .int .i64 g.key.frm, .int .i64 g.key.dst, .int .i64 g.key.too, .int .i64 g.st, .int .i64 g.unt, .int .i64 g.stp, .int .i64 g.h0, .int .i64 g.h1, .int .i64 g.w0, .int .i64 g.w1, .bool g.d0, .bool g.d1, .int .i64 g.num], .iface 59 (.int .i64 4)]) ∧ FuS w T t w' ∧ W.grownBy w' (some T) := by
  have he := hF.full hn hm n0 n1
  refine (h.begin hL (fuK 100) (fuS 100) 0 (now + 29) (fuK_ok (by omega) (by omega)) rfl).mono fun e w' ⟨h1, h2, h3⟩ => ?_
  refine ⟨tbF t (fuK 100) (fuS 100) 0 (now + 29), by rw [h1, he]; rfl, ?_⟩
  have e1 : tbS t (fuK 100) (fuS 100) 0 (now + 29) = t := by unfold tbS; rw [if_neg (by rw [he]; decide)]
  rw [e1] at h2; exact ⟨h2, h3⟩
theorem fu_over {w W : World} {T n : Nat} {t : Tb} {max now : Int} (h : FuS w T t W) (hL : Lives w) (hF : Full max now n t) (hm : 1 ≤ max) (n0 : 0 ≤ now) (n1 : now ≤ 900000) :
    Calls Tryd.prog 16 #[.pointer (some ⟨T, 0, none⟩), .agg #[.int .i64 2, .int .i64 1, .int .i64 100, .int .i64 2, .int .i64 9], .agg #[.int .i64 100, .int .i64 9, .int .i64 0, .int .i64 0, .int .i64 0, .int .i64 0, .slice none 0 0], .int .i64 0, .int .i64 (now + 30)] W fun e w' => ∃ (g : Fl) (t' : Tb), e = .returned (.tuple #[.agg #[.int .i64 g.key.kind, .int .i64 g.key.src, .int .i64 g.key.frm, .int .i64 g.key.dst, .int .i64 g.key.too, .int .i64 g.st, .int .i64 g.unt, .int .i64 g.stp, .int .i64 g.h0, .int .i64 g.h1, .int .i64 g.w0, .int .i64 g.w1, .bool g.d0, .bool g.d1, .int .i64 g.num], .nilIface]) ∧ FuS w T t' w' ∧ t'.fs.length = 1 := by
  obtain ⟨he, hl⟩ := hF.over hm n0 n1
  refine (h.begin hL (fuK 100) (fuS 100) 0 (now + 30) (fuK_ok (by omega) (by omega)) rfl).mono fun e w' ⟨h1, h2, h3⟩ => ?_
  exact ⟨tbF t (fuK 100) (fuS 100) 0 (now + 30), _, by rw [h1, he]; rfl, h2, hl⟩
set_option maxRecDepth 100000 in
set_option maxHeartbeats 8000000 in
theorem full_early (max now : Int) (w : World) (h : (max < 1 ∨ 30 < max) ∨ now < 0 ∨ 900000 < now) :
    Calls Tryd.prog 5 #[.int .i64 max, .int .i64 now] w fun e w' => e = .returned (.bool true) ∧ Below w.heap.size w w' := by
  by_cases h1 : max < 1
  · have hnw := tnew_bad max w (.inl h1)
    clear h
    go_enter Tryd.func5, Tryd.ntmps5
    go_wp2_with (go_at_call 15; go_must (refine hnw.mono ?_; rintro e w2 ⟨rfl, hw2⟩; rw [hw2]; clear hw2))
    go_ret
    exact ⟨rfl, Below.refl _ _⟩
  · by_cases h2 : 30 < max
    · have hnw := tnew_bad max w (.inr h2)
      clear h
      go_enter Tryd.func5, Tryd.ntmps5
      go_wp2_with (go_at_call 15; go_must (refine hnw.mono ?_; rintro e w2 ⟨rfl, hw2⟩; rw [hw2]; clear hw2))
      go_ret
      exact ⟨rfl, Below.refl _ _⟩
    · have hnw := tnew_good max w h1 h2
      have hb := (FuS.new w max (by omega) (by omega)).bel
      have HB := hidE hb
      obtain ⟨W2, hW2⟩ : ∃ W2, (w.alloc (.map #[] 0)).alloc (.cells #[.int .i64 max, .int .i64 0, .map (some w.heap.size)] 75) = W2 := ⟨_, rfl⟩
      rw [hW2] at hnw HB
      clear hW2 hb
      by_cases h3 : now < 0
      · clear h
        go_enter Tryd.func5, Tryd.ntmps5
        go_wp2_with (go_at_call 15; go_must (refine hnw.mono ?_; rintro e w2 ⟨rfl, hw2⟩; rw [hw2]; clear hw2))
        go_ret
        exact ⟨rfl, HB.out⟩
      · have h4 : 900000 < now := by omega
        clear h
        go_enter Tryd.func5, Tryd.ntmps5
        go_wp2_with (go_at_call 15; go_must (refine hnw.mono ?_; rintro e w2 ⟨rfl, hw2⟩; rw [hw2]; clear hw2))
        go_ret
        exact ⟨rfl, HB.out⟩
set_option maxRecDepth 100000 in
set_option maxHeartbeats 32000000 in
theorem full_any (max now : Int) (w : World) (hE : ErrLaid w) (hL : Lives w) (m0 : ¬ max < 1) (m1 : ¬ 30 < max) (t0 : ¬ now < 0) (t1 : ¬ 900000 < now) :
    Calls Tryd.prog 5 #[.int .i64 max, .int .i64 now] w fun e w' => e = .returned (.bool true) ∧ Below w.heap.size w w' := by
  obtain ⟨Q, hQ⟩ : ∃ Q : Ending → World → Prop, Q = fun e w' => e = .returned (.bool true) ∧ Below w.heap.size w w' := ⟨_, rfl⟩
  have HQ : Hid (∀ w', Below w.heap.size w w' → Q (.returned (.bool true)) w') := by rw [hQ]; exact fun _ h => ⟨rfl, h⟩
  rw [← hQ]
  have hnw := tnew_good max w m0 m1
  have F2 := FuS.new w max (by omega) (by omega)
  have U2 : Full max now 0 { max := max, now := 0, fs := [] } := ⟨rfl, by simp; omega, rfl, fun f hf => by cases hf⟩
  obtain ⟨W2, hW2⟩ : ∃ W2, (w.alloc (.map #[] 0)).alloc (.cells #[.int .i64 max, .int .i64 0, .map (some w.heap.size)] 75) = W2 := ⟨_, rfl⟩
  rw [hW2] at hnw F2
  obtain ⟨T, hT⟩ : ∃ T, w.heap.size + 1 = T := ⟨_, rfl⟩
  rw [hT] at hnw F2
  generalize ({ max := max, now := 0, fs := [] } : Tb) = tz at F2 U2
  have HS := hidE F2
  have HU := hidE U2
  have HE := hidE (fun W (hb : Below w.heap.size w W) => hE.below hb)
  have HL := hidE hL
  have i0 : 0 ≤ now := by omega
  have i1 : now ≤ 900000 := by omega
  have i2 : 1 ≤ max := by omega
  have i3 : max ≤ 30 := by omega
  clear hQ hE hL hW2 hT F2 U2
  go_enter Tryd.func5, Tryd.ntmps5
  go_upto_region 7 with (go_at_call 15; go_must (refine hnw.mono ?_; rintro e w2 ⟨rfl, hw2⟩; rw [hw2]; clear hw2))
  clear hnw
  go_loopw [7] (fun i wr => ∃ (n : Nat) (t : Tb), (n : Int) ≤ max ∧ i = .int .i64 (n : Int) ∧ Hid (FuS w T t wr) ∧ Hid (Full max now n t)) (fun i _ => (max - intOf i).toNat)
  case atStart => exact ⟨0, tz, by omega, rfl, HS, HU⟩
  case round =>
    clear HS HU
    obtain ⟨n, t, hn, rfl, HS, HU⟩ := hrel
    by_cases hnm : (n : Int) < max
    · have q0 : (0 : Int) ≤ (n : Int) := by omega
      go_upto_region 10 with fail
      have hF := HS.out.alloc (.cells #[.int .i64 2, .int .i64 1, .int .i64 (n : Int), .int .i64 2, .int .i64 9] 23)
      have hK : KyAt (wr.alloc (.cells #[.int .i64 2, .int .i64 1, .int .i64 (n : Int), .int .i64 2, .int .i64 9] 23)) wr.heap.size (fuK n) := KyAt.new wr (fuK n)
      obtain ⟨W1, hW1⟩ : ∃ W1, wr.alloc (.cells #[.int .i64 2, .int .i64 1, .int .i64 (n : Int), .int .i64 2, .int .i64 9] 23) = W1 := ⟨_, rfl⟩
      obtain ⟨kb, hkb⟩ : ∃ kb, wr.heap.size = kb := ⟨_, rfl⟩
      rw [hW1] at hF hK ⊢
      rw [hkb] at hK ⊢
      have HTK : Hid (T < kb) := by rw [← hkb]; exact HS.out.size
      have hc := fu_one hF HL.out HU.out hnm i3 i0 i1
      have HK := hidE hK
      obtain ⟨k0, k1, k2, k3, k4⟩ := fu_cells hK
      clear hW1 hkb hF hK HU HS
      have hlt : T < kb := HTK.out
      go_upto_region 11 with (go_at_call 16; go_must (refine hc.mono ?_; rintro e W3 ⟨g, t3, rfl, h3, u3, x3, g3⟩))
      clear hc k0 k1 k2 k3 k4
      have Kx := ky_grown HK.out g3 (by omega)
      have K4 := Kx.alloc (.cells #[.int .i64 g.key.kind, .int .i64 g.key.src, .int .i64 g.key.frm, .int .i64 g.key.dst, .int .i64 g.key.too, .int .i64 g.st, .int .i64 g.unt, .int .i64 g.stp, .int .i64 g.h0, .int .i64 g.h1, .int .i64 g.w0, .int .i64 g.w1, .bool g.d0, .bool g.d1, .int .i64 g.num] 30)
      have F4 := h3.alloc (.cells #[.int .i64 g.key.kind, .int .i64 g.key.src, .int .i64 g.key.frm, .int .i64 g.key.dst, .int .i64 g.key.too, .int .i64 g.st, .int .i64 g.unt, .int .i64 g.stp, .int .i64 g.h0, .int .i64 g.h1, .int .i64 g.w0, .int .i64 g.w1, .bool g.d0, .bool g.d1, .int .i64 g.num] 30)
      obtain ⟨W4, hW4⟩ : ∃ W4, W3.alloc (.cells #[.int .i64 g.key.kind, .int .i64 g.key.src, .int .i64 g.key.frm, .int .i64 g.key.dst, .int .i64 g.key.too, .int .i64 g.st, .int .i64 g.unt, .int .i64 g.stp, .int .i64 g.h0, .int .i64 g.h1, .int .i64 g.w0, .int .i64 g.w1, .bool g.d0, .bool g.d1, .int .i64 g.num] 30) = W4 := ⟨_, rfl⟩
      rw [hW4] at K4 F4 ⊢
      obtain ⟨k0, k1, k2, k3, k4⟩ := fu_cells K4
      have HK4 := hidE K4
      have HF4 := hidE F4
      have ht := turn_any (fuK n) W4
      unfold keyV turnK fuK at ht
      simp only at ht
      have HN : Hid (n + 1 ≤ 30) := by show n + 1 ≤ 30; omega
      clear hW4 h3 Kx K4 F4 g3 HK
      go_upto_region 12 with (first
        | (go_at_call 17; go_must (refine ht.mono ?_; rintro e W5 ⟨rfl, b5⟩; have hc := fu_two (HF4.out.step b5) HL.out u3 HN.out i0 i1 x3))
        | (go_at_call 16; go_must (refine hc.mono ?_; rintro e W6 ⟨g6, rfl, h6, g6'⟩)))
      clear ht hc k0 k1 k2 k3 k4 b5 HF4 HK4 x3 g6'
      have F7 := h6.alloc (.cells #[.int .i64 g6.key.kind, .int .i64 g6.key.src, .int .i64 g6.key.frm, .int .i64 g6.key.dst, .int .i64 g6.key.too, .int .i64 g6.st, .int .i64 g6.unt, .int .i64 g6.stp, .int .i64 g6.h0, .int .i64 g6.h1, .int .i64 g6.w0, .int .i64 g6.w1, .bool g6.d0, .bool g6.d1, .int .i64 g6.num] 30)
      obtain ⟨W7, hW7⟩ : ∃ W7, W6.alloc (.cells #[.int .i64 g6.key.kind, .int .i64 g6.key.src, .int .i64 g6.key.frm, .int .i64 g6.key.dst, .int .i64 g6.key.too, .int .i64 g6.st, .int .i64 g6.unt, .int .i64 g6.stp, .int .i64 g6.h0, .int .i64 g6.h1, .int .i64 g6.w0, .int .i64 g6.w1, .bool g6.d0, .bool g6.d1, .int .i64 g6.num] 30) = W7 := ⟨_, rfl⟩
      rw [hW7] at F7 ⊢
      clear hW7 h6
      have hc := error_val (.inr rfl : ErrVal (.iface 59 (.int .i64 7)) 7) 7 W7 (HE.out _ F7.bel)
      rw [show ((7 : Int) == 7) = true by decide] at hc
      go_upto_region 13 with (go_at_call 8; go_must (refine hc.mono ?_; rintro e W8 ⟨rfl, b8⟩))
      have F8 := F7.step b8
      have hl := F8.len
      rw [u3.ln] at hl
      have HF8 := hidE F8
      have HU3 := hidE u3
      clear hc b8 F7 F8 u3
      have e1 : (((n + 1 : Nat) : Int)) = (n : Int) + 1 := by omega
      rw [e1] at hl
      clear e1
      go_wp2_with (go_at_call 18; go_must (refine hl.mono ?_; rintro e W9 ⟨rfl, hw9⟩; rw [hw9]; clear hw9))
      go_roundw
      case rel => exact ⟨n + 1, t3, by omega, by go_num, HF8, HU3⟩
      case measure => simp [intOf]; omega
    · have hnx : (n : Int) = max := by omega
      have HNX := hidE hnx
      clear hnx
      go_upto_region 17 with fail
      have hF := (HS.out.alloc (.cells #[.int .i64 2, .int .i64 1, .int .i64 100, .int .i64 2, .int .i64 9] 23)).alloc (.cells #[.int .i64 100, .int .i64 9, .int .i64 0, .int .i64 0, .int .i64 0, .int .i64 0, .slice none 0 0] 26)
      have hK : KyAt ((wr.alloc (.cells #[.int .i64 2, .int .i64 1, .int .i64 100, .int .i64 2, .int .i64 9] 23)).alloc (.cells #[.int .i64 100, .int .i64 9, .int .i64 0, .int .i64 0, .int .i64 0, .int .i64 0, .slice none 0 0] 26)) wr.heap.size (fuK 100) := KyAt.alloc (KyAt.new wr (fuK 100)) _
      have hG : SgAt ((wr.alloc (.cells #[.int .i64 2, .int .i64 1, .int .i64 100, .int .i64 2, .int .i64 9] 23)).alloc (.cells #[.int .i64 100, .int .i64 9, .int .i64 0, .int .i64 0, .int .i64 0, .int .i64 0, .slice none 0 0] 26)) (wr.heap.size + 1) (fuS 100) (.slice none 0 0) := by
        have := SgAt.new (wr.alloc (.cells #[.int .i64 2, .int .i64 1, .int .i64 100, .int .i64 2, .int .i64 9] 23)) (fuS 100) (.slice none 0 0)
        rw [show (wr.alloc (.cells #[.int .i64 2, .int .i64 1, .int .i64 100, .int .i64 2, .int .i64 9] 23)).heap.size = wr.heap.size + 1 by simp] at this
        exact this
      have hsz := HS.out.size
      obtain ⟨W1, hW1⟩ : ∃ W1, (wr.alloc (.cells #[.int .i64 2, .int .i64 1, .int .i64 100, .int .i64 2, .int .i64 9] 23)).alloc (.cells #[.int .i64 100, .int .i64 9, .int .i64 0, .int .i64 0, .int .i64 0, .int .i64 0, .slice none 0 0] 26) = W1 := ⟨_, rfl⟩
      obtain ⟨kb, hkb⟩ : ∃ kb, wr.heap.size = kb := ⟨_, rfl⟩
      rw [hW1] at hF hK hG ⊢
      rw [hkb] at hK hG hsz ⊢
      have hc := fu_full hF HL.out HU.out HNX.out i3 i0 i1
      have HK := hidE hK
      have HG := hidE hG
      obtain ⟨k0, k1, k2, k3, k4⟩ := fu_cells hK
      obtain ⟨s0, s1, s2, s3, s4, s5, s6⟩ := fu_scells hG
      clear hW1 hkb hF hK hG HS
      go_upto_region 18 with (go_at_call 16; go_must (refine hc.mono ?_; rintro e W3 ⟨g, rfl, h3, g3⟩))
      clear hc k0 k1 k2 k3 k4 s0 s1 s2 s3 s4 s5 s6
      have K4 := (ky_grown HK.out g3 (by omega)).alloc (.cells #[.int .i64 g.key.kind, .int .i64 g.key.src, .int .i64 g.key.frm, .int .i64 g.key.dst, .int .i64 g.key.too, .int .i64 g.st, .int .i64 g.unt, .int .i64 g.stp, .int .i64 g.h0, .int .i64 g.h1, .int .i64 g.w0, .int .i64 g.w1, .bool g.d0, .bool g.d1, .int .i64 g.num] 30)
      have G4 := (sg_grown HG.out g3 (by omega)).alloc (.cells #[.int .i64 g.key.kind, .int .i64 g.key.src, .int .i64 g.key.frm, .int .i64 g.key.dst, .int .i64 g.key.too, .int .i64 g.st, .int .i64 g.unt, .int .i64 g.stp, .int .i64 g.h0, .int .i64 g.h1, .int .i64 g.w0, .int .i64 g.w1, .bool g.d0, .bool g.d1, .int .i64 g.num] 30)
      have F4 := h3.alloc (.cells #[.int .i64 g.key.kind, .int .i64 g.key.src, .int .i64 g.key.frm, .int .i64 g.key.dst, .int .i64 g.key.too, .int .i64 g.st, .int .i64 g.unt, .int .i64 g.stp, .int .i64 g.h0, .int .i64 g.h1, .int .i64 g.w0, .int .i64 g.w1, .bool g.d0, .bool g.d1, .int .i64 g.num] 30)
      obtain ⟨W4, hW4⟩ : ∃ W4, W3.alloc (.cells #[.int .i64 g.key.kind, .int .i64 g.key.src, .int .i64 g.key.frm, .int .i64 g.key.dst, .int .i64 g.key.too, .int .i64 g.st, .int .i64 g.unt, .int .i64 g.stp, .int .i64 g.h0, .int .i64 g.h1, .int .i64 g.w0, .int .i64 g.w1, .bool g.d0, .bool g.d1, .int .i64 g.num] 30) = W4 := ⟨_, rfl⟩
      rw [hW4] at K4 G4 F4 ⊢
      clear hW4 h3 g3 HK HG
      have hc := error_val (.inr rfl : ErrVal (.iface 59 (.int .i64 4)) 4) 4 W4 (HE.out _ F4.bel)
      rw [show ((4 : Int) == 4) = true by decide] at hc
      go_upto_region 19 with (go_at_call 8; go_must (refine hc.mono ?_; rintro e W5 ⟨rfl, b5⟩))
      have F5 := F4.step b5
      have K5 := K4.below K4.lt b5
      have G5 := G4.below G4.lt b5
      clear hc b5 F4 K4 G4
      have hc := fu_over F5 HL.out HU.out i2 i0 i1
      obtain ⟨k0, k1, k2, k3, k4⟩ := fu_cells K5
      obtain ⟨s0, s1, s2, s3, s4, s5, s6⟩ := fu_scells G5
      clear F5 K5 G5 HU
      go_upto_region 20 with (go_at_call 16; go_must (refine hc.mono ?_; rintro e W6 ⟨g6, t6, rfl, h6, l6⟩))
      clear hc k0 k1 k2 k3 k4 s0 s1 s2 s3 s4 s5 s6
      have F7 := h6.alloc (.cells #[.int .i64 g6.key.kind, .int .i64 g6.key.src, .int .i64 g6.key.frm, .int .i64 g6.key.dst, .int .i64 g6.key.too, .int .i64 g6.st, .int .i64 g6.unt, .int .i64 g6.stp, .int .i64 g6.h0, .int .i64 g6.h1, .int .i64 g6.w0, .int .i64 g6.w1, .bool g6.d0, .bool g6.d1, .int .i64 g6.num] 30)
      obtain ⟨W7, hW7⟩ : ∃ W7, W6.alloc (.cells #[.int .i64 g6.key.kind, .int .i64 g6.key.src, .int .i64 g6.key.frm, .int .i64 g6.key.dst, .int .i64 g6.key.too, .int .i64 g6.st, .int .i64 g6.unt, .int .i64 g6.stp, .int .i64 g6.h0, .int .i64 g6.h1, .int .i64 g6.w0, .int .i64 g6.w1, .bool g6.d0, .bool g6.d1, .int .i64 g6.num] 30) = W7 := ⟨_, rfl⟩
      rw [hW7] at F7 ⊢
      clear hW7 h6
      have hl := F7.len
      rw [l6] at hl
      have HF := hidE (HQ.out _ F7.bel)
      clear F7 l6 HQ
      simp only [Int.cast_ofNat_Int] at hl
      go_wp2_with (go_at_call 18; go_must (refine hl.mono ?_; rintro e W9 ⟨rfl, hw9⟩; rw [hw9]; clear hw9))
      first | exact HF.out | (simp; exact HF.out) | (simpa using HF.out)
theorem full_walk (max now : Int) (w : World) {p0 p1 : Prop} (_ : p0) (_ : p1) (hE : ErrLaid w) (hL : Lives w) :
    Calls Tryd.prog 5 #[.int .i64 max, .int .i64 now] w fun e w' => e = .returned (.bool true) ∧ Below w.heap.size w w' := by
  by_cases h : (max < 1 ∨ 30 < max) ∨ now < 0 ∨ 900000 < now
  · exact full_early max now w h
  · exact full_any max now w hE hL (by omega) (by omega) (by omega) (by omega)
end Go.Proofs.YtdhjfjnjdkmhjaaDoor
