/- The reference's reader of words (package portref1): side. -/
import Derived.Test.YthnkjfgiclolaaaGreatDoorMgQ
import Derived.Test.YthnkjfgiclolaaaGreatDoorRefRdS
import Derived.Deep.DeepMust
namespace Go.Proofs.YthnkjfgiclolaaaGreatDoor
open Go.RowKit
set_option linter.unusedVariables false
set_option maxRecDepth 10000

def portW : List UInt8 := [112, 111, 114, 116]
/-- What is read of a side, and what is left. -/
structure SF where
  bad : Bool
  a : Int
  n : Int
  ps : List Sp
  rest : List (List UInt8)
def sdX (nm : List UInt8) (ws : List (List UInt8)) : List UInt8 := (takR nm ws).headD []
def sdBad (nm : List UInt8) (ws : List (List UInt8)) (bad : Bool) : Bool := (bad || (takR nm ws).isEmpty) || (!(takB nm ws) || !(readP (sdX nm ws)).2.2 || decide (¬ showPrefL (readP (sdX nm ws)).1 (readP (sdX nm ws)).2.1 = sdX nm ws))
def sideF (nm : List UInt8) (ws : List (List UInt8)) (bad : Bool) : SF :=
  if takB portW (takR nm ws).tail = true then
    ⟨(sdBad nm ws bad || (takR nm ws).tail.tail.isEmpty) || ((readR ((takR nm ws).tail.tail.headD [])).getD []).isEmpty, (readP (sdX nm ws)).1, (readP (sdX nm ws)).2.1, (readR ((takR nm ws).tail.tail.headD [])).getD [], (takR nm ws).tail.tail.tail⟩
  else ⟨sdBad nm ws bad, (readP (sdX nm ws)).1, (readP (sdX nm ws)).2.1, [], (takR nm ws).tail⟩
theorem WAt.mark {W : World} {B : Nat} {ws : List (List UInt8)} {bad : Bool} (h : WAt W B ws bad) : WAt (W.setCell ⟨B, 1, none⟩ (.bool true)) B ws true := by
  obtain ⟨g, off, c, h1, h2, h3, h4, h5, h6⟩ := h
  have o : Only B W (W.setCell ⟨B, 1, none⟩ (.bool true)) := (Only.refl _ _).setCell _ _
  exact ⟨g, off, c, heap_setCell_same W B 1 _ _ (.bool true) h1, h2, h3, fun i hi => by rw [only_cell o h5]; exact h4 i hi, h5, by rw [o.size]; exact h6⟩
theorem WAt.facts {W : World} {B : Nat} {ws : List (List UInt8)} {bad : Bool} (h : WAt W B ws bad) : W.cell? ⟨B, 1, none⟩ = some (.bool bad) ∧ W.frozen? ⟨B, 1, none⟩ = false := by
  obtain ⟨g, off, c, h1, _⟩ := h
  exact ⟨by rw [cell_of_row W B _ _ _ _ h1]; rfl, frozen_of_row W B 1 _ _ h1⟩
/-- Where side stands: the reader, the variable of its result. -/
structure SdSt (w W : World) (B S : Nat) (ws : List (List UInt8)) (bad : Bool) : Prop where
  rd : WAt W B ws bad
  tn : Turn (fun k => k = B) w W
  rs : W.heap[S]? = some (.cells #[.int .i64 0, .int .i64 0] 30 (0, 0))
  lt : B < S
  sz : S = w.heap.size
  S1 : S < W.heap.size
theorem SdSt.only {w W W' : World} {B S : Nat} {ws ws' : List (List UInt8)} {bad bad' : Bool} (h : SdSt w W B S ws bad) (o : Only B W W') (rd' : WAt W' B ws' bad') : SdSt w W' B S ws' bad' :=
  ⟨rd', h.tn.trans (Turn.of_only o rfl), (o.block S (by have := h.lt; omega)).trans h.rs, h.lt, h.sz, by rw [o.size]; exact h.S1⟩
theorem SdSt.step {w W W' : World} {B S : Nat} {ws : List (List UInt8)} {bad : Bool} (h : SdSt w W B S ws bad) (b : Below W.heap.size W W') : SdSt w W' B S ws bad :=
  ⟨h.rd.below b, h.tn.trans (Turn.of_below b _), (b.block S h.S1).trans h.rs, h.lt, h.sz, Nat.lt_of_lt_of_le h.S1 b.size⟩
theorem SdSt.new {w : World} {B : Nat} {ws : List (List UInt8)} {bad : Bool} (h : WAt w B ws bad) : SdSt w (w.alloc (.cells #[.int .i64 0, .int .i64 0] 30)) B w.heap.size ws bad := by
  have b : Below w.heap.size w (w.alloc (.cells #[.int .i64 0, .int .i64 0] 30)) := (Below.refl _ _).alloc (Nat.le_refl _) _
  exact ⟨h.below b, Turn.of_below b _, heap_alloc_new w _, h.lt, rfl, by simp⟩
/-- The prefix in block P. -/
def PfAt (W : World) (P : Nat) (a n : Int) : Prop := W.heap[P]? = some (.cells #[.int .i64 a, .int .i64 n] 30 (0, 0))
theorem PfAt.c0 {W : World} {P : Nat} {a n : Int} (h : PfAt W P a n) : W.cell? ⟨P, 0, none⟩ = some (.int .i64 a) ∧ W.cell? ⟨P, 1, none⟩ = some (.int .i64 n) ∧ W.frozen? ⟨P, 0, none⟩ = false ∧ W.frozen? ⟨P, 1, none⟩ = false :=
  ⟨by rw [cell_of_row W P _ _ _ _ h]; rfl, by rw [cell_of_row W P _ _ _ _ h]; rfl, frozen_of_row W P 0 _ _ h, frozen_of_row W P 1 _ _ h⟩
theorem PfAt.lt {W : World} {P : Nat} {a n : Int} (h : PfAt W P a n) : P < W.heap.size := (Array.getElem?_eq_some_iff.1 h).1
theorem PfAt.step {W W' : World} {P : Nat} {a n : Int} (h : PfAt W P a n) (b : Below W.heap.size W W') : PfAt W' P a n := (b.block P h.lt).trans h
theorem PfAt.only {W W' : World} {P B : Nat} {a n : Int} (h : PfAt W P a n) (o : Only B W W') (hP : P ≠ B) : PfAt W' P a n := (o.block P hP).trans h
theorem SdSt.mark {w W : World} {B S : Nat} {ws : List (List UInt8)} {bad : Bool} (h : SdSt w W B S ws bad) : SdSt w (W.setCell ⟨B, 1, none⟩ (.bool true)) B S ws true := h.only ((Only.refl _ _).setCell _ _) h.rd.mark
/-- The result is stored. -/
theorem SdSt.fin {w W : World} {B S : Nat} {ws : List (List UInt8)} {bad : Bool} (h : SdSt w W B S ws bad) (a n : Int) {v : Value} {ps : List Sp} (hv : OwnSp W (S + 1) v ps) :
    ∃ W', (W.setCell ⟨S, 0, none⟩ (.int .i64 a)).setCell ⟨S, 1, none⟩ (.int .i64 n) = W' ∧ PfAt W' S a n ∧ WAt W' B ws bad ∧ Turn (fun k => k = B) w W' ∧ OwnSp W' w.heap.size v ps := by
  have o : Only S W ((W.setCell ⟨S, 0, none⟩ (.int .i64 a)).setCell ⟨S, 1, none⟩ (.int .i64 n)) := ((Only.refl _ _).setCell _ _).setCell _ _
  have e := heap_setCell_same _ S 1 _ _ (.int .i64 n) (heap_setCell_same W S 0 _ _ (.int .i64 a) h.rs)
  refine ⟨_, rfl, e, h.rd.only o (by have := h.lt; omega) ?_, h.tn.andThen (Turn.of_only (F := fun k => k = S) o rfl) (fun i hi => .inr (by rw [hi, h.sz]; exact Nat.le_refl _)), (hv.only o (Nat.lt_succ_self S)).base (by rw [h.sz]; omega)⟩
  intro ob _ j s hc
  rw [cell_of_row W S _ _ _ _ h.rs] at hc
  rcases j with _ | _ | j
  · simp at hc
  · simp at hc
  · simp at hc
theorem WAt.head_len {ws : List (List UInt8)} (h : ∀ x ∈ ws, x.length ≤ 1048576) : (ws.headD []).length ≤ 1048576 := by
  cases ws with
  | nil => simp
  | cons x t => exact h x List.mem_cons_self
theorem tail_len {ws : List (List UInt8)} (h : ∀ x ∈ ws, x.length ≤ 1048576) : ∀ x ∈ ws.tail, x.length ≤ 1048576 := fun x hx => h x (List.mem_of_mem_tail hx)
theorem takR_len {nm : List UInt8} {ws : List (List UInt8)} (h : ∀ x ∈ ws, x.length ≤ 1048576) : ∀ x ∈ takR nm ws, x.length ≤ 1048576 := by
  unfold takR
  split
  · exact tail_len h
  · exact h
set_option maxHeartbeats 16000000 in
theorem wSide_any (B : Nat) (nm : List UInt8) (ws : List (List UInt8)) (bad : Bool) (w : World) (h : WAt w B ws bad) (hlen : ∀ x ∈ ws, x.length ≤ 1048576) :
    Calls Tryz.prog 52 #[.pointer (some ⟨B, 0, none⟩), .string (mkB nm)] w fun e w' => ∃ v, e = .returned (.tuple #[.agg #[.int .i64 (sideF nm ws bad).a, .int .i64 (sideF nm ws bad).n], v]) ∧ OwnSp w' w.heap.size v (sideF nm ws bad).ps ∧ WAt w' B (sideF nm ws bad).rest (sideF nm ws bad).bad ∧ Turn (fun k => k = B) w w' := by
  obtain ⟨Q, hQ⟩ : ∃ Q : Ending → World → Prop, Q = fun e w' => ∃ v, e = .returned (.tuple #[.agg #[.int .i64 (sideF nm ws bad).a, .int .i64 (sideF nm ws bad).n], v]) ∧ OwnSp w' w.heap.size v (sideF nm ws bad).ps ∧ WAt w' B (sideF nm ws bad).rest (sideF nm ws bad).bad ∧ Turn (fun k => k = B) w w' := ⟨_, rfl⟩
  have HQ : Hid (∀ v w' a n ps rest bd, sideF nm ws bad = ⟨bd, a, n, ps, rest⟩ → OwnSp w' w.heap.size v ps → WAt w' B rest bd → Turn (fun k => k = B) w w' → Q (.returned (.tuple #[.agg #[.int .i64 a, .int .i64 n], v])) w') := by
    rw [hQ]
    intro v w' a n ps rest bd he h1 h2 h3
    rw [he]
    exact ⟨v, rfl, h1, h2, h3⟩
  rw [← hQ]
  clear hQ
  have S0 := SdSt.new h
  obtain ⟨W0, hW0⟩ : ∃ W0, w.alloc (.cells #[.int .i64 0, .int .i64 0] 30) = W0 := ⟨_, rfl⟩
  rw [hW0] at S0
  have HW0 := hidE hW0
  have HLEN := hidE hlen
  obtain ⟨S, hS⟩ : ∃ S, w.heap.size = S := ⟨_, rfl⟩
  rw [hS] at S0
  have g1 := wTakes_any B nm ws bad W0 S0.rd
  have R0 := hidE S0
  clear hW0 h hlen S0
  go_enter Tryz.func52, Tryz.ntmps52
  go_upto_region 1 with fail
  rw [HW0.out]
  clear HW0
  obtain ⟨ok, hok⟩ : ∃ b, takB nm ws = b := ⟨_, rfl⟩
  obtain ⟨ws1, hws1⟩ : ∃ b, takR nm ws = b := ⟨_, rfl⟩
  rw [hok, hws1] at g1
  have HOK := hidE hok
  have HWS1 := hidE hws1
  have HL1 : Hid (∀ x ∈ ws1, x.length ≤ 1048576) := by rw [Hid, ← hws1]; exact takR_len HLEN.out
  clear hok hws1
  generalize mkB nm = nb at g1 ⊢
  go_upto_region 2 with (go_at_call 51; go_must (refine g1.mono ?_; rintro e W1 ⟨rfl, rd1, o1⟩))
  have R1 := hidE (R0.out.only o1 rd1)
  have g2 := wNext_any B ws1 bad W1 rd1
  clear g1 o1 rd1
  obtain ⟨x, hx⟩ : ∃ x, ws1.headD [] = x := ⟨_, rfl⟩
  have hxl : x.length ≤ 1048576 := by rw [← hx]; exact WAt.head_len HL1.out
  rw [hx] at g2
  have HX := hidE hx
  have g3 := fun W => readPrefix_any (mkB x) W (by rw [mkB_size]; exact hxl)
  rw [mkB_toList] at g3
  simp only [← read_eq] at g3
  obtain ⟨pr, hpr⟩ : ∃ p, readP x = p := ⟨_, rfl⟩
  rw [hpr] at g3
  obtain ⟨a, n, is⟩ := pr
  have HPR := hidE hpr
  clear hx hxl hpr
  obtain ⟨xb, hxb⟩ : ∃ b, mkB x = b := ⟨_, rfl⟩
  rw [hxb] at g2 g3
  have HXB := hidE hxb
  clear hxb
  go_upto_region 3 with (go_at_call 50; go_must (refine g2.mono ?_; rintro e W2 ⟨rfl, rd2, o2⟩))
  have R2 := hidE (R1.out.only o2 rd2)
  clear g2 rd2 o2
  have g4 := g3 W2
  clear g3
  go_upto_region 4 with (go_at_call 92; go_must (refine g4.mono ?_; rintro e W3 ⟨rfl, b3⟩))
  have b4 : Below W3.heap.size W3 (W3.alloc (.cells #[.int .i64 a, .int .i64 n] 30)) := (Below.refl _ _).alloc (Nat.le_refl _) _
  have P4 : PfAt (W3.alloc (.cells #[.int .i64 a, .int .i64 n] 30)) W3.heap.size a n := heap_alloc_new W3 _
  have R3 := R2.out.step b3
  have R4 := R3.step b4
  have hPB : W3.heap.size ≠ B := by have := R3.S1; have := R3.lt; omega
  obtain ⟨W4, hW4⟩ : ∃ W4, W3.alloc (.cells #[.int .i64 a, .int .i64 n] 30) = W4 := ⟨_, rfl⟩
  rw [hW4] at P4 R4 ⊢
  obtain ⟨P, hP⟩ : ∃ P, W3.heap.size = P := ⟨_, rfl⟩
  rw [hP] at P4 hPB ⊢
  have HPB := hidE hPB
  have HP4 := hidE P4
  have HR4 := hidE R4
  clear g4 b3 b4 R3 hW4 hP hPB R4 P4
  obtain ⟨k1, k2⟩ := HR4.out.rd.facts
  obtain ⟨p0, p1, p2, p3⟩ := HP4.out.c0
  clear p2 p3
  obtain ⟨ws2, hws2⟩ : ∃ t, ws1.tail = t := ⟨_, rfl⟩
  rw [hws2] at HR4
  have HWS2 := hidE hws2
  have HL2 : Hid (∀ x ∈ ws2, x.length ≤ 1048576) := by rw [Hid, ← hws2]; exact tail_len HL1.out
  clear hws2

  cases ok with
  | false =>
    have HBD : Hid (sdBad nm ws bad = true) := by unfold sdBad; rw [Hid, HOK.out]; simp
    have R5 := hidE HR4.out.mark
    have HP5 := hidE (HP4.out.only ((Only.refl B W4).setCell 1 (.bool true)) HPB.out)
    go_upto_region 6 with fail
    obtain ⟨W5, hW5⟩ : ∃ W5, W4.setCell ⟨B, 1, none⟩ (.bool true) = W5 := ⟨_, rfl⟩
    rw [hW5] at R5 HP5 ⊢
    obtain ⟨bd, hbd⟩ : ∃ b, true = b := ⟨_, rfl⟩
    rw [hbd] at R5 HBD
    clear hW5 hbd k1 k2 p0 p1 HR4 HP4
    have g6 := wTakes_any B portW ws2 bd W5 R5.out.rd
    rw [show mkB portW = ⟨#[112, 111, 114, 116]⟩ from rfl] at g6
    have HSD : Hid (sideF nm ws bad = if takB portW ws2 = true then ⟨(bd || ws2.tail.isEmpty) || ((readR (ws2.tail.headD [])).getD []).isEmpty, a, n, (readR (ws2.tail.headD [])).getD [], ws2.tail.tail⟩ else ⟨bd, a, n, [], ws2⟩) := by
      unfold sideF
      rw [HWS1.out, HWS2.out, HBD.out, show sdX nm ws = x from by unfold sdX; rw [HWS1.out]; exact HX.out, HPR.out]
      show (_ : SF) = _
      rfl
    rcases htk : takB portW ws2 with _ | _
    · have e1 : takR portW ws2 = ws2 := by unfold takR; rw [htk, if_neg (by simp)]
      rw [htk, e1] at g6
      have HE : Hid (sideF nm ws bad = ⟨bd, a, n, [], ws2⟩) := by rw [Hid, HSD.out, htk, if_neg (by simp)]
      clear e1 htk HSD
      go_upto_region 13 with (go_at_call 51; go_must (refine g6.mono ?_; rintro e W6 ⟨rfl, rd6, o6⟩))
      have R6 := hidE (R5.out.only o6 rd6)
      have HP6 := hidE (HP5.out.only o6 HPB.out)
      clear g6 o6 rd6 R5 HP5
      obtain ⟨p0, p1, p2, p3⟩ := HP6.out.c0
      obtain ⟨r0, r1, r2, r3⟩ := PfAt.c0 (a := 0) (n := 0) R6.out.rs
      obtain ⟨W9, hW9, f1, f2, f3, f4⟩ := R6.out.fin a n (OwnSp.nil W6 (S + 1))
      have HW9 := hidE hW9
      have HF := hidE (show PfAt W9 S a n ∧ Q (.returned (.tuple #[.agg #[.int .i64 a, .int .i64 n], .slice none 0 0])) W9 from ⟨f1, HQ.out _ W9 a n [] ws2 bd HE.out f4 f2 f3⟩)
      clear hW9 f1 f2 f3 f4 p2 p3
      go_wp2_with fail
      rw [HW9.out]
      obtain ⟨z0, z1, _, _⟩ := HF.out.1.c0
      exact bodyPost_ret (v := .tuple #[.agg #[.int .i64 a, .int .i64 n], .slice none 0 0]) (by simp [results, Tryz.results52, go_sem, z0, z1]) rfl HF.out.2
    · have e1 : takR portW ws2 = ws2.tail := by unfold takR; rw [htk, if_pos rfl]
      rw [htk, e1] at g6
      have HE : Hid (sideF nm ws bad = ⟨(bd || ws2.tail.isEmpty) || ((readR (ws2.tail.headD [])).getD []).isEmpty, a, n, (readR (ws2.tail.headD [])).getD [], ws2.tail.tail⟩) := by rw [Hid, HSD.out, htk, if_pos rfl]
      clear e1 htk HSD
      obtain ⟨ws3, hws3⟩ : ∃ t, ws2.tail = t := ⟨_, rfl⟩
      rw [hws3] at g6 HE
      have HL3 : Hid (∀ x ∈ ws3, x.length ≤ 1048576) := by rw [Hid, ← hws3]; exact tail_len HL2.out
      clear hws3
      go_upto_region 8 with (go_at_call 51; go_must (refine g6.mono ?_; rintro e W6 ⟨rfl, rd6, o6⟩))
      have R6 := hidE (R5.out.only o6 rd6)
      have HP6 := hidE (HP5.out.only o6 HPB.out)
      have g7 := wNext_any B ws3 bd W6 rd6
      clear g6 o6 rd6 R5 HP5
      obtain ⟨y, hy⟩ : ∃ y, ws3.headD [] = y := ⟨_, rfl⟩
      have hyl : y.length ≤ 1048576 := by rw [← hy]; exact WAt.head_len HL3.out
      rw [hy] at g7 HE
      clear hy
      have HYL := hidE hyl
      clear hyl
      go_upto_region 9 with (go_at_call 50; go_must (refine g7.mono ?_; rintro e W7 ⟨rfl, rd7, o7⟩))
      have R7 := hidE (R6.out.only o7 rd7)
      have HP7 := hidE (HP6.out.only o7 HPB.out)
      clear g7 o7 rd7 R6 HP6
      have g8 := refReadS_any (mkB y) W7 (by rw [mkB_size]; exact HYL.out)
      unfold ReadsR at g8
      rw [mkB_toList] at g8
      generalize mkB y = yb at g8 ⊢
      obtain ⟨b3, hb3⟩ : ∃ b, (bd || ws3.isEmpty) = b := ⟨_, rfl⟩
      rw [hb3] at HE R7
      clear hb3
      have g9 : Calls Tryz.prog 93 #[.string yb] W7 fun e w' => ∃ a8 n8 c8 b8, e = .returned (.tuple #[.slice a8 n8 c8, .bool b8]) ∧ OwnSp w' W7.heap.size (.slice a8 n8 c8) ((readR y).getD []) ∧ Hid (n8 = ((readR y).getD []).length) ∧ Hid (b8 = false → (readR y).getD [] = []) ∧ Below W7.heap.size W7 w' := by
        refine g8.mono ?_
        rintro e w' ⟨v, b, rfl, hc, hb⟩
        rcases hc with ⟨r, h1, rfl, h3⟩ | ⟨h1, rfl, rfl⟩
        · obtain ⟨a8, c8, hv⟩ := h3.len
          subst hv
          rw [h1]
          exact ⟨a8, _, c8, true, rfl, h3, rfl, (fun h => by cases h), hb⟩
        · rw [h1]
          exact ⟨none, 0, 0, false, rfl, OwnSp.nil _ _, rfl, fun _ => rfl, hb⟩
      clear g8
      obtain ⟨ps, hps⟩ : ∃ ps, (readR y).getD [] = ps := ⟨_, rfl⟩
      rw [hps] at g9 HE
      clear hps
      go_upto_region 10 with (go_at_call 93; go_must (refine g9.mono ?_; rintro e W8 ⟨a8, n8, c8, b8, rfl, own8, hn8, hb8, bb8⟩))
      have R8 := hidE (R7.out.step bb8)
      have HP8 := hidE (HP7.out.step bb8)
      have HO8 := hidE (own8.base (b' := S + 1) (by have := R7.out.S1; omega))
      have HN8 := hn8
      have HB8 := hb8
      clear g9 own8 hn8 hb8 bb8 R7 HP7
      obtain ⟨k1, k2⟩ := R8.out.rd.facts
      obtain ⟨p0, p1, p2, p3⟩ := HP8.out.c0
      obtain ⟨r0, r1, r2, r3⟩ := PfAt.c0 (a := 0) (n := 0) R8.out.rs
      clear p2 p3
      by_cases h8 : b8 = true ∧ n8 ≠ 0
      · obtain ⟨h81, h82⟩ := h8
        subst h81
        have i1 : ((n8 : Int) == 0) = false := by rw [beq_eq_false_iff_ne]; omega
        have i2 : (n8 == 0) = false := by rw [beq_eq_false_iff_ne]; omega
        have i3 : ¬ (n8 : Int) = 0 := by omega
        have i4 : ¬ n8 = 0 := h82
        have HEE : Hid (sideF nm ws bad = ⟨b3, a, n, ps, ws3.tail⟩) := by
          rw [Hid, HE.out, show ps.isEmpty = false by cases ps with | nil => exact absurd HN8.out h82 | cons _ _ => rfl, Bool.or_false]
        clear h82
        obtain ⟨W9, hW9, f1, f2, f3, f4⟩ := R8.out.fin a n HO8.out
        have HW9 := hidE hW9
        have HF := hidE (show PfAt W9 S a n ∧ Q (.returned (.tuple #[.agg #[.int .i64 a, .int .i64 n], .slice a8 n8 c8])) W9 from ⟨f1, HQ.out _ W9 a n ps _ _ HEE.out f4 f2 f3⟩)
        clear hW9 f1 f2 f3 f4
        go_wp2_with fail
        rw [HW9.out]
        obtain ⟨z0, z1, _, _⟩ := HF.out.1.c0
        exact bodyPost_ret (v := .tuple #[.agg #[.int .i64 a, .int .i64 n], .slice a8 n8 c8]) (by simp [results, Tryz.results52, go_sem, z0, z1]) rfl HF.out.2
      · have hps0 : ps = [] := by
          rcases b8 with _ | _
          · exact HB8.out rfl
          · have : n8 = 0 := Classical.byContradiction fun hn => h8 ⟨rfl, hn⟩
            exact List.length_eq_zero_iff.1 (by rw [← HN8.out]; exact this)
        have hn0 : n8 = 0 := by rw [HN8.out, hps0]; rfl
        have HEE : Hid (sideF nm ws bad = ⟨true, a, n, ps, ws3.tail⟩) := by
          rw [Hid, HE.out]; simp [hps0]
        subst hn0
        clear h8 hps0
        have R9 := R8.out.mark
        obtain ⟨W9, hW9, f1, f2, f3, f4⟩ := R9.fin a n (HO8.out.only ((Only.refl B W8).setCell 1 (.bool true)) (by have := R8.out.lt; omega))
        have HW9 := hidE hW9
        have HF := hidE (show PfAt W9 S a n ∧ Q (.returned (.tuple #[.agg #[.int .i64 a, .int .i64 n], .slice a8 0 c8])) W9 from ⟨f1, HQ.out _ W9 a n ps _ _ HEE.out f4 f2 f3⟩)
        clear hW9 f1 f2 f3 f4 R9
        have hBS : B ≠ S := by have := R8.out.lt; omega
        have hBP : B ≠ P := Ne.symm HPB.out
        rcases b8 with _ | _
        · go_wp2_with fail
          rw [HW9.out]
          obtain ⟨z0, z1, _, _⟩ := HF.out.1.c0
          exact bodyPost_ret (v := .tuple #[.agg #[.int .i64 a, .int .i64 n], .slice a8 0 c8]) (by simp [results, Tryz.results52, go_sem, z0, z1]) rfl HF.out.2
        · go_wp2_with fail
          rw [HW9.out]
          obtain ⟨z0, z1, _, _⟩ := HF.out.1.c0
          exact bodyPost_ret (v := .tuple #[.agg #[.int .i64 a, .int .i64 n], .slice a8 0 c8]) (by simp [results, Tryz.results52, go_sem, z0, z1]) rfl HF.out.2
  | true =>
  cases is with
  | false =>
    have HBD : Hid (sdBad nm ws bad = true) := by unfold sdBad; rw [Hid, show sdX nm ws = x from by unfold sdX; rw [HWS1.out]; exact HX.out, HPR.out]; simp
    have R5 := hidE HR4.out.mark
    have HP5 := hidE (HP4.out.only ((Only.refl B W4).setCell 1 (.bool true)) HPB.out)
    go_upto_region 6 with fail
    obtain ⟨W5, hW5⟩ : ∃ W5, W4.setCell ⟨B, 1, none⟩ (.bool true) = W5 := ⟨_, rfl⟩
    rw [hW5] at R5 HP5 ⊢
    obtain ⟨bd, hbd⟩ : ∃ b, true = b := ⟨_, rfl⟩
    rw [hbd] at R5 HBD
    clear hW5 hbd k1 k2 p0 p1 HR4 HP4
    have g6 := wTakes_any B portW ws2 bd W5 R5.out.rd
    rw [show mkB portW = ⟨#[112, 111, 114, 116]⟩ from rfl] at g6
    have HSD : Hid (sideF nm ws bad = if takB portW ws2 = true then ⟨(bd || ws2.tail.isEmpty) || ((readR (ws2.tail.headD [])).getD []).isEmpty, a, n, (readR (ws2.tail.headD [])).getD [], ws2.tail.tail⟩ else ⟨bd, a, n, [], ws2⟩) := by
      unfold sideF
      rw [HWS1.out, HWS2.out, HBD.out, show sdX nm ws = x from by unfold sdX; rw [HWS1.out]; exact HX.out, HPR.out]
      show (_ : SF) = _
      rfl
    rcases htk : takB portW ws2 with _ | _
    · have e1 : takR portW ws2 = ws2 := by unfold takR; rw [htk, if_neg (by simp)]
      rw [htk, e1] at g6
      have HE : Hid (sideF nm ws bad = ⟨bd, a, n, [], ws2⟩) := by rw [Hid, HSD.out, htk, if_neg (by simp)]
      clear e1 htk HSD
      go_upto_region 13 with (go_at_call 51; go_must (refine g6.mono ?_; rintro e W6 ⟨rfl, rd6, o6⟩))
      have R6 := hidE (R5.out.only o6 rd6)
      have HP6 := hidE (HP5.out.only o6 HPB.out)
      clear g6 o6 rd6 R5 HP5
      obtain ⟨p0, p1, p2, p3⟩ := HP6.out.c0
      obtain ⟨r0, r1, r2, r3⟩ := PfAt.c0 (a := 0) (n := 0) R6.out.rs
      obtain ⟨W9, hW9, f1, f2, f3, f4⟩ := R6.out.fin a n (OwnSp.nil W6 (S + 1))
      have HW9 := hidE hW9
      have HF := hidE (show PfAt W9 S a n ∧ Q (.returned (.tuple #[.agg #[.int .i64 a, .int .i64 n], .slice none 0 0])) W9 from ⟨f1, HQ.out _ W9 a n [] ws2 bd HE.out f4 f2 f3⟩)
      clear hW9 f1 f2 f3 f4 p2 p3
      go_wp2_with fail
      rw [HW9.out]
      obtain ⟨z0, z1, _, _⟩ := HF.out.1.c0
      exact bodyPost_ret (v := .tuple #[.agg #[.int .i64 a, .int .i64 n], .slice none 0 0]) (by simp [results, Tryz.results52, go_sem, z0, z1]) rfl HF.out.2
    · have e1 : takR portW ws2 = ws2.tail := by unfold takR; rw [htk, if_pos rfl]
      rw [htk, e1] at g6
      have HE : Hid (sideF nm ws bad = ⟨(bd || ws2.tail.isEmpty) || ((readR (ws2.tail.headD [])).getD []).isEmpty, a, n, (readR (ws2.tail.headD [])).getD [], ws2.tail.tail⟩) := by rw [Hid, HSD.out, htk, if_pos rfl]
      clear e1 htk HSD
      obtain ⟨ws3, hws3⟩ : ∃ t, ws2.tail = t := ⟨_, rfl⟩
      rw [hws3] at g6 HE
      have HL3 : Hid (∀ x ∈ ws3, x.length ≤ 1048576) := by rw [Hid, ← hws3]; exact tail_len HL2.out
      clear hws3
      go_upto_region 8 with (go_at_call 51; go_must (refine g6.mono ?_; rintro e W6 ⟨rfl, rd6, o6⟩))
      have R6 := hidE (R5.out.only o6 rd6)
      have HP6 := hidE (HP5.out.only o6 HPB.out)
      have g7 := wNext_any B ws3 bd W6 rd6
      clear g6 o6 rd6 R5 HP5
      obtain ⟨y, hy⟩ : ∃ y, ws3.headD [] = y := ⟨_, rfl⟩
      have hyl : y.length ≤ 1048576 := by rw [← hy]; exact WAt.head_len HL3.out
      rw [hy] at g7 HE
      clear hy
      have HYL := hidE hyl
      clear hyl
      go_upto_region 9 with (go_at_call 50; go_must (refine g7.mono ?_; rintro e W7 ⟨rfl, rd7, o7⟩))
      have R7 := hidE (R6.out.only o7 rd7)
      have HP7 := hidE (HP6.out.only o7 HPB.out)
      clear g7 o7 rd7 R6 HP6
      have g8 := refReadS_any (mkB y) W7 (by rw [mkB_size]; exact HYL.out)
      unfold ReadsR at g8
      rw [mkB_toList] at g8
      generalize mkB y = yb at g8 ⊢
      obtain ⟨b3, hb3⟩ : ∃ b, (bd || ws3.isEmpty) = b := ⟨_, rfl⟩
      rw [hb3] at HE R7
      clear hb3
      have g9 : Calls Tryz.prog 93 #[.string yb] W7 fun e w' => ∃ a8 n8 c8 b8, e = .returned (.tuple #[.slice a8 n8 c8, .bool b8]) ∧ OwnSp w' W7.heap.size (.slice a8 n8 c8) ((readR y).getD []) ∧ Hid (n8 = ((readR y).getD []).length) ∧ Hid (b8 = false → (readR y).getD [] = []) ∧ Below W7.heap.size W7 w' := by
        refine g8.mono ?_
        rintro e w' ⟨v, b, rfl, hc, hb⟩
        rcases hc with ⟨r, h1, rfl, h3⟩ | ⟨h1, rfl, rfl⟩
        · obtain ⟨a8, c8, hv⟩ := h3.len
          subst hv
          rw [h1]
          exact ⟨a8, _, c8, true, rfl, h3, rfl, (fun h => by cases h), hb⟩
        · rw [h1]
          exact ⟨none, 0, 0, false, rfl, OwnSp.nil _ _, rfl, fun _ => rfl, hb⟩
      clear g8
      obtain ⟨ps, hps⟩ : ∃ ps, (readR y).getD [] = ps := ⟨_, rfl⟩
      rw [hps] at g9 HE
      clear hps
      go_upto_region 10 with (go_at_call 93; go_must (refine g9.mono ?_; rintro e W8 ⟨a8, n8, c8, b8, rfl, own8, hn8, hb8, bb8⟩))
      have R8 := hidE (R7.out.step bb8)
      have HP8 := hidE (HP7.out.step bb8)
      have HO8 := hidE (own8.base (b' := S + 1) (by have := R7.out.S1; omega))
      have HN8 := hn8
      have HB8 := hb8
      clear g9 own8 hn8 hb8 bb8 R7 HP7
      obtain ⟨k1, k2⟩ := R8.out.rd.facts
      obtain ⟨p0, p1, p2, p3⟩ := HP8.out.c0
      obtain ⟨r0, r1, r2, r3⟩ := PfAt.c0 (a := 0) (n := 0) R8.out.rs
      clear p2 p3
      by_cases h8 : b8 = true ∧ n8 ≠ 0
      · obtain ⟨h81, h82⟩ := h8
        subst h81
        have i1 : ((n8 : Int) == 0) = false := by rw [beq_eq_false_iff_ne]; omega
        have i2 : (n8 == 0) = false := by rw [beq_eq_false_iff_ne]; omega
        have i3 : ¬ (n8 : Int) = 0 := by omega
        have i4 : ¬ n8 = 0 := h82
        have HEE : Hid (sideF nm ws bad = ⟨b3, a, n, ps, ws3.tail⟩) := by
          rw [Hid, HE.out, show ps.isEmpty = false by cases ps with | nil => exact absurd HN8.out h82 | cons _ _ => rfl, Bool.or_false]
        clear h82
        obtain ⟨W9, hW9, f1, f2, f3, f4⟩ := R8.out.fin a n HO8.out
        have HW9 := hidE hW9
        have HF := hidE (show PfAt W9 S a n ∧ Q (.returned (.tuple #[.agg #[.int .i64 a, .int .i64 n], .slice a8 n8 c8])) W9 from ⟨f1, HQ.out _ W9 a n ps _ _ HEE.out f4 f2 f3⟩)
        clear hW9 f1 f2 f3 f4
        go_wp2_with fail
        rw [HW9.out]
        obtain ⟨z0, z1, _, _⟩ := HF.out.1.c0
        exact bodyPost_ret (v := .tuple #[.agg #[.int .i64 a, .int .i64 n], .slice a8 n8 c8]) (by simp [results, Tryz.results52, go_sem, z0, z1]) rfl HF.out.2
      · have hps0 : ps = [] := by
          rcases b8 with _ | _
          · exact HB8.out rfl
          · have : n8 = 0 := Classical.byContradiction fun hn => h8 ⟨rfl, hn⟩
            exact List.length_eq_zero_iff.1 (by rw [← HN8.out]; exact this)
        have hn0 : n8 = 0 := by rw [HN8.out, hps0]; rfl
        have HEE : Hid (sideF nm ws bad = ⟨true, a, n, ps, ws3.tail⟩) := by
          rw [Hid, HE.out]; simp [hps0]
        subst hn0
        clear h8 hps0
        have R9 := R8.out.mark
        obtain ⟨W9, hW9, f1, f2, f3, f4⟩ := R9.fin a n (HO8.out.only ((Only.refl B W8).setCell 1 (.bool true)) (by have := R8.out.lt; omega))
        have HW9 := hidE hW9
        have HF := hidE (show PfAt W9 S a n ∧ Q (.returned (.tuple #[.agg #[.int .i64 a, .int .i64 n], .slice a8 0 c8])) W9 from ⟨f1, HQ.out _ W9 a n ps _ _ HEE.out f4 f2 f3⟩)
        clear hW9 f1 f2 f3 f4 R9
        have hBS : B ≠ S := by have := R8.out.lt; omega
        have hBP : B ≠ P := Ne.symm HPB.out
        rcases b8 with _ | _
        · go_wp2_with fail
          rw [HW9.out]
          obtain ⟨z0, z1, _, _⟩ := HF.out.1.c0
          exact bodyPost_ret (v := .tuple #[.agg #[.int .i64 a, .int .i64 n], .slice a8 0 c8]) (by simp [results, Tryz.results52, go_sem, z0, z1]) rfl HF.out.2
        · go_wp2_with fail
          rw [HW9.out]
          obtain ⟨z0, z1, _, _⟩ := HF.out.1.c0
          exact bodyPost_ret (v := .tuple #[.agg #[.int .i64 a, .int .i64 n], .slice a8 0 c8]) (by simp [results, Tryz.results52, go_sem, z0, z1]) rfl HF.out.2
  | true =>
  have hpe := (read_back HPR.out).1
  have g5 := showPrefix_any a n W4 (prefE_zero hpe).1.1 (prefE_zero hpe).1.2 (prefE_zero hpe).2.1.1 (prefE_zero hpe).2.1.2
  clear hpe
  by_cases hsh : showPrefL a n = x
  · have HBD : Hid (sdBad nm ws bad = (bad || ws1.isEmpty)) := by unfold sdBad; rw [Hid, HWS1.out, show sdX nm ws = x from by unfold sdX; rw [HWS1.out]; exact HX.out, HPR.out, HOK.out]; simp [hsh]
    rw [hsh, HXB.out] at g5
    clear hsh
    go_upto_region 6 with (go_at_call 17; go_must (refine g5.mono ?_; rintro e W5 ⟨rfl, b5⟩))
    have R5 := hidE (HR4.out.step b5)
    have HP5 := hidE (HP4.out.step b5)
    obtain ⟨bd, hbd⟩ : ∃ b, (bad || ws1.isEmpty) = b := ⟨_, rfl⟩
    rw [hbd] at R5 HBD
    clear hbd k1 k2 p0 p1 HR4 HP4 g5 b5
    have g6 := wTakes_any B portW ws2 bd W5 R5.out.rd
    rw [show mkB portW = ⟨#[112, 111, 114, 116]⟩ from rfl] at g6
    have HSD : Hid (sideF nm ws bad = if takB portW ws2 = true then ⟨(bd || ws2.tail.isEmpty) || ((readR (ws2.tail.headD [])).getD []).isEmpty, a, n, (readR (ws2.tail.headD [])).getD [], ws2.tail.tail⟩ else ⟨bd, a, n, [], ws2⟩) := by
      unfold sideF
      rw [HWS1.out, HWS2.out, HBD.out, show sdX nm ws = x from by unfold sdX; rw [HWS1.out]; exact HX.out, HPR.out]
      show (_ : SF) = _
      rfl
    rcases htk : takB portW ws2 with _ | _
    · have e1 : takR portW ws2 = ws2 := by unfold takR; rw [htk, if_neg (by simp)]
      rw [htk, e1] at g6
      have HE : Hid (sideF nm ws bad = ⟨bd, a, n, [], ws2⟩) := by rw [Hid, HSD.out, htk, if_neg (by simp)]
      clear e1 htk HSD
      go_upto_region 13 with (go_at_call 51; go_must (refine g6.mono ?_; rintro e W6 ⟨rfl, rd6, o6⟩))
      have R6 := hidE (R5.out.only o6 rd6)
      have HP6 := hidE (HP5.out.only o6 HPB.out)
      clear g6 o6 rd6 R5 HP5
      obtain ⟨p0, p1, p2, p3⟩ := HP6.out.c0
      obtain ⟨r0, r1, r2, r3⟩ := PfAt.c0 (a := 0) (n := 0) R6.out.rs
      obtain ⟨W9, hW9, f1, f2, f3, f4⟩ := R6.out.fin a n (OwnSp.nil W6 (S + 1))
      have HW9 := hidE hW9
      have HF := hidE (show PfAt W9 S a n ∧ Q (.returned (.tuple #[.agg #[.int .i64 a, .int .i64 n], .slice none 0 0])) W9 from ⟨f1, HQ.out _ W9 a n [] ws2 bd HE.out f4 f2 f3⟩)
      clear hW9 f1 f2 f3 f4 p2 p3
      go_wp2_with fail
      rw [HW9.out]
      obtain ⟨z0, z1, _, _⟩ := HF.out.1.c0
      exact bodyPost_ret (v := .tuple #[.agg #[.int .i64 a, .int .i64 n], .slice none 0 0]) (by simp [results, Tryz.results52, go_sem, z0, z1]) rfl HF.out.2
    · have e1 : takR portW ws2 = ws2.tail := by unfold takR; rw [htk, if_pos rfl]
      rw [htk, e1] at g6
      have HE : Hid (sideF nm ws bad = ⟨(bd || ws2.tail.isEmpty) || ((readR (ws2.tail.headD [])).getD []).isEmpty, a, n, (readR (ws2.tail.headD [])).getD [], ws2.tail.tail⟩) := by rw [Hid, HSD.out, htk, if_pos rfl]
      clear e1 htk HSD
      obtain ⟨ws3, hws3⟩ : ∃ t, ws2.tail = t := ⟨_, rfl⟩
      rw [hws3] at g6 HE
      have HL3 : Hid (∀ x ∈ ws3, x.length ≤ 1048576) := by rw [Hid, ← hws3]; exact tail_len HL2.out
      clear hws3
      go_upto_region 8 with (go_at_call 51; go_must (refine g6.mono ?_; rintro e W6 ⟨rfl, rd6, o6⟩))
      have R6 := hidE (R5.out.only o6 rd6)
      have HP6 := hidE (HP5.out.only o6 HPB.out)
      have g7 := wNext_any B ws3 bd W6 rd6
      clear g6 o6 rd6 R5 HP5
      obtain ⟨y, hy⟩ : ∃ y, ws3.headD [] = y := ⟨_, rfl⟩
      have hyl : y.length ≤ 1048576 := by rw [← hy]; exact WAt.head_len HL3.out
      rw [hy] at g7 HE
      clear hy
      have HYL := hidE hyl
      clear hyl
      go_upto_region 9 with (go_at_call 50; go_must (refine g7.mono ?_; rintro e W7 ⟨rfl, rd7, o7⟩))
      have R7 := hidE (R6.out.only o7 rd7)
      have HP7 := hidE (HP6.out.only o7 HPB.out)
      clear g7 o7 rd7 R6 HP6
      have g8 := refReadS_any (mkB y) W7 (by rw [mkB_size]; exact HYL.out)
      unfold ReadsR at g8
      rw [mkB_toList] at g8
      generalize mkB y = yb at g8 ⊢
      obtain ⟨b3, hb3⟩ : ∃ b, (bd || ws3.isEmpty) = b := ⟨_, rfl⟩
      rw [hb3] at HE R7
      clear hb3
      have g9 : Calls Tryz.prog 93 #[.string yb] W7 fun e w' => ∃ a8 n8 c8 b8, e = .returned (.tuple #[.slice a8 n8 c8, .bool b8]) ∧ OwnSp w' W7.heap.size (.slice a8 n8 c8) ((readR y).getD []) ∧ Hid (n8 = ((readR y).getD []).length) ∧ Hid (b8 = false → (readR y).getD [] = []) ∧ Below W7.heap.size W7 w' := by
        refine g8.mono ?_
        rintro e w' ⟨v, b, rfl, hc, hb⟩
        rcases hc with ⟨r, h1, rfl, h3⟩ | ⟨h1, rfl, rfl⟩
        · obtain ⟨a8, c8, hv⟩ := h3.len
          subst hv
          rw [h1]
          exact ⟨a8, _, c8, true, rfl, h3, rfl, (fun h => by cases h), hb⟩
        · rw [h1]
          exact ⟨none, 0, 0, false, rfl, OwnSp.nil _ _, rfl, fun _ => rfl, hb⟩
      clear g8
      obtain ⟨ps, hps⟩ : ∃ ps, (readR y).getD [] = ps := ⟨_, rfl⟩
      rw [hps] at g9 HE
      clear hps
      go_upto_region 10 with (go_at_call 93; go_must (refine g9.mono ?_; rintro e W8 ⟨a8, n8, c8, b8, rfl, own8, hn8, hb8, bb8⟩))
      have R8 := hidE (R7.out.step bb8)
      have HP8 := hidE (HP7.out.step bb8)
      have HO8 := hidE (own8.base (b' := S + 1) (by have := R7.out.S1; omega))
      have HN8 := hn8
      have HB8 := hb8
      clear g9 own8 hn8 hb8 bb8 R7 HP7
      obtain ⟨k1, k2⟩ := R8.out.rd.facts
      obtain ⟨p0, p1, p2, p3⟩ := HP8.out.c0
      obtain ⟨r0, r1, r2, r3⟩ := PfAt.c0 (a := 0) (n := 0) R8.out.rs
      clear p2 p3
      by_cases h8 : b8 = true ∧ n8 ≠ 0
      · obtain ⟨h81, h82⟩ := h8
        subst h81
        have i1 : ((n8 : Int) == 0) = false := by rw [beq_eq_false_iff_ne]; omega
        have i2 : (n8 == 0) = false := by rw [beq_eq_false_iff_ne]; omega
        have i3 : ¬ (n8 : Int) = 0 := by omega
        have i4 : ¬ n8 = 0 := h82
        have HEE : Hid (sideF nm ws bad = ⟨b3, a, n, ps, ws3.tail⟩) := by
          rw [Hid, HE.out, show ps.isEmpty = false by cases ps with | nil => exact absurd HN8.out h82 | cons _ _ => rfl, Bool.or_false]
        clear h82
        obtain ⟨W9, hW9, f1, f2, f3, f4⟩ := R8.out.fin a n HO8.out
        have HW9 := hidE hW9
        have HF := hidE (show PfAt W9 S a n ∧ Q (.returned (.tuple #[.agg #[.int .i64 a, .int .i64 n], .slice a8 n8 c8])) W9 from ⟨f1, HQ.out _ W9 a n ps _ _ HEE.out f4 f2 f3⟩)
        clear hW9 f1 f2 f3 f4
        go_wp2_with fail
        rw [HW9.out]
        obtain ⟨z0, z1, _, _⟩ := HF.out.1.c0
        exact bodyPost_ret (v := .tuple #[.agg #[.int .i64 a, .int .i64 n], .slice a8 n8 c8]) (by simp [results, Tryz.results52, go_sem, z0, z1]) rfl HF.out.2
      · have hps0 : ps = [] := by
          rcases b8 with _ | _
          · exact HB8.out rfl
          · have : n8 = 0 := Classical.byContradiction fun hn => h8 ⟨rfl, hn⟩
            exact List.length_eq_zero_iff.1 (by rw [← HN8.out]; exact this)
        have hn0 : n8 = 0 := by rw [HN8.out, hps0]; rfl
        have HEE : Hid (sideF nm ws bad = ⟨true, a, n, ps, ws3.tail⟩) := by
          rw [Hid, HE.out]; simp [hps0]
        subst hn0
        clear h8 hps0
        have R9 := R8.out.mark
        obtain ⟨W9, hW9, f1, f2, f3, f4⟩ := R9.fin a n (HO8.out.only ((Only.refl B W8).setCell 1 (.bool true)) (by have := R8.out.lt; omega))
        have HW9 := hidE hW9
        have HF := hidE (show PfAt W9 S a n ∧ Q (.returned (.tuple #[.agg #[.int .i64 a, .int .i64 n], .slice a8 0 c8])) W9 from ⟨f1, HQ.out _ W9 a n ps _ _ HEE.out f4 f2 f3⟩)
        clear hW9 f1 f2 f3 f4 R9
        have hBS : B ≠ S := by have := R8.out.lt; omega
        have hBP : B ≠ P := Ne.symm HPB.out
        rcases b8 with _ | _
        · go_wp2_with fail
          rw [HW9.out]
          obtain ⟨z0, z1, _, _⟩ := HF.out.1.c0
          exact bodyPost_ret (v := .tuple #[.agg #[.int .i64 a, .int .i64 n], .slice a8 0 c8]) (by simp [results, Tryz.results52, go_sem, z0, z1]) rfl HF.out.2
        · go_wp2_with fail
          rw [HW9.out]
          obtain ⟨z0, z1, _, _⟩ := HF.out.1.c0
          exact bodyPost_ret (v := .tuple #[.agg #[.int .i64 a, .int .i64 n], .slice a8 0 c8]) (by simp [results, Tryz.results52, go_sem, z0, z1]) rfl HF.out.2
  · have HBD : Hid (sdBad nm ws bad = true) := by unfold sdBad; rw [Hid, show sdX nm ws = x from by unfold sdX; rw [HWS1.out]; exact HX.out, HPR.out, HOK.out]; simp [hsh]
    have hne : ¬ mkB (showPrefL a n) = xb := fun e => hsh (by rw [← HXB.out] at e; have := congrArg (fun b : ByteArray => b.data.toList) e; simpa [mkB_toList] using this)
    obtain ⟨ub, hub⟩ : ∃ b, mkB (showPrefL a n) = b := ⟨_, rfl⟩
    rw [hub] at g5 hne
    have e1 : (ub.toList == xb.toList) = false := by
      rw [beq_eq_false_iff_ne]
      intro e
      exact hne (by
        have h1 : ub.data.toList = xb.data.toList := by simpa [ByteArray.toList_eq] using e
        have := congrArg mkB h1
        rw [mkB_data, mkB_data] at this
        exact this)
    clear hsh hub hne
    have HTT := hidE (fun (W5 : World) (b5 : Below W4.heap.size W4 W5) => HR4.out.step b5)
    have HT2 := hidE (fun (W5 : World) (b5 : Below W4.heap.size W4 W5) => HP4.out.step b5)
    go_upto_region 5 with (go_at_call 17; go_must (refine g5.mono ?_; rintro e W4b ⟨rfl, b5⟩))
    have HR4' := hidE (HTT.out W4b b5)
    have HP4' := hidE (HT2.out W4b b5)
    clear g5 b5 HTT HT2 k1 k2 p0 p1 HR4 HP4
    obtain ⟨k1, k2⟩ := HR4'.out.rd.facts
    have R5 := hidE HR4'.out.mark
    have HP5 := hidE (HP4'.out.only ((Only.refl B W4b).setCell 1 (.bool true)) HPB.out)
    go_upto_region 6 with fail
    obtain ⟨W5, hW5⟩ : ∃ W5, W4b.setCell ⟨B, 1, none⟩ (.bool true) = W5 := ⟨_, rfl⟩
    rw [hW5] at R5 HP5 ⊢
    obtain ⟨bd, hbd⟩ : ∃ b, true = b := ⟨_, rfl⟩
    rw [hbd] at R5 HBD
    clear hW5 hbd k1 k2 HR4' HP4' e1
    have g6 := wTakes_any B portW ws2 bd W5 R5.out.rd
    rw [show mkB portW = ⟨#[112, 111, 114, 116]⟩ from rfl] at g6
    have HSD : Hid (sideF nm ws bad = if takB portW ws2 = true then ⟨(bd || ws2.tail.isEmpty) || ((readR (ws2.tail.headD [])).getD []).isEmpty, a, n, (readR (ws2.tail.headD [])).getD [], ws2.tail.tail⟩ else ⟨bd, a, n, [], ws2⟩) := by
      unfold sideF
      rw [HWS1.out, HWS2.out, HBD.out, show sdX nm ws = x from by unfold sdX; rw [HWS1.out]; exact HX.out, HPR.out]
      show (_ : SF) = _
      rfl
    rcases htk : takB portW ws2 with _ | _
    · have e1 : takR portW ws2 = ws2 := by unfold takR; rw [htk, if_neg (by simp)]
      rw [htk, e1] at g6
      have HE : Hid (sideF nm ws bad = ⟨bd, a, n, [], ws2⟩) := by rw [Hid, HSD.out, htk, if_neg (by simp)]
      clear e1 htk HSD
      go_upto_region 13 with (go_at_call 51; go_must (refine g6.mono ?_; rintro e W6 ⟨rfl, rd6, o6⟩))
      have R6 := hidE (R5.out.only o6 rd6)
      have HP6 := hidE (HP5.out.only o6 HPB.out)
      clear g6 o6 rd6 R5 HP5
      obtain ⟨p0, p1, p2, p3⟩ := HP6.out.c0
      obtain ⟨r0, r1, r2, r3⟩ := PfAt.c0 (a := 0) (n := 0) R6.out.rs
      obtain ⟨W9, hW9, f1, f2, f3, f4⟩ := R6.out.fin a n (OwnSp.nil W6 (S + 1))
      have HW9 := hidE hW9
      have HF := hidE (show PfAt W9 S a n ∧ Q (.returned (.tuple #[.agg #[.int .i64 a, .int .i64 n], .slice none 0 0])) W9 from ⟨f1, HQ.out _ W9 a n [] ws2 bd HE.out f4 f2 f3⟩)
      clear hW9 f1 f2 f3 f4 p2 p3
      go_wp2_with fail
      rw [HW9.out]
      obtain ⟨z0, z1, _, _⟩ := HF.out.1.c0
      exact bodyPost_ret (v := .tuple #[.agg #[.int .i64 a, .int .i64 n], .slice none 0 0]) (by simp [results, Tryz.results52, go_sem, z0, z1]) rfl HF.out.2
    · have e1 : takR portW ws2 = ws2.tail := by unfold takR; rw [htk, if_pos rfl]
      rw [htk, e1] at g6
      have HE : Hid (sideF nm ws bad = ⟨(bd || ws2.tail.isEmpty) || ((readR (ws2.tail.headD [])).getD []).isEmpty, a, n, (readR (ws2.tail.headD [])).getD [], ws2.tail.tail⟩) := by rw [Hid, HSD.out, htk, if_pos rfl]
      clear e1 htk HSD
      obtain ⟨ws3, hws3⟩ : ∃ t, ws2.tail = t := ⟨_, rfl⟩
      rw [hws3] at g6 HE
      have HL3 : Hid (∀ x ∈ ws3, x.length ≤ 1048576) := by rw [Hid, ← hws3]; exact tail_len HL2.out
      clear hws3
      go_upto_region 8 with (go_at_call 51; go_must (refine g6.mono ?_; rintro e W6 ⟨rfl, rd6, o6⟩))
      have R6 := hidE (R5.out.only o6 rd6)
      have HP6 := hidE (HP5.out.only o6 HPB.out)
      have g7 := wNext_any B ws3 bd W6 rd6
      clear g6 o6 rd6 R5 HP5
      obtain ⟨y, hy⟩ : ∃ y, ws3.headD [] = y := ⟨_, rfl⟩
      have hyl : y.length ≤ 1048576 := by rw [← hy]; exact WAt.head_len HL3.out
      rw [hy] at g7 HE
      clear hy
      have HYL := hidE hyl
      clear hyl
      go_upto_region 9 with (go_at_call 50; go_must (refine g7.mono ?_; rintro e W7 ⟨rfl, rd7, o7⟩))
      have R7 := hidE (R6.out.only o7 rd7)
      have HP7 := hidE (HP6.out.only o7 HPB.out)
      clear g7 o7 rd7 R6 HP6
      have g8 := refReadS_any (mkB y) W7 (by rw [mkB_size]; exact HYL.out)
      unfold ReadsR at g8
      rw [mkB_toList] at g8
      generalize mkB y = yb at g8 ⊢
      obtain ⟨b3, hb3⟩ : ∃ b, (bd || ws3.isEmpty) = b := ⟨_, rfl⟩
      rw [hb3] at HE R7
      clear hb3
      have g9 : Calls Tryz.prog 93 #[.string yb] W7 fun e w' => ∃ a8 n8 c8 b8, e = .returned (.tuple #[.slice a8 n8 c8, .bool b8]) ∧ OwnSp w' W7.heap.size (.slice a8 n8 c8) ((readR y).getD []) ∧ Hid (n8 = ((readR y).getD []).length) ∧ Hid (b8 = false → (readR y).getD [] = []) ∧ Below W7.heap.size W7 w' := by
        refine g8.mono ?_
        rintro e w' ⟨v, b, rfl, hc, hb⟩
        rcases hc with ⟨r, h1, rfl, h3⟩ | ⟨h1, rfl, rfl⟩
        · obtain ⟨a8, c8, hv⟩ := h3.len
          subst hv
          rw [h1]
          exact ⟨a8, _, c8, true, rfl, h3, rfl, (fun h => by cases h), hb⟩
        · rw [h1]
          exact ⟨none, 0, 0, false, rfl, OwnSp.nil _ _, rfl, fun _ => rfl, hb⟩
      clear g8
      obtain ⟨ps, hps⟩ : ∃ ps, (readR y).getD [] = ps := ⟨_, rfl⟩
      rw [hps] at g9 HE
      clear hps
      go_upto_region 10 with (go_at_call 93; go_must (refine g9.mono ?_; rintro e W8 ⟨a8, n8, c8, b8, rfl, own8, hn8, hb8, bb8⟩))
      have R8 := hidE (R7.out.step bb8)
      have HP8 := hidE (HP7.out.step bb8)
      have HO8 := hidE (own8.base (b' := S + 1) (by have := R7.out.S1; omega))
      have HN8 := hn8
      have HB8 := hb8
      clear g9 own8 hn8 hb8 bb8 R7 HP7
      obtain ⟨k1, k2⟩ := R8.out.rd.facts
      obtain ⟨p0, p1, p2, p3⟩ := HP8.out.c0
      obtain ⟨r0, r1, r2, r3⟩ := PfAt.c0 (a := 0) (n := 0) R8.out.rs
      clear p2 p3
      by_cases h8 : b8 = true ∧ n8 ≠ 0
      · obtain ⟨h81, h82⟩ := h8
        subst h81
        have i1 : ((n8 : Int) == 0) = false := by rw [beq_eq_false_iff_ne]; omega
        have i2 : (n8 == 0) = false := by rw [beq_eq_false_iff_ne]; omega
        have i3 : ¬ (n8 : Int) = 0 := by omega
        have i4 : ¬ n8 = 0 := h82
        have HEE : Hid (sideF nm ws bad = ⟨b3, a, n, ps, ws3.tail⟩) := by
          rw [Hid, HE.out, show ps.isEmpty = false by cases ps with | nil => exact absurd HN8.out h82 | cons _ _ => rfl, Bool.or_false]
        clear h82
        obtain ⟨W9, hW9, f1, f2, f3, f4⟩ := R8.out.fin a n HO8.out
        have HW9 := hidE hW9
        have HF := hidE (show PfAt W9 S a n ∧ Q (.returned (.tuple #[.agg #[.int .i64 a, .int .i64 n], .slice a8 n8 c8])) W9 from ⟨f1, HQ.out _ W9 a n ps _ _ HEE.out f4 f2 f3⟩)
        clear hW9 f1 f2 f3 f4
        go_wp2_with fail
        rw [HW9.out]
        obtain ⟨z0, z1, _, _⟩ := HF.out.1.c0
        exact bodyPost_ret (v := .tuple #[.agg #[.int .i64 a, .int .i64 n], .slice a8 n8 c8]) (by simp [results, Tryz.results52, go_sem, z0, z1]) rfl HF.out.2
      · have hps0 : ps = [] := by
          rcases b8 with _ | _
          · exact HB8.out rfl
          · have : n8 = 0 := Classical.byContradiction fun hn => h8 ⟨rfl, hn⟩
            exact List.length_eq_zero_iff.1 (by rw [← HN8.out]; exact this)
        have hn0 : n8 = 0 := by rw [HN8.out, hps0]; rfl
        have HEE : Hid (sideF nm ws bad = ⟨true, a, n, ps, ws3.tail⟩) := by
          rw [Hid, HE.out]; simp [hps0]
        subst hn0
        clear h8 hps0
        have R9 := R8.out.mark
        obtain ⟨W9, hW9, f1, f2, f3, f4⟩ := R9.fin a n (HO8.out.only ((Only.refl B W8).setCell 1 (.bool true)) (by have := R8.out.lt; omega))
        have HW9 := hidE hW9
        have HF := hidE (show PfAt W9 S a n ∧ Q (.returned (.tuple #[.agg #[.int .i64 a, .int .i64 n], .slice a8 0 c8])) W9 from ⟨f1, HQ.out _ W9 a n ps _ _ HEE.out f4 f2 f3⟩)
        clear hW9 f1 f2 f3 f4 R9
        have hBS : B ≠ S := by have := R8.out.lt; omega
        have hBP : B ≠ P := Ne.symm HPB.out
        rcases b8 with _ | _
        · go_wp2_with fail
          rw [HW9.out]
          obtain ⟨z0, z1, _, _⟩ := HF.out.1.c0
          exact bodyPost_ret (v := .tuple #[.agg #[.int .i64 a, .int .i64 n], .slice a8 0 c8]) (by simp [results, Tryz.results52, go_sem, z0, z1]) rfl HF.out.2
        · go_wp2_with fail
          rw [HW9.out]
          obtain ⟨z0, z1, _, _⟩ := HF.out.1.c0
          exact bodyPost_ret (v := .tuple #[.agg #[.int .i64 a, .int .i64 n], .slice a8 0 c8]) (by simp [results, Tryz.results52, go_sem, z0, z1]) rfl HF.out.2
end Go.Proofs.YthnkjfgiclolaaaGreatDoor

namespace Go.Proofs.YthnkjfgiclolaaaGreatDoor
open Go.RowKit
set_option linter.unusedVariables false

def wQuick : List UInt8 := [113, 117, 105, 99, 107]
def wIn : List UInt8 := [105, 110]
def wOut : List UInt8 := [111, 117, 116]
def wKind : List UInt8 := [107, 105, 110, 100]
def wStream : List UInt8 := [115, 116, 114, 101, 97, 109]
def wSingle : List UInt8 := [115, 105, 110, 103, 108, 101]
def wEcho : List UInt8 := [101, 99, 104, 111]
def wFrom : List UInt8 := [102, 114, 111, 109]
def wTo : List UInt8 := [116, 111]
def wKeep : List UInt8 := [107, 101, 101, 112]
abbrev Ws := List (List UInt8)
def wayF (ws : Ws) : Int × Ws := if takB wIn ws = true then (1, ws.tail) else if takB wOut ws = true then (2, ws.tail) else (0, ws)
def kindN (y : List UInt8) : Int := if y = wStream then 1 else if y = wSingle then 2 else if y = wEcho then 3 else 0
/-- The kind (0: no word of it; -1: a wrong one), what is left, whether words lacked. -/
def kindF (ws : Ws) (bad : Bool) : Int × Ws × Bool := if takB wKind ws = true then (if kindN (ws.tail.headD []) = 0 then -1 else kindN (ws.tail.headD []), ws.tail.tail, bad || ws.tail.isEmpty) else (0, ws, bad)
def ruleF (ws : Ws) (r : Rl) (bad : Bool) : Rl × Bool :=
  ({ r with sa := (sideF wFrom ws bad).a, sl := (sideF wFrom ws bad).n, fr := (sideF wFrom ws bad).ps, da := (sideF wTo (sideF wFrom ws bad).rest (sideF wFrom ws bad).bad).a, dl := (sideF wTo (sideF wFrom ws bad).rest (sideF wFrom ws bad).bad).n, tl := (sideF wTo (sideF wFrom ws bad).rest (sideF wFrom ws bad).bad).ps, keep := takB wKeep (sideF wTo (sideF wFrom ws bad).rest (sideF wFrom ws bad).bad).rest },
   !(sideF wTo (sideF wFrom ws bad).rest (sideF wFrom ws bad).bad).bad && (takR wKeep (sideF wTo (sideF wFrom ws bad).rest (sideF wFrom ws bad).bad).rest).isEmpty)
/-- What is read of words. -/
def headF (ws : Ws) : Rl := { nilR with pass := decide (ws.headD [] = passL), quick := takB wQuick ws.tail, way := (wayF (takR wQuick ws.tail)).1, kind := (kindF (wayF (takR wQuick ws.tail)).2 ws.isEmpty).1 }
def refR (ws : Ws) : Option Rl :=
  if (ws.headD [] = passL ∨ ws.headD [] = blockL) ∧ 0 ≤ (headF ws).kind ∧ (ruleF (kindF (wayF (takR wQuick ws.tail)).2 ws.isEmpty).2.1 (headF ws) (kindF (wayF (takR wQuick ws.tail)).2 ws.isEmpty).2.2).2 = true then
    some (ruleF (kindF (wayF (takR wQuick ws.tail)).2 ws.isEmpty).2.1 (headF ws) (kindF (wayF (takR wQuick ws.tail)).2 ws.isEmpty).2.2).1
  else none
theorem RlAt.nostr {W : World} {b : Nat} {r : Rl} {fv tv : Value} (h : RlAt W b r fv tv) (hf : ∃ a n c, fv = .slice a n c) (ht : ∃ a n c, tv = .slice a n c) (j : Nat) (s : ByteArray) : W.cell? ⟨b, j, none⟩ ≠ some (.string s) := by
  intro e
  obtain ⟨a, n, c, rfl⟩ := hf
  obtain ⟨a', n', c', rfl⟩ := ht
  rw [cell_of_row W b _ _ _ _ h] at e
  rcases j with _ | _ | _ | _ | _ | _ | _ | _ | _ | _ | _ | j <;> simp at e
theorem OwnSp.form {W : World} {b : Nat} {v : Value} {ps : List Sp} (h : OwnSp W b v ps) : ∃ a n c, v = .slice a n c := by
  obtain ⟨a, c, e⟩ := h.len
  exact ⟨a, _, c, e⟩
/-- Where ReadRule stands: the variable of its result, the reader, the rule. -/
structure RrSt (w W : World) (S B R : Nat) (ws : Ws) (bad : Bool) (r : Rl) (fv tv : Value) : Prop where
  rs : RlAt W S nilR (.slice none 0 0) (.slice none 0 0)
  rd : WAt W B ws bad
  rl : RlAt W R r fv tv
  pf : OwnSp W (R + 1) fv r.fr
  pt : OwnSp W (R + 1) tv r.tl
  bel : Below S w W
  o1 : S < B
  o2 : B < R
theorem RrSt.turn {w W W' : World} {S B R : Nat} {ws ws' : Ws} {bad bad' : Bool} {r : Rl} {fv tv : Value} (h : RrSt w W S B R ws bad r fv tv) (t : Turn (fun k => k = B) W W') (rd' : WAt W' B ws' bad') : RrSt w W' S B R ws' bad' r fv tv :=
  ⟨h.rs.keep (t.block S h.rs.lt (by have := h.o1; omega)), rd', h.rl.keep (t.block R h.rl.lt (by have := h.o2; omega)), h.pf.blk (fun k hk => t.block k (h.pf.block k hk).2 (by have := (h.pf.block k hk).1; have := h.o2; omega)), h.pt.blk (fun k hk => t.block k (h.pt.block k hk).2 (by have := (h.pt.block k hk).1; have := h.o2; omega)),
   Turn.below h.bel (Nat.le_of_lt h.rs.lt) t (fun k hk => by have := h.o1; omega), h.o1, h.o2⟩
theorem RrSt.only {w W W' : World} {S B R : Nat} {ws ws' : Ws} {bad bad' : Bool} {r : Rl} {fv tv : Value} (h : RrSt w W S B R ws bad r fv tv) (o : Only B W W') (rd' : WAt W' B ws' bad') : RrSt w W' S B R ws' bad' r fv tv := h.turn (Turn.of_only o rfl) rd'
theorem RrSt.rule {w W W' : World} {S B R : Nat} {ws : Ws} {bad : Bool} {r r' : Rl} {fv tv fv' tv' : Value} (h : RrSt w W S B R ws bad r fv tv) (hr : RlAt W' R r' fv' tv') (o : Only R W W') (hf : OwnSp W (R + 1) fv' r'.fr) (ht : OwnSp W (R + 1) tv' r'.tl) : RrSt w W' S B R ws bad r' fv' tv' :=
  ⟨h.rs.keep (o.block S (by have := h.o1; have := h.o2; omega)), h.rd.only o (by have := h.o2; omega) (fun _ _ j s => h.rl.nostr h.pf.form h.pt.form j s), hr, hf.only o (Nat.lt_succ_self R), ht.only o (Nat.lt_succ_self R), o.below (by have := h.o1; have := h.o2; omega) h.bel, h.o1, h.o2⟩
theorem WAt.of_own {W : World} {base : Nat} {v : Value} {ws : Ws} (h : OwnS W base v (ws.map mkB)) (hne : ws ≠ []) : ∃ g c, v = .slice (some ⟨g, 0, none⟩) ws.length c ∧ ∀ W', Below W.heap.size (W.alloc (.cells #[v, .bool false] 96)) W' → W'.heap[W.heap.size]? = (W.alloc (.cells #[v, .bool false] 96)).heap[W.heap.size]? → WAt W' W.heap.size ws false := by
  obtain ⟨g, c, hv, hb, hg, hl, hm⟩ := h.shape (by rw [List.length_map]; exact List.length_pos_iff.2 hne)
  rw [List.length_map] at hv hl
  subst hv
  refine ⟨g, c, rfl, fun W' b hW' => ⟨g, 0, c, hW'.trans (heap_alloc_new W _), hl, hm, fun i hi => ?_, by omega, ?_⟩⟩
  · have := h.cell (by rw [List.length_map]) i (by rw [List.length_map]; exact hi)
    rw [List.getElem_map] at this
    have b2 : Below W.heap.size W W' := ((Below.refl _ _).alloc (Nat.le_refl _) _).trans b
    rw [Nat.zero_add]
    exact (b2.cell (p := ⟨g, i, none⟩) hg).trans this
  · have := b.size
    rw [World.size_alloc] at this
    omega
theorem RrSt.new {w W : World} {S base : Nat} {v : Value} {ws : Ws} (hs : RlAt W S nilR (.slice none 0 0) (.slice none 0 0)) (hb : Below S w W) (h : OwnS W base v (ws.map mkB)) (hne : ws ≠ []) :
    RrSt w ((W.alloc (.cells #[v, .bool false] 96)).alloc (.cells #[.bool false, .bool false, .bool false, .int .i64 0, .int .i64 0, .int .i64 0, .int .i64 0, .int .i64 0, .int .i64 0, .slice none 0 0, .slice none 0 0] 33)) S W.heap.size (W.heap.size + 1) ws false nilR (.slice none 0 0) (.slice none 0 0) := by
  obtain ⟨g, c, _, hw⟩ := WAt.of_own h hne
  have b1 : Below W.heap.size W (W.alloc (.cells #[v, .bool false] 96)) := (Below.refl _ _).alloc (Nat.le_refl _) _
  have z1 : (W.alloc (.cells #[v, .bool false] 96)).heap.size = W.heap.size + 1 := World.size_alloc _ _
  have n1 := RlAt.new (W.alloc (.cells #[v, .bool false] 96)) nilR (.slice none 0 0) (.slice none 0 0)
  have b2 : Below (W.alloc (.cells #[v, .bool false] 96)).heap.size (W.alloc (.cells #[v, .bool false] 96)) ((W.alloc (.cells #[v, .bool false] 96)).alloc (.cells #[.bool false, .bool false, .bool false, .int .i64 0, .int .i64 0, .int .i64 0, .int .i64 0, .int .i64 0, .int .i64 0, .slice none 0 0, .slice none 0 0] 33)) := (Below.refl _ _).alloc (Nat.le_refl _) _
  rw [z1] at n1
  have hS := hs.lt
  refine ⟨(hs.below hS b1).below (by rw [z1]; omega) b2, hw _ (b2.mono (by rw [z1]; omega)) (b2.block _ (by rw [z1]; omega)), n1, OwnSp.nil _ _, OwnSp.nil _ _, ?_, hS, Nat.lt_succ_self _⟩
  exact hb.trans ((b1.mono (Nat.le_of_lt hS)).trans (b2.mono (by rw [z1]; omega)))
theorem RlAt.storeFrom {w : World} {b : Nat} {r : Rl} {fv tv : Value} (h : RlAt w b r fv tv) (a n : Int) (v : Value) (ps : List Sp) : ∃ w', ((w.setCell ⟨b, 5, none⟩ (.int .i64 a)).setCell ⟨b, 6, none⟩ (.int .i64 n)).setCell ⟨b, 9, none⟩ v = w' ∧ RlAt w' b { r with sa := a, sl := n, fr := ps } v tv ∧ Only b w w' := by
  refine ⟨_, rfl, ?_, (((Only.refl _ _).setCell _ _).setCell _ _).setCell _ _⟩
  have e := heap_setCell_same _ b 5 _ _ (.int .i64 a) h
  exact heap_setCell_same _ b 9 _ _ v (heap_setCell_same _ b 6 _ _ (.int .i64 n) e)
theorem RlAt.storeTo {w : World} {b : Nat} {r : Rl} {fv tv : Value} (h : RlAt w b r fv tv) (a n : Int) (v : Value) (ps : List Sp) : ∃ w', ((w.setCell ⟨b, 7, none⟩ (.int .i64 a)).setCell ⟨b, 8, none⟩ (.int .i64 n)).setCell ⟨b, 10, none⟩ v = w' ∧ RlAt w' b { r with da := a, dl := n, tl := ps } fv v ∧ Only b w w' := by
  refine ⟨_, rfl, ?_, (((Only.refl _ _).setCell _ _).setCell _ _).setCell _ _⟩
  have e := heap_setCell_same _ b 7 _ _ (.int .i64 a) h
  exact heap_setCell_same _ b 10 _ _ v (heap_setCell_same _ b 8 _ _ (.int .i64 n) e)
end Go.Proofs.YthnkjfgiclolaaaGreatDoor

namespace Go.Proofs.YthnkjfgiclolaaaGreatDoor
open Go.RowKit
set_option linter.unusedVariables false

/-- Words, each behind a blank. -/
def jn : Ws → List UInt8
  | [] => []
  | x :: t => 32 :: (x ++ jn t)
theorem jn_append (a b : Ws) : jn (a ++ b) = jn a ++ jn b := by
  induction a with
  | nil => rfl
  | cons x t ih => simp [jn, ih]
theorem join_jn (x : List UInt8) (t : Ws) : Lib.join (x :: t) [32] = x ++ jn t := by
  induction t generalizing x with
  | nil => rw [Lib.join_one]; simp [jn]
  | cons y t ih =>
    have e : Lib.join (x :: y :: t) [32] = x ++ 32 :: Lib.join (y :: t) [32] := by
      rw [Lib.join_cons, Lib.join_cons]; simp [Lib.joinTail]
    rw [e, ih]; rfl
theorem takB_yes {s : List UInt8} {ws : Ws} (h : takB s ws = true) : ws = s :: ws.tail := by
  unfold takB at h
  cases ws with
  | nil => simp at h
  | cons x t => simp at h; simp [h]
theorem head_tail {ws : Ws} (h : ws.isEmpty = false) : ws = ws.headD [] :: ws.tail := by
  cases ws with
  | nil => simp at h
  | cons x t => rfl
/-- A side that was read without a fault. -/
theorem sideF_good {nm : List UInt8} {ws : Ws} {bad : Bool} (h : (sideF nm ws bad).bad = false) : bad = false ∧ prefE (sideF nm ws bad).a (sideF nm ws bad).n = 0 ∧ Nrm (sideF nm ws bad).ps ∧ (sideF nm ws bad).ps.length ≤ 200 ∧ jn ws = sideL (32 :: (nm ++ [32])) (sideF nm ws bad).a (sideF nm ws bad).n (sideF nm ws bad).ps ++ jn (sideF nm ws bad).rest := by
  have key : sdBad nm ws bad = false → bad = false ∧ prefE (readP (sdX nm ws)).1 (readP (sdX nm ws)).2.1 = 0 ∧ ws = nm :: showPrefL (readP (sdX nm ws)).1 (readP (sdX nm ws)).2.1 :: (takR nm ws).tail := by
    intro hb
    unfold sdBad at hb
    simp only [Bool.or_eq_false_iff, Bool.not_eq_false', decide_eq_false_iff_not, Classical.not_not] at hb
    obtain ⟨⟨h1, h2⟩, ⟨h3, h4⟩, h5⟩ := hb
    refine ⟨h1, ?_, ?_⟩
    · have : readP (sdX nm ws) = ((readP (sdX nm ws)).1, (readP (sdX nm ws)).2.1, true) := by rw [← h4]
      exact (read_back this).1
    · have e1 := takB_yes h3
      have e2 : takR nm ws = ws.tail := by unfold takR; rw [h3, if_pos rfl]
      have e3 := head_tail h2
      rw [h5]
      unfold sdX
      rw [← e3, e2]
      exact e1
  unfold sideF at h ⊢
  split at h
  · rename_i hp
    rw [if_pos hp]
    simp only [Bool.or_eq_false_iff] at h
    obtain ⟨⟨h1, h2⟩, h3⟩ := h
    obtain ⟨k1, k2, k3⟩ := key h1
    have e1 := takB_yes hp
    have e2 := head_tail h2
    cases hr : readR ((takR nm ws).tail.tail.headD []) with
    | none => rw [hr] at h3; simp at h3
    | some l =>
      rw [hr] at h3
      have hne : l ≠ [] := by rintro rfl; simp at h3
      simp only [Option.getD_some]
      have hl : Nrm l ∧ l.length ≤ 200 ∧ (takR nm ws).tail.tail.headD [] = textL l := by
        unfold readR at hr
        split at hr
        · cases hr; exact absurd rfl hne
        · obtain ⟨n1, n2, m, n3, n4⟩ := refFold_some _ _ _ hr Nrm.nil (by simp)
          rw [List.nil_append] at n3
          subst n3
          refine ⟨n1, n2, ?_⟩
          have hj := join_cut 44 _ ((takR nm ws).tail.tail.headD []) (Nat.le_refl _)
          rw [n4] at hj
          unfold textL
          rw [if_neg hne, hj]
      obtain ⟨l1, l2, l3⟩ := hl
      refine ⟨k1, k2, l1, l2, ?_⟩
      conv => lhs; rw [k3, e1, e2, l3]
      unfold sideL portsL
      rw [if_neg hne, printL_nrm l1]
      simp [jn, portW, portL]
  · rename_i hp
    rw [if_neg hp]
    obtain ⟨k1, k2, k3⟩ := key h
    refine ⟨k1, k2, Nrm.nil, by simp, ?_⟩
    conv => lhs; rw [k3]
    unfold sideL portsL
    rw [if_pos rfl]
    simp [jn]
def portWs (ps : List Sp) : Ws := if ps = [] then [] else [portW, textL ps]
def sideWs (nm : List UInt8) (a n : Int) (ps : List Sp) : Ws := nm :: showPrefL a n :: portWs ps
def quickWs (r : Rl) : Ws := if r.quick then [wQuick] else []
def wayWs (k : Int) : Ws := if k = 1 then [wIn] else if k = 2 then [wOut] else []
def kindWs (k : Int) : Ws := if k = 1 then [wKind, wStream] else if k = 2 then [wKind, wSingle] else if k = 3 then [wKind, wEcho] else []
def keepWs (r : Rl) : Ws := if r.keep then [wKeep] else []
/-- The words of a rule's line. -/
def wordsOf (r : Rl) : Ws := headL r :: (quickWs r ++ (wayWs r.way ++ (kindWs r.kind ++ (sideWs wFrom r.sa r.sl r.fr ++ (sideWs wTo r.da r.dl r.tl ++ keepWs r)))))
theorem jn_side {nm : List UInt8} {a n : Int} {ps : List Sp} (h : Nrm ps) : jn (sideWs nm a n ps) = sideL (32 :: (nm ++ [32])) a n ps := by
  unfold sideWs sideL portWs portsL
  split
  · simp [jn]
  · rw [printL_nrm h]; simp [jn, portW, portL]
theorem words_join {r : Rl} (h : Writ r) : Lib.join (wordsOf r) [32] = lineL r := by
  unfold wordsOf
  rw [join_jn]
  simp only [jn_append, jn_side h.fr, jn_side h.tl]
  have e1 : jn (quickWs r) = quickL r := by unfold quickWs quickL; split <;> rfl
  have e2 : jn (wayWs r.way) = wayL r.way := by unfold wayWs wayL; split <;> (try split) <;> rfl
  have e3 : jn (kindWs r.kind) = kindL r.kind := by unfold kindWs kindL; split <;> (try split) <;> (try split) <;> rfl
  have e4 : jn (keepWs r) = keepL r := by unfold keepWs keepL; split <;> rfl
  rw [e1, e2, e3, e4]
  have f1 : 32 :: (wFrom ++ [32]) = fromL := rfl
  have f2 : 32 :: (wTo ++ [32]) = toL := rfl
  rw [f1, f2]
  unfold lineL bothL
  simp only [List.append_assoc]
theorem all_no {l : List UInt8} {c : UInt8} (h : l.all (fun x => x != c) = true) : ∀ x ∈ l, x ≠ c := fun x hx e => by
  have := List.all_eq_true.1 h x hx
  rw [e] at this
  simp at this
theorem side_no {nm : List UInt8} {a n : Int} {ps : List Sp} (hn : ∀ x ∈ nm, x ≠ 32) : ∀ w ∈ sideWs nm a n ps, ∀ x ∈ w, x ≠ 32 := by
  intro w hw
  unfold sideWs at hw
  rcases List.mem_cons.1 hw with rfl | hw
  · exact hn
  · rcases List.mem_cons.1 hw with rfl | hw
    · exact pref_low (by decide)
    · unfold portWs at hw
      split at hw
      · cases hw
      · rcases List.mem_cons.1 hw with rfl | hw
        · exact all_no (by decide)
        · rw [List.mem_singleton] at hw; subst hw; exact text_low (by decide)
theorem words_no (r : Rl) : ∀ w ∈ wordsOf r, ∀ x ∈ w, x ≠ 32 := by
  intro w hw
  unfold wordsOf at hw
  rcases List.mem_cons.1 hw with rfl | hw
  · unfold headL; split <;> exact all_no (by decide)
  · rcases List.mem_append.1 hw with hw | hw
    · unfold quickWs at hw; split at hw
      · rw [List.mem_singleton] at hw; subst hw; exact all_no (by decide)
      · cases hw
    · rcases List.mem_append.1 hw with hw | hw
      · unfold wayWs at hw; split at hw
        · rw [List.mem_singleton] at hw; subst hw; exact all_no (by decide)
        · split at hw
          · rw [List.mem_singleton] at hw; subst hw; exact all_no (by decide)
          · cases hw
      · rcases List.mem_append.1 hw with hw | hw
        · unfold kindWs at hw
          split at hw
          · simp only [List.mem_cons, List.not_mem_nil, or_false] at hw; rcases hw with rfl | rfl <;> exact all_no (by decide)
          · split at hw
            · simp only [List.mem_cons, List.not_mem_nil, or_false] at hw; rcases hw with rfl | rfl <;> exact all_no (by decide)
            · split at hw
              · simp only [List.mem_cons, List.not_mem_nil, or_false] at hw; rcases hw with rfl | rfl <;> exact all_no (by decide)
              · cases hw
        · rcases List.mem_append.1 hw with hw | hw
          · exact side_no (all_no (by decide)) w hw
          · rcases List.mem_append.1 hw with hw | hw
            · exact side_no (all_no (by decide)) w hw
            · unfold keepWs at hw; split at hw
              · rw [List.mem_singleton] at hw; subst hw; exact all_no (by decide)
              · cases hw
theorem words_cutL {r : Rl} (h : Writ r) : cutL 32 (lineL r) = wordsOf r := by
  rw [← words_join h]
  exact cut_join 32 (wordsOf r) (by unfold wordsOf; exact List.cons_ne_nil _ _) (words_no r)
theorem sideF_back {nm : List UInt8} {a n : Int} {ps : List Sp} {t : Ws} (hp : prefE a n = 0) (hn : Nrm ps) (hl : ps.length ≤ 200) (ht : takB portW t = false) : sideF nm (sideWs nm a n ps ++ t) false = ⟨false, a, n, ps, t⟩ := by
  have e0 : takB nm (sideWs nm a n ps ++ t) = true := by unfold takB sideWs; simp
  have e1 : takR nm (sideWs nm a n ps ++ t) = showPrefL a n :: (portWs ps ++ t) := by unfold takR; rw [e0, if_pos rfl]; rfl
  have e2 : sdX nm (sideWs nm a n ps ++ t) = showPrefL a n := by unfold sdX; rw [e1]; rfl
  have e3 : sdBad nm (sideWs nm a n ps ++ t) false = false := by
    unfold sdBad
    rw [e1, e0, e2, readP_show hp]
    simp
  unfold sideF
  rw [e1, e2, e3, readP_show hp, List.tail_cons]
  by_cases h0 : ps = []
  · have e4 : portWs ps = [] := by unfold portWs; rw [if_pos h0]
    rw [e4, List.nil_append, if_neg (by rw [ht]; simp), h0]
  · have e4 : portWs ps ++ t = portW :: textL ps :: t := by unfold portWs; rw [if_neg h0]; rfl
    have e5 : takB portW (portW :: textL ps :: t) = true := by unfold takB; simp
    rw [e4, if_pos e5]
    simp only [List.tail_cons, List.headD_cons, List.isEmpty_cons]
    rw [readR_text hn hl h0]
    cases ps with
    | nil => exact absurd rfl h0
    | cons q qs => rfl
theorem head_words {r : Rl} (h : Writ r) (Z : Ws) : headF (headL r :: (quickWs r ++ (wayWs r.way ++ (kindWs r.kind ++ wFrom :: Z)))) = { nilR with pass := r.pass, quick := r.quick, way := r.way, kind := r.kind } ∧ kindF (wayF (takR wQuick (quickWs r ++ (wayWs r.way ++ (kindWs r.kind ++ wFrom :: Z))))).2 false = (r.kind, wFrom :: Z, false) := by
  obtain ⟨pass, quick, keep, way, kind, sa, sl, da, dl, fr, tl⟩ := r
  have w0 := h.w0
  have w2 := h.w2
  have k0 := h.k0
  have k3 := h.k3
  simp only at w0 w2 k0 k3
  clear h
  rcases (by omega : way = 0 ∨ way = 1 ∨ way = 2) with rfl | rfl | rfl <;>
  rcases (by omega : kind = 0 ∨ kind = 1 ∨ kind = 2 ∨ kind = 3) with rfl | rfl | rfl | rfl <;>
  cases pass <;> cases quick <;> exact ⟨by kernel_rfl, by kernel_rfl⟩
theorem keepWs_no (r : Rl) : takB portW (keepWs r) = false ∧ takB wKeep (keepWs r) = r.keep ∧ (takR wKeep (keepWs r)).isEmpty = true := by
  unfold keepWs
  rcases r.keep with _ | _
  · exact ⟨rfl, rfl, rfl⟩
  · exact ⟨by decide, by decide, by decide⟩
/-- A line that was written is read. -/
theorem refR_back {r : Rl} (h : Writ r) : refR (cutL 32 (lineL r)) = some r := by
  rw [words_cutL h]
  obtain ⟨k1, k2, k3⟩ := keepWs_no r
  have s2 := sideF_back (nm := wTo) h.dst h.tl h.tll k1
  have s1 := sideF_back (nm := wFrom) (t := sideWs wTo r.da r.dl r.tl ++ keepWs r) h.src h.fr h.frl (by kernel_rfl)
  obtain ⟨h1, h2⟩ := head_words h (showPrefL r.sa r.sl :: (portWs r.fr ++ (sideWs wTo r.da r.dl r.tl ++ keepWs r)))
  have ew : wordsOf r = headL r :: (quickWs r ++ (wayWs r.way ++ (kindWs r.kind ++ wFrom :: (showPrefL r.sa r.sl :: (portWs r.fr ++ (sideWs wTo r.da r.dl r.tl ++ keepWs r)))))) := rfl
  have es : wFrom :: (showPrefL r.sa r.sl :: (portWs r.fr ++ (sideWs wTo r.da r.dl r.tl ++ keepWs r))) = sideWs wFrom r.sa r.sl r.fr ++ (sideWs wTo r.da r.dl r.tl ++ keepWs r) := rfl
  have hr : ruleF (wFrom :: (showPrefL r.sa r.sl :: (portWs r.fr ++ (sideWs wTo r.da r.dl r.tl ++ keepWs r)))) { nilR with pass := r.pass, quick := r.quick, way := r.way, kind := r.kind } false = (r, true) := by
    unfold ruleF
    rw [es, s1]
    simp only
    rw [s2]
    simp only
    rw [k2, k3]
    rfl
  unfold refR
  rw [← ew] at h1
  rw [h1]
  have e1 : (wordsOf r).tail = quickWs r ++ (wayWs r.way ++ (kindWs r.kind ++ wFrom :: (showPrefL r.sa r.sl :: (portWs r.fr ++ (sideWs wTo r.da r.dl r.tl ++ keepWs r))))) := rfl
  have e2 : (wordsOf r).isEmpty = false := rfl
  rw [e1, e2, h2]
  simp only
  have hh : (wordsOf r).headD [] = passL ∨ (wordsOf r).headD [] = blockL := by
    show headL r = passL ∨ headL r = blockL
    unfold headL
    split
    · exact .inl rfl
    · exact .inr rfl
  rw [hr, if_pos ⟨hh, h.k0, rfl⟩]
/-- What is read is what the words say. -/
theorem refR_sound {ws : Ws} {r : Rl} (h : refR ws = some r) : Writ r ∧ Lib.join ws [32] = lineL r := by
  unfold refR at h
  split at h
  case isFalse => cases h
  rename_i hc
  obtain ⟨h1, h2, h3⟩ := hc
  cases h
  have hne : ws.isEmpty = false := by
    cases ws with
    | nil => rcases h1 with h1 | h1 <;> cases h1
    | cons _ _ => rfl
  have ht := head_tail hne
  rw [hne] at h3 ⊢
  obtain ⟨ws5, hws5⟩ : ∃ t, takR wQuick ws.tail = t := ⟨_, rfl⟩
  have q5 : jn ws.tail = (if takB wQuick ws.tail = true then 32 :: wQuick else []) ++ jn ws5 := by
    rw [← hws5]
    unfold takR
    split
    · rename_i hq; conv => lhs; rw [takB_yes hq]
      rfl
    · rfl
  have w5 : jn ws5 = wayL (wayF ws5).1 ++ jn (wayF ws5).2 ∧ 0 ≤ (wayF ws5).1 ∧ (wayF ws5).1 ≤ 2 := by
    unfold wayF
    split
    · rename_i hq
      refine ⟨?_, by simp, by simp⟩
      conv => lhs; rw [takB_yes hq]
      rfl
    · split
      · rename_i hq
        refine ⟨?_, by simp, by simp⟩
        conv => lhs; rw [takB_yes hq]
        rfl
      · exact ⟨rfl, by simp, by simp⟩
  have eH : headF ws = { nilR with pass := decide (ws.headD [] = passL), quick := takB wQuick ws.tail, way := (wayF ws5).1, kind := (kindF (wayF ws5).2 false).1 } := by unfold headF; rw [hws5, hne]
  rw [hws5] at h3 ⊢
  rw [eH] at h2 h3 ⊢
  simp only at h2
  obtain ⟨ws9, hws9⟩ : ∃ t, (wayF ws5).2 = t := ⟨_, rfl⟩
  rw [hws9] at w5 h2 h3 ⊢
  unfold ruleF at h3 ⊢
  simp only at h3 ⊢
  rw [Bool.and_eq_true] at h3
  obtain ⟨h4, h5⟩ := h3
  rw [Bool.not_eq_true'] at h4
  obtain ⟨g1, g2, g3, g4, g5⟩ := sideF_good h4
  obtain ⟨f1, f2, f3, f4, f5⟩ := sideF_good g1
  have k9 : jn ws9 = kindL (kindF ws9 false).1 ++ jn (kindF ws9 false).2.1 ∧ (kindF ws9 false).1 ≤ 3 := by
    unfold kindF at h2 f1 ⊢
    split at h2
    · rename_i hq
      rw [if_pos hq] at f1 ⊢
      simp only [Bool.false_or] at f1
      simp only at h2 ⊢
      have e2 := head_tail f1
      split at h2
      · omega
      · rename_i hk
        rw [if_neg hk]
        unfold kindN at hk ⊢
        split at hk
        · rename_i hy
          rw [if_pos hy]
          refine ⟨?_, by simp⟩
          conv => lhs; rw [takB_yes hq, e2, hy]
          rfl
        · rename_i hy0
          rw [if_neg hy0]
          split at hk
          · rename_i hy
            rw [if_pos hy]
            refine ⟨?_, by simp⟩
            conv => lhs; rw [takB_yes hq, e2, hy]
            rfl
          · rename_i hy1
            rw [if_neg hy1]
            split at hk
            · rename_i hy
              rw [if_pos hy]
              refine ⟨?_, by simp⟩
              conv => lhs; rw [takB_yes hq, e2, hy]
              rfl
            · exact absurd rfl hk
    · rename_i hq
      rw [if_neg hq]
      exact ⟨rfl, by simp⟩
  have hk : jn (sideF wTo (sideF wFrom (kindF ws9 false).2.1 (kindF ws9 false).2.2).rest (sideF wFrom (kindF ws9 false).2.1 (kindF ws9 false).2.2).bad).rest = (if takB wKeep (sideF wTo (sideF wFrom (kindF ws9 false).2.1 (kindF ws9 false).2.2).rest (sideF wFrom (kindF ws9 false).2.1 (kindF ws9 false).2.2).bad).rest = true then 32 :: wKeep else []) := by
    unfold takR at h5
    split at h5
    · rename_i hq
      rw [if_pos hq, takB_yes hq, List.isEmpty_iff.1 h5]
      rfl
    · rename_i hq
      rw [if_neg hq, List.isEmpty_iff.1 h5]
      rfl
  constructor
  · exact ⟨w5.2.1, w5.2.2, h2, k9.2, f2, g2, f3, f4, g3, g4⟩
  · rw [ht, join_jn, List.headD_cons, List.tail_cons, q5, w5.1, k9.1, f5, g5, hk]
    have e0 : ws.headD [] = headL { nilR with pass := decide (ws.headD [] = passL) } := by
      unfold headL
      rcases h1 with h1 | h1
      · rw [h1]; rfl
      · rw [h1]; rfl
    unfold lineL bothL
    simp only [List.append_assoc]
    conv => lhs; rw [e0]
    rfl
end Go.Proofs.YthnkjfgiclolaaaGreatDoor
