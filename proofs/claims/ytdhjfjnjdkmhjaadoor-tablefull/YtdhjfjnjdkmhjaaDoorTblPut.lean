/- What put of package table returns, and what it leaves: the flow is in its place. -/
import Derived.Test.YtdhjfjnjdkmhjaaDoorTblHas
import Derived.Deep.DeepCutAuto
namespace Go.Proofs.YtdhjfjnjdkmhjaaDoor
open Go.RowKit Go.Maps
set_option linter.unusedVariables false

set_option maxRecDepth 100000 in
theorem same_lit {a b : Ky} (ha : KyOk a) (hb : KyOk b) : (litK a).sameKey (litK b) = decide (a = b) := by
  by_cases h : a = b
  · subst h
    rw [decide_eq_true rfl]
    have h1 := keyK ha
    have hk := lawK.key h1
    clear h1
    generalize litK a = q at hk ⊢
    exact WideAt.sameKey_self hk
  · rw [decide_eq_false h]
    exact sameKey_ne (fun e => h (litK_inj ha hb e))
/-- A flow in the place of its key. -/
def tputL (f : Fl) (fs : List Fl) : List Fl := f :: fs.filter fun g => !decide (firstK g.key = firstK f.key)
theorem tputL_new {f : Fl} {fs : List Fl} (h : hasK fs f.key = false) : tputL f fs = f :: fs := by
  unfold tputL
  rw [List.filter_eq_self.2]
  intro g hg
  simpa using hasK_not h g hg
theorem fls_put {f : Fl} {fs : List Fl} (hf : KyOk f.key) (hs : ∀ g ∈ fs, KyOk g.key) : (litK (firstK f.key), flV f) :: (flsL fs).filter (fun x => !x.1.sameKey (litK (firstK f.key))) = flsL (tputL f fs) := by
  unfold tputL flsL
  rw [List.map_cons, List.filter_map]
  have e : fs.filter ((fun x : Lit × Value => !x.1.sameKey (litK (firstK f.key))) ∘ fun f => (litK (firstK f.key), flV f)) = fs.filter (fun g => !decide (firstK g.key = firstK f.key)) := List.filter_congr (fun g hg => by
    simp only [Function.comp]
    rw [same_lit (hs g hg).first hf.first])
  rw [e]
theorem fls_len (fs : List Fl) : (flsL fs).length = fs.length := by unfold flsL; rw [List.length_map]
theorem bel_dr {W W' : World} (h : Below W.drew.heap.size W.drew W') : Below W.heap.size W W' := ⟨h.os, h.tape, h.output, h.size, h.block⟩
theorem fl5 {W : World} {b : Nat} {f : Fl} (h : FlAt W b f) : W.cell? ⟨b, 0, none⟩ = some (.int .i64 f.key.kind) ∧ W.cell? ⟨b, 1, none⟩ = some (.int .i64 f.key.src) ∧ W.cell? ⟨b, 2, none⟩ = some (.int .i64 f.key.frm) ∧ W.cell? ⟨b, 3, none⟩ = some (.int .i64 f.key.dst) ∧ W.cell? ⟨b, 4, none⟩ = some (.int .i64 f.key.too) :=
  ⟨h.cells.1, h.cells.2.1, h.cells.2.2.1, h.cells.2.2.2.1, h.cells.2.2.2.2.1⟩
set_option maxRecDepth 100000 in
set_option maxHeartbeats 16000000 in
theorem put_full (b m : Nat) (t : Tb) (f : Fl) (w : World) (h : TbAt w b m t) (hf : KyOk f.key) (hh : hasK t.fs f.key = false) (hl : t.max ≤ (t.fs.length : Int)) :
    Calls Tryd.prog 38 #[.pointer (some ⟨b, 0, none⟩), flV f] w fun e w' => e = .returned (.iface 59 (.int .i64 4)) ∧ Below w.heap.size w w' := by
  have h1 := h.alloc (.cells #[.int .i64 f.key.kind, .int .i64 f.key.src, .int .i64 f.key.frm, .int .i64 f.key.dst, .int .i64 f.key.too, .int .i64 f.st, .int .i64 f.unt, .int .i64 f.stp, .int .i64 f.h0, .int .i64 f.h1, .int .i64 f.w0, .int .i64 f.w1, .bool f.d0, .bool f.d1, .int .i64 f.num] 30)
  have p1 := FlAt.new w f
  have b1 : Below w.heap.size w (w.alloc (.cells #[.int .i64 f.key.kind, .int .i64 f.key.src, .int .i64 f.key.frm, .int .i64 f.key.dst, .int .i64 f.key.too, .int .i64 f.st, .int .i64 f.unt, .int .i64 f.stp, .int .i64 f.h0, .int .i64 f.h1, .int .i64 f.w0, .int .i64 f.w1, .bool f.d0, .bool f.d1, .int .i64 f.num] 30)) := (Below.refl _ _).alloc (Nat.le_refl _) _
  obtain ⟨W1, hW1⟩ : ∃ W1, w.alloc (.cells #[.int .i64 f.key.kind, .int .i64 f.key.src, .int .i64 f.key.frm, .int .i64 f.key.dst, .int .i64 f.key.too, .int .i64 f.st, .int .i64 f.unt, .int .i64 f.stp, .int .i64 f.h0, .int .i64 f.h1, .int .i64 f.w0, .int .i64 f.w1, .bool f.d0, .bool f.d1, .int .i64 f.num] 30) = W1 := ⟨_, rfl⟩
  rw [hW1] at h1 p1 b1
  obtain ⟨n, hn⟩ : ∃ n, t.fs.length = n := ⟨_, rfl⟩
  have hlen : ∀ (u : Ext W1) (ty : TypeId), (Builtin.len_ #[71] ty #[.map (some m)]).run Tryd.prog u.W = .ok (.int .i64 (n : Int)) u.W := fun u ty => by
    have := (h1.below u.h).map.len Tryd.underlying71 ty
    rw [fls_len, hn] at this
    exact this
  have hcH : ∀ u : Ext W1, Calls Tryd.prog 37 #[.pointer (some ⟨b, 0, none⟩), .agg #[.int .i64 f.key.kind, .int .i64 f.key.src, .int .i64 f.key.frm, .int .i64 f.key.dst, .int .i64 f.key.too]] u.W fun e w' => e = .returned (.bool false) ∧ ∃ u' : Ext W1, w' = u'.W := fun u => (thas_any b m t f.key u.W (h1.below u.h) hf).mono fun e w' ⟨he, hb⟩ => ⟨by rw [he, hh], ⟨w', u.h.trans (hb.mono u.h.size)⟩, rfl⟩
  obtain ⟨c0, c1, c2⟩ := tab_cells h1.tab
  obtain ⟨e0, e1, e2, e3, e4⟩ := fl5 p1
  have c0 := Ext.cell c0
  have c2 := Ext.cell c2
  have e0 := Ext.cell e0
  have e1 := Ext.cell e1
  have e2 := Ext.cell e2
  have e3 := Ext.cell e3
  have e4 := Ext.cell e4
  rw [hn] at hl
  have hl' : (n : Int) ≥ t.max := hl
  have HB := hidE b1
  unfold flV at *
  clear h h1 p1 b1 hh hn hf c1 hl
  go_enter Tryd.func38, Tryd.ntmps38
  go_upto_region 1 with fail
  try rw [hW1]
  clear hW1
  refine wp_region_ext (by kernel_rfl) (by kernel_rfl) ?_
  repeat (go_big_quiet_step ((go_at_call 37; exact hcH _)))
  refine wpQuiet_nil ?_
  rintro _ ⟨u, rfl⟩
  have HF := hidE (HB.out.trans (u.h.mono HB.out.size))
  obtain ⟨W2, hW2⟩ : ∃ X9, u.W = X9 := ⟨_, rfl⟩
  rw [hW2] at HF ⊢
  clear hW2 hcH hlen c0 c2 e0 e1 e2 e3 e4
  go_wp2_with fail
  go_ret
  exact ⟨rfl, HF.out⟩
set_option maxRecDepth 100000 in
set_option maxHeartbeats 16000000 in
theorem put_ok (b m : Nat) (t : Tb) (f : Fl) (w : World) (h : TbAt w b m t) (hf : KyOk f.key) (hl : hasK t.fs f.key = true ∨ ¬ t.max ≤ (t.fs.length : Int)) (hx : t.fs.length ≤ 1000) :
    Calls Tryd.prog 38 #[.pointer (some ⟨b, 0, none⟩), flV f] w fun e w' => e = .returned .nilIface ∧ TbAt w' b m { t with fs := tputL f t.fs } ∧ w.grownBy w' (some m) := by
  have h1 := h.alloc (.cells #[.int .i64 f.key.kind, .int .i64 f.key.src, .int .i64 f.key.frm, .int .i64 f.key.dst, .int .i64 f.key.too, .int .i64 f.st, .int .i64 f.unt, .int .i64 f.stp, .int .i64 f.h0, .int .i64 f.h1, .int .i64 f.w0, .int .i64 f.w1, .bool f.d0, .bool f.d1, .int .i64 f.num] 30)
  have p1 := FlAt.new w f
  have b1 : Below w.heap.size w (w.alloc (.cells #[.int .i64 f.key.kind, .int .i64 f.key.src, .int .i64 f.key.frm, .int .i64 f.key.dst, .int .i64 f.key.too, .int .i64 f.st, .int .i64 f.unt, .int .i64 f.stp, .int .i64 f.h0, .int .i64 f.h1, .int .i64 f.w0, .int .i64 f.w1, .bool f.d0, .bool f.d1, .int .i64 f.num] 30)) := (Below.refl _ _).alloc (Nat.le_refl _) _
  obtain ⟨W1, hW1⟩ : ∃ W1, w.alloc (.cells #[.int .i64 f.key.kind, .int .i64 f.key.src, .int .i64 f.key.frm, .int .i64 f.key.dst, .int .i64 f.key.too, .int .i64 f.st, .int .i64 f.unt, .int .i64 f.stp, .int .i64 f.h0, .int .i64 f.h1, .int .i64 f.w0, .int .i64 f.w1, .bool f.d0, .bool f.d1, .int .i64 f.num] 30) = W1 := ⟨_, rfl⟩
  rw [hW1] at h1 p1 b1
  obtain ⟨n, hn⟩ : ∃ n, t.fs.length = n := ⟨_, rfl⟩
  have hlen : ∀ (u : Ext W1) (ty : TypeId), (Builtin.len_ #[71] ty #[.map (some m)]).run Tryd.prog u.W = .ok (.int .i64 (n : Int)) u.W := fun u ty => by
    have := (h1.below u.h).map.len Tryd.underlying71 ty
    rw [fls_len, hn] at this
    exact this
  obtain ⟨hb, hhb⟩ : ∃ hb, hasK t.fs f.key = hb := ⟨_, rfl⟩
  have hcH : ∀ u : Ext W1, Calls Tryd.prog 37 #[.pointer (some ⟨b, 0, none⟩), .agg #[.int .i64 f.key.kind, .int .i64 f.key.src, .int .i64 f.key.frm, .int .i64 f.key.dst, .int .i64 f.key.too]] u.W fun e w' => e = .returned (.bool hb) ∧ ∃ u' : Ext W1, w' = u'.W := fun u => (thas_any b m t f.key u.W (h1.below u.h) hf).mono fun e w' ⟨he, hb⟩ => ⟨by rw [he, hhb], ⟨w', u.h.trans (hb.mono u.h.size)⟩, rfl⟩
  have hfin : Hid (∀ W, Below W1.heap.size W1 W → ∃ W', (Instr.mapUpdate 71 (.map (some m)) (keyV (firstK f.key)) (flV f)).run Tryd.prog W = .ok () W' ∧ TbAt W' b m { t with fs := tputL f t.fs } ∧ w.grownBy W' (some m) ∧ FlAt W' w.heap.size f) := fun W hW => by
    have h2 := h1.below hW
    have p2 := p1.below p1.lt hW
    obtain ⟨W', hr, hm, hg⟩ := h2.map.store lawK Tryd.underlying71 (by rw [fls_len, hn]; unfold maxLen; omega) (keyK hf.first) (flV f)
    rw [fls_put hf h.oks] at hm
    have hbm : b ≠ m := h.ne
    refine ⟨W', hr, ⟨(hg.block b h2.lt (by simpa using hbm)).trans h2.tab, hm, fun g hg' => ?_⟩, ⟨?_, ?_, ?_, ?_, fun i hi hne => ?_⟩, ?_⟩
    · rcases List.mem_cons.1 hg' with rfl | hg'
      · exact hf
      · exact h.oks g (List.mem_filter.1 hg').1
    · exact hg.os.trans (hW.os.trans b1.os)
    · exact hg.tape.trans (hW.tape.trans b1.tape)
    · exact hg.output.trans (hW.output.trans b1.output)
    · exact Nat.le_trans b1.size (Nat.le_trans hW.size hg.size)
    · rw [hg.block i (by have := b1.size; have := hW.size; omega) hne, hW.block i (by have := b1.size; omega), b1.block i hi]
    · unfold FlAt
      rw [hg.block _ p2.lt (by have := h.map.lt; simp; omega)]; exact p2
  have cF := hidE (fun W => first_any f.key W)
  obtain ⟨fk, hfk⟩ : ∃ fk, firstK f.key = fk := ⟨_, rfl⟩
  rw [hfk] at cF hfin
  obtain ⟨c0, c1, c2⟩ := tab_cells h1.tab
  obtain ⟨e0, e1, e2, e3, e4⟩ := fl5 p1
  have HT := hidE h1
  have HP := hidE p1
  have c0 := Ext.cell c0
  have c2 := Ext.cell c2
  have e0 := Ext.cell e0
  have e1 := Ext.cell e1
  have e2 := Ext.cell e2
  have e3 := Ext.cell e3
  have e4 := Ext.cell e4
  obtain ⟨Q, hQ⟩ : ∃ Q : Ending → World → Prop, Q = fun e w' => e = .returned .nilIface ∧ TbAt w' b m { t with fs := tputL f t.fs } ∧ w.grownBy w' (some m) := ⟨_, rfl⟩
  have HQ : Hid (∀ w', TbAt w' b m { t with fs := tputL f t.fs } ∧ w.grownBy w' (some m) → Q (.returned .nilIface) w') := by rw [hQ]; exact fun _ h => ⟨rfl, h⟩
  rw [← hQ]
  rw [hn, hhb] at hl
  unfold flV keyV at *
  clear h h1 p1 b1 hn hf c1 hhb hfk hx hQ
  go_enter Tryd.func38, Tryd.ntmps38
  go_upto_region 1 with fail
  try rw [hW1]
  clear hW1
  go_cut [21] (fun v wr => v = .bool false ∧ Hid (Below W1.heap.size W1 wr))
  case first =>
    cases hb
    · have hl' : ¬ (n : Int) ≥ t.max := by (rcases hl with h | h; (cases h); omega)
      clear hl
      refine wp_region_ext (by kernel_rfl) (by kernel_rfl) ?_
      repeat (go_big_quiet_step ((go_at_call 37; exact hcH _)))
      refine wpQuiet_nil ?_
      rintro _ ⟨u, rfl⟩
      have HF := hidE u.h
      obtain ⟨W2, hW2⟩ : ∃ X9, u.W = X9 := ⟨_, rfl⟩
      rw [hW2] at HF ⊢
      clear hW2 hcH hlen c0 c2 e0 e1 e2 e3 e4
      go_wp2_with fail
      go_meet
      case rel => exact ⟨rfl, HF⟩
    · clear hl
      refine wp_region_ext (by kernel_rfl) (by kernel_rfl) ?_
      repeat (go_big_quiet_step ((go_at_call 37; exact hcH _)))
      refine wpQuiet_nil ?_
      rintro _ ⟨u, rfl⟩
      have HF := hidE u.h
      obtain ⟨W2, hW2⟩ : ∃ X9, u.W = X9 := ⟨_, rfl⟩
      rw [hW2] at HF ⊢
      clear hW2 hcH hlen c0 c2 e0 e1 e2 e3 e4
      go_wp2_with fail
      go_meet
      case rel => exact ⟨rfl, HF⟩
  case rest =>
  obtain ⟨rfl, HF⟩ := hcut
  clear hcH hlen c0 c2 e0 e1 e2 e3 e4 hl
  obtain ⟨W2, hW2⟩ : ∃ X9, wc = X9 := ⟨_, rfl⟩
  rw [hW2] at HF ⊢
  clear hW2
  have t2 := (tab_cells (HT.out.below HF.out).tab).2.2
  obtain ⟨e0, e1, e2, e3, e4, e5, e6, e7, e8, e9, e10, e11, e12, e13, e14⟩ := (HP.out.below HP.out.lt HF.out).cells
  have hc0 := cF.out W2.drew
  go_upto_region 3 with fail
  have hS : W2.cell? ⟨b, 2, none⟩ = some (.map (some m)) ∧ W2.cell? ⟨w.heap.size, 0, none⟩ = some (.int .i64 f.key.kind) ∧ W2.cell? ⟨w.heap.size, 1, none⟩ = some (.int .i64 f.key.src) ∧ W2.cell? ⟨w.heap.size, 2, none⟩ = some (.int .i64 f.key.frm) ∧ W2.cell? ⟨w.heap.size, 3, none⟩ = some (.int .i64 f.key.dst) ∧ W2.cell? ⟨w.heap.size, 4, none⟩ = some (.int .i64 f.key.too) ∧ W2.cell? ⟨w.heap.size, 5, none⟩ = some (.int .i64 f.st) ∧ W2.cell? ⟨w.heap.size, 6, none⟩ = some (.int .i64 f.unt) ∧ W2.cell? ⟨w.heap.size, 7, none⟩ = some (.int .i64 f.stp) ∧ W2.cell? ⟨w.heap.size, 8, none⟩ = some (.int .i64 f.h0) ∧ W2.cell? ⟨w.heap.size, 9, none⟩ = some (.int .i64 f.h1) ∧ W2.cell? ⟨w.heap.size, 10, none⟩ = some (.int .i64 f.w0) ∧ W2.cell? ⟨w.heap.size, 11, none⟩ = some (.int .i64 f.w1) ∧ W2.cell? ⟨w.heap.size, 12, none⟩ = some (.bool f.d0) ∧ W2.cell? ⟨w.heap.size, 13, none⟩ = some (.bool f.d1) ∧ W2.cell? ⟨w.heap.size, 14, none⟩ = some (.int .i64 f.num) := ⟨t2, e0, e1, e2, e3, e4, e5, e6, e7, e8, e9, e10, e11, e12, e13, e14⟩
  go_region_held3 (fun X => X.cell? ⟨b, 2, none⟩ = some (.map (some m)) ∧ X.cell? ⟨w.heap.size, 0, none⟩ = some (.int .i64 f.key.kind) ∧ X.cell? ⟨w.heap.size, 1, none⟩ = some (.int .i64 f.key.src) ∧ X.cell? ⟨w.heap.size, 2, none⟩ = some (.int .i64 f.key.frm) ∧ X.cell? ⟨w.heap.size, 3, none⟩ = some (.int .i64 f.key.dst) ∧ X.cell? ⟨w.heap.size, 4, none⟩ = some (.int .i64 f.key.too) ∧ X.cell? ⟨w.heap.size, 5, none⟩ = some (.int .i64 f.st) ∧ X.cell? ⟨w.heap.size, 6, none⟩ = some (.int .i64 f.unt) ∧ X.cell? ⟨w.heap.size, 7, none⟩ = some (.int .i64 f.stp) ∧ X.cell? ⟨w.heap.size, 8, none⟩ = some (.int .i64 f.h0) ∧ X.cell? ⟨w.heap.size, 9, none⟩ = some (.int .i64 f.h1) ∧ X.cell? ⟨w.heap.size, 10, none⟩ = some (.int .i64 f.w0) ∧ X.cell? ⟨w.heap.size, 11, none⟩ = some (.int .i64 f.w1) ∧ X.cell? ⟨w.heap.size, 12, none⟩ = some (.bool f.d0) ∧ X.cell? ⟨w.heap.size, 13, none⟩ = some (.bool f.d1) ∧ X.cell? ⟨w.heap.size, 14, none⟩ = some (.int .i64 f.num)) (with_reducible first | assumption | go_keep) (first
    | (go_at_call 51; with_reducible refine hc0.mono ?_; rintro e W3 ⟨rfl, b3⟩; have hB3 := HF.out.trans ((bel_dr b3).mono HF.out.size); obtain ⟨W4, hr4, ht4, hg4, hp4⟩ := hfin.out W3 hB3; have hS3 : W3.cell? ⟨b, 2, none⟩ = some (.map (some m)) ∧ W3.cell? ⟨w.heap.size, 0, none⟩ = some (.int .i64 f.key.kind) ∧ W3.cell? ⟨w.heap.size, 1, none⟩ = some (.int .i64 f.key.src) ∧ W3.cell? ⟨w.heap.size, 2, none⟩ = some (.int .i64 f.key.frm) ∧ W3.cell? ⟨w.heap.size, 3, none⟩ = some (.int .i64 f.key.dst) ∧ W3.cell? ⟨w.heap.size, 4, none⟩ = some (.int .i64 f.key.too) ∧ W3.cell? ⟨w.heap.size, 5, none⟩ = some (.int .i64 f.st) ∧ W3.cell? ⟨w.heap.size, 6, none⟩ = some (.int .i64 f.unt) ∧ W3.cell? ⟨w.heap.size, 7, none⟩ = some (.int .i64 f.stp) ∧ W3.cell? ⟨w.heap.size, 8, none⟩ = some (.int .i64 f.h0) ∧ W3.cell? ⟨w.heap.size, 9, none⟩ = some (.int .i64 f.h1) ∧ W3.cell? ⟨w.heap.size, 10, none⟩ = some (.int .i64 f.w0) ∧ W3.cell? ⟨w.heap.size, 11, none⟩ = some (.int .i64 f.w1) ∧ W3.cell? ⟨w.heap.size, 12, none⟩ = some (.bool f.d0) ∧ W3.cell? ⟨w.heap.size, 13, none⟩ = some (.bool f.d1) ∧ W3.cell? ⟨w.heap.size, 14, none⟩ = some (.int .i64 f.num) := ⟨(tab_cells (HT.out.below hB3).tab).2.2, (HP.out.below HP.out.lt hB3).cells⟩; have hS4 : W4.cell? ⟨b, 2, none⟩ = some (.map (some m)) ∧ W4.cell? ⟨w.heap.size, 0, none⟩ = some (.int .i64 f.key.kind) ∧ W4.cell? ⟨w.heap.size, 1, none⟩ = some (.int .i64 f.key.src) ∧ W4.cell? ⟨w.heap.size, 2, none⟩ = some (.int .i64 f.key.frm) ∧ W4.cell? ⟨w.heap.size, 3, none⟩ = some (.int .i64 f.key.dst) ∧ W4.cell? ⟨w.heap.size, 4, none⟩ = some (.int .i64 f.key.too) ∧ W4.cell? ⟨w.heap.size, 5, none⟩ = some (.int .i64 f.st) ∧ W4.cell? ⟨w.heap.size, 6, none⟩ = some (.int .i64 f.unt) ∧ W4.cell? ⟨w.heap.size, 7, none⟩ = some (.int .i64 f.stp) ∧ W4.cell? ⟨w.heap.size, 8, none⟩ = some (.int .i64 f.h0) ∧ W4.cell? ⟨w.heap.size, 9, none⟩ = some (.int .i64 f.h1) ∧ W4.cell? ⟨w.heap.size, 10, none⟩ = some (.int .i64 f.w0) ∧ W4.cell? ⟨w.heap.size, 11, none⟩ = some (.int .i64 f.w1) ∧ W4.cell? ⟨w.heap.size, 12, none⟩ = some (.bool f.d0) ∧ W4.cell? ⟨w.heap.size, 13, none⟩ = some (.bool f.d1) ∧ W4.cell? ⟨w.heap.size, 14, none⟩ = some (.int .i64 f.num) := ⟨(tab_cells ht4.tab).2.2, hp4.cells⟩; have HK := hidE (HQ.out _ (And.intro ht4 hg4)); clear hB3 ht4 hg4 hp4))
  clear hS hS3 hS4 hc0 hr4 t2 e0 e1 e2 e3 e4 e5 e6 e7 e8 e9 e10 e11 e12 e13 e14
  go_wp2_with fail
  exact HK.out
end Go.Proofs.YtdhjfjnjdkmhjaaDoor
