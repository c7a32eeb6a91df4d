/- What whole of package frag returns of a group whose pieces leave no gap: the packet that they make. -/
import Derived.Test.YtgodjaffmojhlaaDoorPoolTch
namespace Go.Proofs.YtgodjaffmojhlaaDoor
open Go.RowKit Go.Maps
set_option linter.unusedVariables false

theorem look_piece {w : World} {g : Gb} (h : GrpAt w g) (hb : g.h.bad = false) {i : Nat} (hi : i < g.h.all.length) {key : Int} (hk : key = (g.h.all[i]).pos) (hw : (Lit.int .i64 key).wf = true) :
    (Instr.lookup 63 (.map (some g.m)) (.int .i64 key) false).run Tryd.prog w = .ok (g.vs[i]'(by have := h.len hb; omega)) w ∧ OwnB w 0 (g.vs[i]'(by have := h.len hb; omega)) (g.h.all[i]).body := by
  have hm : ((g.h.all)[i], g.vs[i]'(by have := h.len hb; omega)) ∈ g.h.all.zip g.vs := by
    rw [← List.getElem_zip (h := by have := h.len hb; simp; omega)]; exact List.getElem_mem _
  refine ⟨(h.map hb).look lawI Tryd.underlying63 (z := .slice none 0 0) (by kernel_rfl) (keyOf_int_mk Tryd.underlying3 hw) ?_, h.body hb _ hm⟩
  exact List.mem_map.2 ⟨_, hm, by rw [hk]⟩
theorem madeB (n : Nat) : madeCells (Value.int .u8 0).cells n = ((List.replicate n (0 : Int)).map (Value.int .u8)).toArray := by
  apply Array.ext
  · simp [madeCells]
  · intro i h1 h2
    simp [madeCells, Value.cells, Nat.mod_one]
/-- An empty slice of bytes that is made, with room. -/
theorem make_room (w : World) (n : Nat) (h : n ≤ 100000) :
    ∃ w', (Instr.makeSlice 38 (.int .i64 0) (.int .i64 (n : Int))).run Tryd.prog w = .ok (.slice (some ⟨w.heap.size, 0, none⟩) 0 n) w' ∧ OwnB w' w.heap.size (.slice (some ⟨w.heap.size, 0, none⟩) 0 n) [] ∧ Below w.heap.size w w' ∧ w'.heap.size = w.heap.size + 1 := by
  obtain ⟨i0, hi, hz0, hz1, hz2⟩ := info_parts Tryd.infoU8
  have hr := run_make (P := Tryd.prog) w 38 5 i0 (.int .u8 0) Tryd.underlying38 hi hz0 .i64 .i64 0 (n : Int) (by omega) (by omega) (by rw [hz2]; omega) (by omega)
  rw [Int.toNat_natCast, hz1, Nat.mul_one, madeB] at hr
  have hR := RowB.new w (List.replicate n 0) (fun x hx => by rw [List.eq_of_mem_replicate hx]; omega)
  refine ⟨_, hr, ⟨⟨by simp, .inr ⟨w.heap.size, n, ((List.replicate n (0 : Int)).map (Value.int .u8)).toArray, rfl, Nat.le_refl _, hR.1, Nat.zero_le _, by unfold maxLen; omega, by simp, by simp⟩⟩, fun x hx => (by cases hx)⟩, (Below.refl _ _).alloc (Nat.le_refl _) _, by simp⟩
theorem GrpAt.below {w w' : World} {g : Gb} (h : GrpAt w g) (hl : g.b < w.heap.size ∧ (g.h.bad = false → g.m < w.heap.size ∧ ∀ v ∈ g.vs, ∀ k, v.ownBlock = some k → k < w.heap.size)) (hb : Below w.heap.size w w') : GrpAt w' g :=
  h.keep (hb.block _ hl.1) (fun hx => ⟨hb.block _ (hl.2 hx).1, fun v hv k hk => hb.block _ ((hl.2 hx).2 v hv k hk)⟩)
def nmCells (n : Nm) : Obj := .cells #[.int .i64 n.kind, .int .i64 n.src, .int .i64 n.dst, .int .i64 n.ident] 61
def pkZero : Obj := .cells #[.int .i64 0, .int .i64 0, .int .i64 0, .int .i64 0, .int .i64 0, .int .i64 0, .bool false, .slice none 0 0] 40
/-- What stays while whole's last statement is carried out. -/
theorem whs_drew {W0 W : World} {nb gb pb : Nat} {n : Nm} {t : Int} (h : (W.cell? ⟨nb, 0, none⟩ = some (.int .i64 n.kind) ∧ W.cell? ⟨nb, 1, none⟩ = some (.int .i64 n.src) ∧ W.cell? ⟨nb, 2, none⟩ = some (.int .i64 n.dst) ∧ W.cell? ⟨nb, 3, none⟩ = some (.int .i64 n.ident) ∧ W.cell? ⟨gb, 3, none⟩ = some (.int .i64 t)) ∧ Only (pb) W0 W) : (W.drew.cell? ⟨nb, 0, none⟩ = some (.int .i64 n.kind) ∧ W.drew.cell? ⟨nb, 1, none⟩ = some (.int .i64 n.src) ∧ W.drew.cell? ⟨nb, 2, none⟩ = some (.int .i64 n.dst) ∧ W.drew.cell? ⟨nb, 3, none⟩ = some (.int .i64 n.ident) ∧ W.drew.cell? ⟨gb, 3, none⟩ = some (.int .i64 t)) ∧ Only (pb) W0 W.drew := ⟨h.1, h.2.drewN 1⟩
theorem whs_stored {W0 W : World} {nb gb pb : Nat} {n : Nm} {t : Int} (h : (W.cell? ⟨nb, 0, none⟩ = some (.int .i64 n.kind) ∧ W.cell? ⟨nb, 1, none⟩ = some (.int .i64 n.src) ∧ W.cell? ⟨nb, 2, none⟩ = some (.int .i64 n.dst) ∧ W.cell? ⟨nb, 3, none⟩ = some (.int .i64 n.ident) ∧ W.cell? ⟨gb, 3, none⟩ = some (.int .i64 t)) ∧ Only (pb) W0 W) (h1 : nb ≠ pb) (h2 : gb ≠ pb) (v0 v1 v2 v3 v4 v5 v6 v7 : Value) : (((((((((W.setCell ⟨pb, 0, none⟩ v0).setCell ⟨pb, 1, none⟩ v1).setCell ⟨pb, 2, none⟩ v2).setCell ⟨pb, 3, none⟩ v3).setCell ⟨pb, 4, none⟩ v4).setCell ⟨pb, 5, none⟩ v5).setCell ⟨pb, 6, none⟩ v6).setCell ⟨pb, 7, none⟩ v7).cell? ⟨nb, 0, none⟩ = some (.int .i64 n.kind) ∧ ((((((((W.setCell ⟨pb, 0, none⟩ v0).setCell ⟨pb, 1, none⟩ v1).setCell ⟨pb, 2, none⟩ v2).setCell ⟨pb, 3, none⟩ v3).setCell ⟨pb, 4, none⟩ v4).setCell ⟨pb, 5, none⟩ v5).setCell ⟨pb, 6, none⟩ v6).setCell ⟨pb, 7, none⟩ v7).cell? ⟨nb, 1, none⟩ = some (.int .i64 n.src) ∧ ((((((((W.setCell ⟨pb, 0, none⟩ v0).setCell ⟨pb, 1, none⟩ v1).setCell ⟨pb, 2, none⟩ v2).setCell ⟨pb, 3, none⟩ v3).setCell ⟨pb, 4, none⟩ v4).setCell ⟨pb, 5, none⟩ v5).setCell ⟨pb, 6, none⟩ v6).setCell ⟨pb, 7, none⟩ v7).cell? ⟨nb, 2, none⟩ = some (.int .i64 n.dst) ∧ ((((((((W.setCell ⟨pb, 0, none⟩ v0).setCell ⟨pb, 1, none⟩ v1).setCell ⟨pb, 2, none⟩ v2).setCell ⟨pb, 3, none⟩ v3).setCell ⟨pb, 4, none⟩ v4).setCell ⟨pb, 5, none⟩ v5).setCell ⟨pb, 6, none⟩ v6).setCell ⟨pb, 7, none⟩ v7).cell? ⟨nb, 3, none⟩ = some (.int .i64 n.ident) ∧ ((((((((W.setCell ⟨pb, 0, none⟩ v0).setCell ⟨pb, 1, none⟩ v1).setCell ⟨pb, 2, none⟩ v2).setCell ⟨pb, 3, none⟩ v3).setCell ⟨pb, 4, none⟩ v4).setCell ⟨pb, 5, none⟩ v5).setCell ⟨pb, 6, none⟩ v6).setCell ⟨pb, 7, none⟩ v7).cell? ⟨gb, 3, none⟩ = some (.int .i64 t)) ∧ Only (pb) W0 ((((((((W.setCell ⟨pb, 0, none⟩ v0).setCell ⟨pb, 1, none⟩ v1).setCell ⟨pb, 2, none⟩ v2).setCell ⟨pb, 3, none⟩ v3).setCell ⟨pb, 4, none⟩ v4).setCell ⟨pb, 5, none⟩ v5).setCell ⟨pb, 6, none⟩ v6).setCell ⟨pb, 7, none⟩ v7) := by
  have o : Only pb W ((((((((W.setCell ⟨pb, 0, none⟩ v0).setCell ⟨pb, 1, none⟩ v1).setCell ⟨pb, 2, none⟩ v2).setCell ⟨pb, 3, none⟩ v3).setCell ⟨pb, 4, none⟩ v4).setCell ⟨pb, 5, none⟩ v5).setCell ⟨pb, 6, none⟩ v6).setCell ⟨pb, 7, none⟩ v7) := ((((((((Only.refl pb W).setCell 0 v0).setCell 1 v1).setCell 2 v2).setCell 3 v3).setCell 4 v4).setCell 5 v5).setCell 6 v6).setCell 7 v7
  obtain ⟨⟨a, b, c, d, e⟩, ho⟩ := h
  exact ⟨⟨(o.cell (p := ⟨nb, 0, none⟩) h1).trans a, (o.cell (p := ⟨nb, 1, none⟩) h1).trans b, (o.cell (p := ⟨nb, 2, none⟩) h1).trans c, (o.cell (p := ⟨nb, 3, none⟩) h1).trans d, (o.cell (p := ⟨gb, 3, none⟩) h2).trans e⟩, ho.trans o⟩
set_option maxRecDepth 100000 in
set_option maxHeartbeats 8000000 in
theorem whole_any (g : Gb) (n : Nm) (w : World) (h : GrpAt w g) (hb : g.h.bad = false) (hg : GoodP g.h.all) (hne : g.h.all ≠ []) (hd : heldN g.h.all = finN g.h.all) (hl : g.b < w.heap.size ∧ (g.h.bad = false → g.m < w.heap.size ∧ ∀ v ∈ g.vs, ∀ k, v.ownBlock = some k → k < w.heap.size)) :
    Calls Tryd.prog 25 #[ptrV g.b, nmV n] w fun e w' => ∃ bv, e = .returned (pkV { kind := n.kind, ttl := ttlM g.h.all, ident := n.ident, src := n.src, dst := n.dst, pos := 0, more := false, body := wholeN g.h.all (finN g.h.all) } bv) ∧ OwnB w' w.heap.size bv (wholeN g.h.all (finN g.h.all)) ∧ Below w.heap.size w w' := by
  have b1 : Below w.heap.size w (w.alloc (nmCells n)) := (Below.refl _ _).alloc (Nat.le_refl _) _
  have b2 : Below w.heap.size w ((w.alloc (nmCells n)).alloc pkZero) := b1.alloc (by simp) _
  have hN : ((w.alloc (nmCells n)).alloc pkZero).heap[w.heap.size]? = some (.cells #[.int .i64 n.kind, .int .i64 n.src, .int .i64 n.dst, .int .i64 n.ident] 61 (0, 0)) := by
    have h1 := Below.heap_alloc (w.alloc (nmCells n)) pkZero w.heap.size (by simp)
    rw [h1]; exact heap_alloc_new w (nmCells n)
  have hZ : PkAt ((w.alloc (nmCells n)).alloc pkZero) (w.heap.size + 1) zeroK (.slice none 0 0) := by
    have h1 := PkAt.zero (w.alloc (nmCells n))
    simpa [pkZero] using h1
  have hG := h.below hl b2
  have hs2 : ((w.alloc (nmCells n)).alloc pkZero).heap.size = w.heap.size + 2 := by simp
  obtain ⟨_, _, hfin⟩ := bounds_kept hg
  have HNE : Hid (g.h.all ≠ []) := hne
  have HD : Hid (heldN g.h.all = finN g.h.all) := hd
  have HG : Hid (GoodP g.h.all) := hg
  have HB : Hid (g.h.bad = false) := hb
  unfold nmCells pkZero at *
  unfold ptrV nmV
  go_enter Tryd.func25, Tryd.ntmps25
  go_upto_region 1 with fail
  obtain ⟨W2, hW2⟩ : ∃ W2, (w.alloc (.cells #[.int .i64 n.kind, .int .i64 n.src, .int .i64 n.dst, .int .i64 n.ident] 61)).alloc (.cells #[.int .i64 0, .int .i64 0, .int .i64 0, .int .i64 0, .int .i64 0, .int .i64 0, .bool false, .slice none 0 0] 40) = W2 := ⟨_, rfl⟩
  rw [hW2] at b2 hN hZ hG hs2 ⊢
  obtain ⟨w3, hmk, own3, bw3, hs3⟩ := make_room W2 (finN g.h.all) (by omega)
  have q6 := (grp_cells hG hb).2.2.2.2.2
  obtain ⟨fin, hf⟩ : ∃ fin, finN g.h.all = fin := ⟨_, rfl⟩
  have HF : Hid (finN g.h.all = fin) := hf
  rw [hf] at hmk own3 q6 hfin
  have HL : Hid (∀ W, Below W2.heap.size W2 W → GrpAt W g) := fun W hW => hG.below ⟨Nat.lt_of_lt_of_le hl.1 b2.size, fun hx => ⟨Nat.lt_of_lt_of_le (hl.2 hx).1 b2.size, fun v hv k hk => Nat.lt_of_lt_of_le ((hl.2 hx).2 v hv k hk) b2.size⟩⟩ hW
  have HNN : Hid (W2.heap[w.heap.size]? = some (.cells #[.int .i64 n.kind, .int .i64 n.src, .int .i64 n.dst, .int .i64 n.ident] 61 (0, 0))) := hN
  have HZZ : Hid (PkAt W2 (w.heap.size + 1) zeroK (.slice none 0 0)) := hZ
  have HB2 : Hid (Below w.heap.size w W2) := b2
  have HS2 : Hid (W2.heap.size = w.heap.size + 2) := hs2
  have HLB : Hid (g.b < w.heap.size) := hl.1
  clear hW2 b1 b2 hN hZ hG hs2 h hl hne hd hg hb hf
  go_upto_region 2 with fail
  go_loopw [5] (fun v wr => ∃ k : Nat, k ≤ fin ∧ (k = fin ∨ EdgeP g.h.all k) ∧ OwnB wr W2.heap.size v (wholeN g.h.all k) ∧ Below W2.heap.size W2 wr) (fun v _ => match v with | .slice _ m _ => fin - m | _ => 0)
  case atStart => exact ⟨0, Nat.zero_le _, .inr (.inl rfl), by simpa [wholeN] using own3, bw3⟩
  case round =>
    obtain ⟨k, hk, hedge, hown, hbel⟩ := hrel
    have hGr := HL.out wr hbel
    obtain ⟨_, q2, q3, _, _, q6⟩ := grp_cells hGr HB.out
    rw [HF.out] at q6
    obtain ⟨av, cv, hv⟩ := len_body' (hown.bytes (by rw [wholeN_len]; omega)) (wholeN_len _ _)
    subst hv
    by_cases hkf : k < fin
    · have i1 : (k : Int) < (fin : Int) := by omega
      have he : EdgeP g.h.all k := hedge.resolve_left (by omega)
      obtain ⟨x, hx, x1, x2, x3⟩ := whole_next HG.out HNE.out HD.out he (by rw [HF.out]; exact hkf)
      obtain ⟨i, hi, hxi⟩ := List.getElem_of_mem hx
      have hx0 := (HG.out.one x hx).1
      have hx4 := (HG.out.one x hx).2.2.2
      have hx5 := (HG.out.one x hx).2.1
      have hlo := loP_int hx0
      have hhi : hiP x = loP x + x.body.length := rfl
      obtain ⟨P, hP⟩ : ∃ P, x.pos = P := ⟨_, rfl⟩
      have e8 : (k : Int).tdiv 8 = P := by rw [Int.tdiv_eq_ediv_of_nonneg (by omega)]; omega
      have e8' : (k : Int) / 8 = P := by omega
      obtain ⟨hlk, hbx⟩ := look_piece hGr HB.out hi (key := P) (by rw [hxi]; exact hP.symm) (wf_small (by omega) (by omega))
      rw [hxi] at hbx
      obtain ⟨vx, hvx⟩ : ∃ vx, vx = g.vs[i]'(by have := hGr.len HB.out; omega) := ⟨_, rfl⟩
      rw [← hvx] at hlk hbx
      have hbb := hbx.bytes (by omega)
      obtain ⟨ax, cx, hvv⟩ := len_body hbb
      subst hvv
      obtain ⟨m, hm⟩ : ∃ m, x.body.length = m := ⟨_, rfl⟩
      rw [hm] at hlk hbb hhi hx5
      have HM : Hid (x.body.length = m) := hm
      have HX1 : Hid (loP x = k) := x1
      have HHI : Hid (hiP x = k + m) := by show hiP x = k + m; omega
      have hkm : k + m ≤ fin := by have := HF.out; omega
      have HX : Hid (x ∈ g.h.all) := hx
      have HX3 : Hid (x.more = false → hiP x = finN g.h.all) := x3
      have hsz : W2.heap.size ≤ wr.heap.size := hbel.size
      clear hedge he x1 x2 x3 hxi hx hlo hhi hP hx0 hx4 hvx hm hbx hi
      go_wp2_with (at_builtin; refine wpList_append_bytes rfl (.tmp 18) (.tmp 26) rfl W2.heap.size (.slice av k cv) (wholeN g.h.all k) rfl hown (.slice ax m cx) x.body rfl hbb (by rw [wholeN_len, HM.out]; omega) hsz ?_; intro v4 w4 own4 grow4)
      have bel4 := hbel.grown grow4 hsz (fun y hy => (hown.1.lt y hy).1)
      have hown4 : OwnB w4 W2.heap.size v4 (wholeN g.h.all (k + m)) := by
        have e := wholeN_step HG.out HX.out
        rw [HX1.out, HHI.out] at e
        rw [← e]; exact own4
      obtain ⟨a4, c4, hv4⟩ := len_body' (hown4.bytes (by rw [wholeN_len]; omega)) (wholeN_len _ _)
      subst hv4
      go_roundw
      case rel =>
        refine ⟨k + m, hkm, ?_, hown4, bel4⟩
        rcases hmm : x.more with _ | _
        · left; have := HX3.out hmm; have := HHI.out; have := HF.out; omega
        · right; rw [← HHI.out]; exact EdgeP.step HX.out hmm
      case measure => simp only; omega
    · have hkF : k = fin := by omega
      subst hkF
      have i1 : ¬ (k : Int) < (k : Int) := by omega
      have hNr : wr.heap[w.heap.size]? = some (.cells #[.int .i64 n.kind, .int .i64 n.src, .int .i64 n.dst, .int .i64 n.ident] 61 (0, 0)) := (hbel.block _ (by have := HS2.out; omega)).trans HNN.out
      have hZr := HZZ.out.below (by have := HS2.out; omega) hbel
      have n0 : wr.cell? ⟨w.heap.size, 0, none⟩ = some (.int .i64 n.kind) := by rw [cell_of_row wr _ 0 _ _ _ hNr]; rfl
      have n1 : wr.cell? ⟨w.heap.size, 1, none⟩ = some (.int .i64 n.src) := by rw [cell_of_row wr _ 1 _ _ _ hNr]; rfl
      have n2 : wr.cell? ⟨w.heap.size, 2, none⟩ = some (.int .i64 n.dst) := by rw [cell_of_row wr _ 2 _ _ _ hNr]; rfl
      have n3 : wr.cell? ⟨w.heap.size, 3, none⟩ = some (.int .i64 n.ident) := by rw [cell_of_row wr _ 3 _ _ _ hNr]; rfl
      have h1 : w.heap.size ≠ w.heap.size + 1 := by omega
      have h2 : g.b ≠ w.heap.size + 1 := by have := HLB.out; omega
      obtain ⟨z0, z1, z2, z3, z4, z5, z6, z7⟩ := hZr.cells
      have f0 := hZr.free 0
      have f1 := hZr.free 1
      have f2 := hZr.free 2
      have f3 := hZr.free 3
      have f4 := hZr.free 4
      have f5 := hZr.free 5
      have f6 := hZr.free 6
      have f7 := hZr.free 7
      have hS : (wr.cell? ⟨w.heap.size, 0, none⟩ = some (.int .i64 n.kind) ∧ wr.cell? ⟨w.heap.size, 1, none⟩ = some (.int .i64 n.src) ∧ wr.cell? ⟨w.heap.size, 2, none⟩ = some (.int .i64 n.dst) ∧ wr.cell? ⟨w.heap.size, 3, none⟩ = some (.int .i64 n.ident) ∧ wr.cell? ⟨g.b, 3, none⟩ = some (.int .i64 (ttlM g.h.all))) ∧ Only (w.heap.size + 1) wr wr := ⟨⟨n0, n1, n2, n3, q3⟩, Only.refl _ _⟩
      have HBE : Hid (Below W2.heap.size W2 wr) := hbel
      have HOW : Hid (OwnB wr W2.heap.size (.slice av k cv) (wholeN g.h.all k)) := hown
      have HZR : Hid (PkAt wr (w.heap.size + 1) zeroK (.slice none 0 0)) := hZr
      generalize hT : ttlM g.h.all = T at hS q3 ⊢
      have HT : Hid (ttlM g.h.all = T) := hT
      clear hNr hZr hbel hown hGr hedge hT q2 own3 bw3 hmk hs3
      go_upto_region 4 with fail
      go_region_held3 (fun W => (W.cell? ⟨w.heap.size, 0, none⟩ = some (.int .i64 n.kind) ∧ W.cell? ⟨w.heap.size, 1, none⟩ = some (.int .i64 n.src) ∧ W.cell? ⟨w.heap.size, 2, none⟩ = some (.int .i64 n.dst) ∧ W.cell? ⟨w.heap.size, 3, none⟩ = some (.int .i64 n.ident) ∧ W.cell? ⟨g.b, 3, none⟩ = some (.int .i64 T)) ∧ Only (w.heap.size + 1) wr W) (with_reducible first | assumption | exact whs_drew (by assumption) | exact whs_stored (by assumption) h1 h2 _ _ _ _ _ _ _ _ | exact whs_drew (whs_stored hS h1 h2 _ _ _ _ _ _ _ _)) (fail)
      obtain ⟨w5, hw5, hp5, ho5⟩ := HZR.out.store n.kind T n.ident n.src n.dst 0 false (.slice av k cv)
      rw [hw5]
      obtain ⟨r0, r1, r2, r3, r4, r5, r6, r7⟩ := hp5.cells
      simp only at r0 r1 r2 r3 r4 r5 r6 r7
      have hown5 : OwnB w5 W2.heap.size (.slice av k cv) (wholeN g.h.all k) := HOW.out.only (fun e => by have := (HOW.out.1.lt _ e).1; have := HS2.out; omega) ho5
      have bel5 : Below w.heap.size w w5 := ho5.below (by omega) (HB2.out.trans (HBE.out.mono HB2.out.size))
      have HO5 : Hid (OwnB w5.drew w.heap.size (.slice av k cv) (wholeN g.h.all k)) := (hown5.baseLe (by have := HS2.out; omega)).drewN 1
      have HB5 : Hid (Below w.heap.size w w5.drew) := below_drewN bel5 1
      clear hw5 hp5 ho5 hS n0 n1 n2 n3 z0 z1 z2 z3 z4 z5 z6 z7 f0 f1 f2 f3 f4 f5 f6 f7 hown5 bel5
      go_wp2_with fail
      refine bodyPost_ret (v := .agg #[.int .i64 n.kind, .int .i64 T, .int .i64 n.ident, .int .i64 n.src, .int .i64 n.dst, .int .i64 0, .bool false, .slice av k cv]) (by simp [results, Tryd.results25, go_sem, r0, r1, r2, r3, r4, r5, r6, r7]) rfl ⟨.slice av k cv, ?_, ?_, HB5.out⟩
      · unfold pkV; rw [HT.out]
      · rw [HF.out]; exact HO5.out
end Go.Proofs.YtgodjaffmojhlaaDoor
