/- What touches of package frag returns of a group that is not bad: whether a byte from one place on, ahead of another, is there; on every order in which the pieces may come. -/
import Derived.Test.YtgodjaffmojhlaaDoorPoolTick
namespace Go.Proofs.YtgodjaffmojhlaaDoor
open Go.RowKit Go.Maps
set_option linter.unusedVariables false

def meetB (b e : Int) (y : Pk) : Bool := decide (b < y.pos * 8 + (y.body.length : Int)) && decide (y.pos * 8 < e)
theorem grp_cells {w : World} {g : Gb} (h : GrpAt w g) (hb : g.h.bad = false) :
    w.cell? ⟨g.b, 1, none⟩ = some (.bool false) ∧ w.cell? ⟨g.b, 2, none⟩ = some (.map (some g.m)) ∧ w.cell? ⟨g.b, 3, none⟩ = some (.int .i64 (ttlM g.h.all)) ∧ w.cell? ⟨g.b, 4, none⟩ = some (.int .i64 (heldN g.h.all)) ∧ w.cell? ⟨g.b, 5, none⟩ = some (.int .i64 (reachN g.h.all)) ∧ w.cell? ⟨g.b, 6, none⟩ = some (.int .i64 (finN g.h.all)) := by
  refine ⟨?_, ?_, ?_, ?_, ?_, ?_⟩ <;> (rw [cell_of_row w g.b _ _ _ _ (h.good hb)]; rfl)
set_option maxRecDepth 100000 in
set_option maxHeartbeats 8000000 in
theorem touches_any (g : Gb) (b e : Int) (w : World) (h : GrpAt w g) (hb : g.h.bad = false) (hg : GoodP g.h.all) :
    Calls Tryd.prog 29 #[ptrV g.b, .int .i64 b, .int .i64 e] w fun x w' => x = .returned (.bool (g.h.all.any (meetB b e))) ∧ w.grownBy w' none := by
  obtain ⟨_, c2, _, _, _, _⟩ := grp_cells h hb
  obtain ⟨es, hown, hperm⟩ := h.map hb
  have HP : Hid (es.Perm (heldL (pcsL g))) := hperm
  have HG : Hid (GoodP g.h.all) := hg
  have HH : Hid (GrpAt w g) := h
  have HB : Hid (g.h.bad = false) := hb
  have HL : Hid (g.vs.length = g.h.all.length) := h.len hb
  unfold ptrV
  clear hperm hg h hb
  go_enter Tryd.func29, Tryd.ntmps29
  go_wp2_with (first
    | (at_range; refine wpList_range_own _ rfl _ 63 rfl 3 38 lawI Tryd.underlying63 rawR g.m (pcsL g).length _ rfl hown ?_; intro w0 hrg0 hg0 hs0)
    | go_in)
  go_frame
  go_loopw [15] (fun _ wr => ∃ (left : Lit → Bool) (cnt : Nat), wr.ranges Tryd.prog 3 rawR g.m w.heap.size (pcsL g).length (.map es) left cnt ∧ w.grownBy wr none ∧ Hid (∀ y ∈ g.h.all, left (.int .i64 y.pos) = false → meetB b e y = false))
    (fun _ wr => wr.rangeLeft g.m w.heap.size)
  case atStart =>
    refine ⟨_, _, hrg0, hg0, fun y hy hl => ?_⟩
    exfalso
    obtain ⟨i, hi, rfl⟩ := List.getElem_of_mem hy
    have hz : (Lit.int .i64 g.h.all[i].pos, DataW.held (g.vs[i]'(by have := HL.out; omega))) ∈ es := by
      rw [HP.out.mem_iff]
      refine heldL_mem (x := (Lit.int .i64 g.h.all[i].pos, g.vs[i]'(by have := HL.out; omega))).2 (List.mem_map.2 ⟨(g.h.all[i], g.vs[i]'(by have := HL.out; omega)), ?_, rfl⟩)
      rw [← List.getElem_zip (h := by have := HL.out; simp; omega)]; exact List.getElem_mem _
    have : Maps.has (DataW.map es) (.int .i64 g.h.all[i].pos) = true := List.any_eq_true.2 ⟨_, hz, by simp [Lit.sameKey]⟩
    rw [this] at hl; cases hl
  case round =>
    obtain ⟨left, cnt, hrg, hgw, HNO⟩ := hrel
    go_wp2_with (first
      | (at_next; refine wpList_next_ranges _ rfl _ rfl 3 lawI rawR id id (fun key _ _ => ⟨key, rfl⟩) (fun v _ _ => ⟨v, rfl⟩) g.m w.heap.size (pcsL g).length _ _ _ rfl hrg ?_ ?_)
      | go_in)
    · intro _ hl0
      go_wp2
      go_ret
      refine ⟨?_, hgw⟩
      rw [show g.h.all.any (meetB b e) = false from List.any_eq_false.2 (fun y hy => by rw [HNO.out y hy (hl0 _)]; simp)]; rfl
    · intro x c kl yd yp w1 cnt1 hkx hlx hv hat hrg1 hlt hg1 hs1 hen
      obtain ⟨rfl, rfl⟩ : yd = DataW.held c ∧ yp = [] := by
        have h1 : rawR c = some (DataW.held c, []) := rfl
        rw [h1] at hv
        simp only [Option.some.injEq, Prod.mk.injEq] at hv
        exact ⟨hv.1.symm, hv.2.symm⟩
      have hmem : (kl, DataW.held c) ∈ es := by
        have h2 := hat .nil
        unfold DataW.atKey at h2
        simp only at h2
        rcases hf : List.find? (fun p => p.1.sameKey kl) es with _ | z
        · rw [hf] at h2; cases h2
        · rw [hf] at h2
          simp only at h2
          have hz := List.mem_of_find?_eq_some hf
          have hs := List.find?_some hf
          have hz1 := WideAt.sameKey_eq hs
          rw [← hz1, ← h2]; exact hz
      have hml : (kl, c) ∈ pcsL g := heldL_mem.1 (HP.out.mem_iff.1 hmem)
      obtain ⟨z, hz, hze⟩ := List.mem_map.1 hml
      obtain ⟨y, v⟩ := z
      simp only [Prod.mk.injEq] at hze
      obtain ⟨rfl, rfl⟩ := hze
      obtain ⟨q, rfl, hq, _⟩ := Maps.keyOf_int_inv Tryd.underlying3 hkx
      obtain rfl : q = y.pos := by simpa using hq.symm
      have hy := (List.of_mem_zip hz).1
      obtain ⟨o1, o2, o3, o4⟩ := HG.out.one y hy
      have hlo := loP_int o1
      unfold hiP at o4
      have hbz := HH.out.body HB.out _ hz
      obtain ⟨av, cv, hvv⟩ := len_body (hbz.bytes (by simp only; omega))
      simp only at hvv
      subst hvv
      obtain ⟨n, hn⟩ : ∃ n, y.body.length = n := ⟨_, rfl⟩
      have HN : Hid (y.body.length = n) := hn
      rw [hn] at hen o4 ⊢
      try simp only [id] at hen ⊢
      obtain ⟨P, hP⟩ : ∃ P, y.pos = P := ⟨_, rfl⟩
      have HPP : Hid (y.pos = P) := hP
      rw [hP] at hen o1 hlo hrg1 ⊢
      have hP0 : 0 ≤ P ∧ P ≤ 500 := by omega
      have hn4 : n ≤ 4000 := by omega
      have hgw1 := hgw.andThen hg1 (fun j hj => by cases hj; exact Or.inl (Nat.le_refl _))
      have HY : Hid (y ∈ g.h.all) := hy
      clear hkx hlx hv hat hmem hml hz hy o2 o3 hbz hn hP hlo hs1 hq o1 o4
      by_cases k1 : b < P * 8 + (n : Int)
      · by_cases k2 : P * 8 < e
        · go_wp2_with fail
          go_ret
          refine ⟨?_, hgw1⟩
          rw [show g.h.all.any (meetB b e) = true from List.any_eq_true.2 ⟨y, HY.out, by unfold meetB; rw [HPP.out, HN.out]; simp [k1, k2]⟩]; rfl
        · go_wp2_with fail
          go_roundw
          case rel =>
            refine ⟨_, cnt1, hrg1, hgw1, fun z hz hl => ?_⟩
            by_cases hc : z.pos = P
            · unfold meetB
              rw [hc, decide_eq_false k2, Bool.and_false]
            · refine HNO.out z hz ?_
              simpa [Lit.sameKey, hc] using hl
          case measure => rw [hrg1.left_eq, hrg.left_eq]; exact hlt
      · go_wp2_with fail
        go_roundw
        case rel =>
          refine ⟨_, cnt1, hrg1, hgw1, fun z hz hl => ?_⟩
          by_cases hc : z.pos = P
          · have hzy : z = y := HG.out.apart hz HY.out (loP y) (by
              have h1 := HG.out.one z hz; unfold hiP loP; rw [hc, HPP.out]; have := h1.2.1; omega) (by
              have h1 := HG.out.one y HY.out; unfold hiP; have := h1.2.1; omega)
            rw [hzy]; unfold meetB
            rw [HPP.out, HN.out, decide_eq_false k1, Bool.false_and]
          · refine HNO.out z hz ?_
            simpa [Lit.sameKey, hc] using hl
        case measure => rw [hrg1.left_eq, hrg.left_eq]; exact hlt
end Go.Proofs.YtgodjaffmojhlaaDoor
