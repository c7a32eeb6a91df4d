/- A pool one of whose groups has become another one, or is gone: it is a pool still. -/
import Derived.Test.YtgodjaffmojhlaaDoorPoolFind
namespace Go.Proofs.YtgodjaffmojhlaaDoor
open Go.RowKit Go.Maps
set_option linter.unusedVariables false

theorem body_kind {w : World} {g : Gb} (h : GrpAt w g) (hx : g.h.bad = false) {v : Value} (hv : v ∈ g.vs) {k : Nat} (hk : v.ownBlock = some k) : ∃ cur, w.heap[k]? = some (.cells cur 5 (0, 0)) := by
  have hlen := h.len hx
  obtain ⟨i, hi, rfl⟩ := List.getElem_of_mem hv
  have hz : ((g.h.all)[i]'(by omega), g.vs[i]) ∈ g.h.all.zip g.vs := by
    rw [← List.getElem_zip (h := by simp; omega)]; exact List.getElem_mem _
  have ho := h.body hx _ hz
  rcases ho.1.2 with ⟨h1, _⟩ | ⟨q, cap, cur, h1, _, hh, _⟩
  · simp only at h1; rw [h1] at hk; cases hk
  · simp only at h1; rw [h1] at hk
    have : q = k := by simpa [Value.ownBlock] using hk
    subst this
    exact ⟨cur, hh⟩
theorem grp_kind {w : World} {g : Gb} (h : GrpAt w g) : ∃ cs, w.heap[g.b]? = some (.cells cs 65 (0, 0)) := by
  rcases hb : g.h.bad with _ | _
  · exact ⟨_, h.good hb⟩
  · exact ⟨_, h.bad hb⟩
theorem map_no_cells {P : Program} {k : TypeId} {w : World} {b c : Nat} {l : List (Lit × Value)} {cs : Array Value} {T : TypeId} {z : Nat × Nat} (h : MapIs P k w b l) (hc : w.heap[c]? = some (.cells cs T z)) : c ≠ b := by
  intro e; subst e; exact h.not_cells hc
/-- What other groups do not lie in. -/
theorem PoolIn.others {w w' : World} {F : Nat → Prop} {pb : Nat} {s : Po} {mb : Nat} {g1 g2 : List Gb} {g : Gb} (h : PoolIn w F pb s mb (g1 ++ g :: g2))
    (hk : ∀ k, F k → k ≠ mb → k ≠ g.b → (g.h.bad = false → k ≠ g.m) → w'.heap[k]? = w.heap[k]?) : (∀ q ∈ g1 ++ g2, GrpAt w' q) ∧ w'.heap[pb]? = w.heap[pb]? := by
  have hg : g ∈ g1 ++ g :: g2 := List.mem_append_right _ List.mem_cons_self
  obtain ⟨gc, hgc⟩ := grp_kind (h.each g hg)
  have hpb : w'.heap[pb]? = w.heap[pb]? := by
    refine hk pb h.fpb (map_no_cells h.map h.pool) (fun e => ?_) (fun hx => map_no_cells ((h.each g hg).map hx) h.pool)
    have h1 := h.pool
    rw [e, hgc] at h1; simp at h1
  refine ⟨fun q hq => ?_, hpb⟩
  have hqm : q ∈ g1 ++ g :: g2 := by
    rcases List.mem_append.1 hq with h' | h'
    · exact List.mem_append_left _ h'
    · exact List.mem_append_right _ (List.mem_cons_of_mem _ h')
  have hbs := h.bs
  have hms := h.ms
  rw [List.pairwise_append, List.pairwise_cons] at hbs hms
  have hqb : q.b ≠ g.b := by
    rcases List.mem_append.1 hq with h' | h'
    · exact hbs.2.2 q h' g List.mem_cons_self
    · exact (hbs.2.1.1 q h').symm
  have hqmm : q.h.bad = false → g.h.bad = false → q.m ≠ g.m := by
    intro h1 h2
    rcases List.mem_append.1 hq with h' | h'
    · exact hms.2.2 q h' g List.mem_cons_self h1 h2
    · exact (hms.2.1.1 q h' h2 h1).symm
  obtain ⟨qc, hqc⟩ := grp_kind (h.each q hqm)
  refine (h.each q hqm).keep (hk _ (h.fgs q hqm).1 (map_no_cells h.map hqc) hqb (fun hx => map_no_cells ((h.each g hg).map hx) hqc)) (fun hx => ⟨hk _ ((h.fgs q hqm).2 hx).1 (h.mm q hqm hx) (fun e => ?_) (fun hy => hqmm hx hy), fun v hv k hvk => ?_⟩)
  · have h1 := (h.each q hqm).map hx
    rw [e] at h1
    exact h1.not_cells hgc
  · obtain ⟨cur, hcur⟩ := body_kind (h.each q hqm) hx hv hvk
    refine hk _ (((h.fgs q hqm).2 hx).2 v hv k hvk) (map_no_cells h.map hcur) (fun e => ?_) (fun hy => map_no_cells ((h.each g hg).map hy) hcur)
    rw [e, hgc] at hcur; simp at hcur
/-- One group is gone. -/
theorem PoolIn.gone {w w' : World} {F G : Nat → Prop} {pb : Nat} {s : Po} {mb : Nat} {g1 g2 : List Gb} {g : Gb} (h : PoolIn w F pb s mb (g1 ++ g :: g2)) (hFG : ∀ k, F k → G k)
    (hk : ∀ k, F k → k ≠ mb → k ≠ g.b → (g.h.bad = false → k ≠ g.m) → w'.heap[k]? = w.heap[k]?) (hm : MapIs Tryd.prog 61 w' mb (grpsL (g1 ++ g2))) :
    PoolIn w' G pb { s with l := (g1 ++ g2).map Gb.h } mb (g1 ++ g2) := by
  obtain ⟨he, hp⟩ := h.others hk
  have hsub : ∀ q ∈ g1 ++ g2, q ∈ g1 ++ g :: g2 := by
    intro q hq
    rcases List.mem_append.1 hq with h' | h'
    · exact List.mem_append_left _ h'
    · exact List.mem_append_right _ (List.mem_cons_of_mem _ h')
  have hsl : (g1 ++ g2).Sublist (g1 ++ g :: g2) := List.Sublist.append (List.Sublist.refl _) (List.sublist_cons_self _ _)
  have hl := h.list
  refine ⟨hp.trans h.pool, hm, rfl, he, ⟨fun x hx => ?_, ?_, ?_⟩, fun q hq => h.names q (hsub q hq), ⟨h.times.1, h.times.2.1, fun q hq => h.times.2.2 q (hsub q hq)⟩, hFG _ h.fpb, hFG _ h.fmb, fun q hq => ⟨hFG _ (h.fgs q (hsub q hq)).1, fun hx => ⟨hFG _ ((h.fgs q (hsub q hq)).2 hx).1, fun v hv k hvk => hFG _ (((h.fgs q (hsub q hq)).2 hx).2 v hv k hvk)⟩⟩, h.bs.sublist hsl, h.ms.sublist hsl, fun q hq => h.mm q (hsub q hq)⟩
  · obtain ⟨q, hq, rfl⟩ := List.mem_map.1 hx
    exact h.ok.each _ (by rw [← hl]; exact List.mem_map.2 ⟨q, hsub q hq, rfl⟩)
  · have ha := h.ok.apart
    rw [← hl] at ha
    exact ha.sublist (hsl.map _)
  · have hf := h.ok.few
    rw [← hl, List.length_map] at hf
    show ((g1 ++ g2).map Gb.h).length ≤ 8
    rw [List.length_map]
    exact Nat.le_trans hsl.length_le hf
/-- One group has become another one of the same name. -/
theorem PoolIn.swap {w w' : World} {F G : Nat → Prop} {pb : Nat} {s : Po} {mb : Nat} {g1 g2 : List Gb} {g g' : Gb} (h : PoolIn w F pb s mb (g1 ++ g :: g2)) (hFG : ∀ k, F k → G k) (hF : ∀ k, F k → k < w.heap.size)
    (hk : ∀ k, F k → k ≠ mb → k ≠ g.b → (g.h.bad = false → k ≠ g.m) → w'.heap[k]? = w.heap[k]?) (hm : MapIs Tryd.prog 61 w' mb (grpsL (g1 ++ g' :: g2)))
    (hn : g'.h.name = g.h.name) (hbg : g'.h.began = g.h.began) (hg : GrpAt w' g') (hok : OkH g'.h) (hG : G g'.b ∧ (g'.h.bad = false → G g'.m ∧ ∀ v ∈ g'.vs, ∀ k, v.ownBlock = some k → G k))
    (hb : g'.b = g.b ∨ w.heap.size ≤ g'.b) (hmm : g'.h.bad = false → g.h.bad = false ∧ g'.m = g.m) :
    PoolIn w' G pb { s with l := (g1 ++ g' :: g2).map Gb.h } mb (g1 ++ g' :: g2) := by
  obtain ⟨he, hp⟩ := h.others hk
  have hgm : g ∈ g1 ++ g :: g2 := List.mem_append_right _ List.mem_cons_self
  have cases' : ∀ q ∈ g1 ++ g' :: g2, q = g' ∨ (q ∈ g1 ++ g2 ∧ q ∈ g1 ++ g :: g2) := by
    intro q hq
    rcases List.mem_append.1 hq with h' | h'
    · exact .inr ⟨List.mem_append_left _ h', List.mem_append_left _ h'⟩
    · rcases List.mem_cons.1 h' with h' | h'
      · exact .inl h'
      · exact .inr ⟨List.mem_append_right _ h', List.mem_append_right _ (List.mem_cons_of_mem _ h')⟩
  have hl := h.list
  have hlt : ∀ q ∈ g1 ++ g :: g2, q.b < w.heap.size := fun q hq => hF _ (h.fgs q hq).1
  have hbs := h.bs
  have hms := h.ms
  have hap := h.ok.apart
  rw [← hl, List.pairwise_map, List.pairwise_append, List.pairwise_cons] at hap
  rw [List.pairwise_append, List.pairwise_cons] at hbs hms
  refine ⟨hp.trans h.pool, hm, rfl, fun q hq => ?_, ⟨fun x hx => ?_, ?_, ?_⟩, fun q hq => ?_, ⟨h.times.1, h.times.2.1, fun q hq => ?_⟩, hFG _ h.fpb, hFG _ h.fmb, fun q hq => ?_, ?_, ?_, fun q hq hx => ?_⟩
  · rcases cases' q hq with rfl | ⟨h1, _⟩
    · exact hg
    · exact he q h1
  · obtain ⟨q, hq, rfl⟩ := List.mem_map.1 hx
    rcases cases' q hq with rfl | ⟨_, h1⟩
    · exact hok
    · exact h.ok.each _ (by rw [← hl]; exact List.mem_map.2 ⟨q, h1, rfl⟩)
  · rw [List.pairwise_map, List.pairwise_append, List.pairwise_cons, hn]
    refine ⟨hap.1, ⟨hap.2.1.1, hap.2.1.2⟩, fun a ha b hb => ?_⟩
    rcases List.mem_cons.1 hb with rfl | hb
    · rw [hn]; exact hap.2.2 a ha g List.mem_cons_self
    · exact hap.2.2 a ha b (List.mem_cons_of_mem _ hb)
  · have hf := h.ok.few
    rw [← hl, List.length_map] at hf
    show ((g1 ++ g' :: g2).map Gb.h).length ≤ 8
    rw [List.length_map]
    simp only [List.length_append, List.length_cons] at hf ⊢
    exact hf
  · rcases cases' q hq with rfl | ⟨_, h1⟩
    · rw [hn]; exact h.names g hgm
    · exact h.names q h1
  · rcases cases' q hq with rfl | ⟨_, h1⟩
    · rw [hbg]; exact h.times.2.2 g hgm
    · exact h.times.2.2 q h1
  · rcases cases' q hq with rfl | ⟨_, h1⟩
    · exact hG
    · exact ⟨hFG _ (h.fgs q h1).1, fun hx => ⟨hFG _ ((h.fgs q h1).2 hx).1, fun v hv k hvk => hFG _ (((h.fgs q h1).2 hx).2 v hv k hvk)⟩⟩
  · rw [List.pairwise_append, List.pairwise_cons]
    refine ⟨hbs.1, ⟨fun q hq => ?_, hbs.2.1.2⟩, fun a ha b hbm => ?_⟩
    · rcases hb with e | e
      · rw [e]; exact hbs.2.1.1 q hq
      · have := hlt q (List.mem_append_right _ (List.mem_cons_of_mem _ hq)); omega
    · rcases List.mem_cons.1 hbm with rfl | hbm
      · rcases hb with e | e
        · rw [e]; exact hbs.2.2 a ha g List.mem_cons_self
        · have := hlt a (List.mem_append_left _ ha); omega
      · exact hbs.2.2 a ha b (List.mem_cons_of_mem _ hbm)
  · rw [List.pairwise_append, List.pairwise_cons]
    refine ⟨hms.1, ⟨fun q hq h1 h2 => ?_, hms.2.1.2⟩, fun a ha b hbm h1 h2 => ?_⟩
    · obtain ⟨k1, k2⟩ := hmm h1
      rw [k2]; exact hms.2.1.1 q hq k1 h2
    · rcases List.mem_cons.1 hbm with rfl | hbm
      · obtain ⟨k1, k2⟩ := hmm h2
        rw [k2]; exact hms.2.2 a ha g List.mem_cons_self h1 k1
      · exact hms.2.2 a ha b (List.mem_cons_of_mem _ hbm) h1 h2
  · rcases cases' q hq with rfl | ⟨_, h1⟩
    · obtain ⟨k1, k2⟩ := hmm hx
      rw [k2]; exact h.mm g hgm k1
    · exact h.mm q h1 hx
/-! ### what a list of heaps becomes -/
theorem setH_mid {l1 l2 : List Hp} {h h' : Hp} (ha : (l1 ++ h :: l2).Pairwise (fun g k => g.name ≠ k.name)) (hn : h'.name = h.name) : setH (l1 ++ h :: l2) h' = l1 ++ h' :: l2 := by
  rw [List.pairwise_append, List.pairwise_cons] at ha
  have hg : (getH (l1 ++ h :: l2) h'.name).isSome = true := by
    unfold getH
    rw [List.find?_isSome]
    exact ⟨h, List.mem_append_right _ List.mem_cons_self, by simp [hn]⟩
  unfold setH
  rw [if_pos hg, List.map_append, List.map_cons, if_pos hn.symm]
  have e1 : l1.map (fun g => if g.name = h'.name then h' else g) = l1 := by
    refine List.map_congr_left (fun x hx => ?_) |>.trans (List.map_id _)
    rw [if_neg (fun e => ha.2.2 x hx h List.mem_cons_self (e.trans hn))]; rfl
  have e2 : l2.map (fun g => if g.name = h'.name then h' else g) = l2 := by
    refine List.map_congr_left (fun x hx => ?_) |>.trans (List.map_id _)
    rw [if_neg (fun e => ha.2.1.1 x hx (e.trans hn).symm)]; rfl
  rw [e1, e2]
theorem delH_mid {l1 l2 : List Hp} {h : Hp} (ha : (l1 ++ h :: l2).Pairwise (fun g k => g.name ≠ k.name)) : delH (l1 ++ h :: l2) h.name = l1 ++ l2 := by
  rw [List.pairwise_append, List.pairwise_cons] at ha
  unfold delH
  rw [List.filter_append, List.filter_cons_of_neg (by simp)]
  have e1 : l1.filter (fun k => decide (¬ k.name = h.name)) = l1 := List.filter_eq_self.2 (fun x hx => decide_eq_true (ha.2.2 x hx h List.mem_cons_self))
  have e2 : l2.filter (fun k => decide (¬ k.name = h.name)) = l2 := List.filter_eq_self.2 (fun x hx => decide_eq_true (fun e => ha.2.1.1 x hx e.symm))
  rw [e1, e2]
end Go.Proofs.YtgodjaffmojhlaaDoor
