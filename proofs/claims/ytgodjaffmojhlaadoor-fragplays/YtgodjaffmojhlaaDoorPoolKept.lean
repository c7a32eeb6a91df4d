/- A group that has kept one piece more is a group. -/
import Derived.Test.YtgodjaffmojhlaaDoorPoolFok
namespace Go.Proofs.YtgodjaffmojhlaaDoor
open Go.RowKit Go.Maps
set_option linter.unusedVariables false

def keptGb (g : Gb) (p : Pk) (v : Value) : Gb := { h := { g.h with all := g.h.all ++ [p] }, b := g.b, m := g.m, vs := g.vs ++ [v] }
theorem Bytes.turn {F : Nat → Prop} {w w' : World} {v : Value} {zs : List Int} (h : Bytes w v zs) (ht : Turn F w w') (hne : ∀ b off len cap, v = .slice (some ⟨b, off, none⟩) len cap → 0 < len → ¬ F b) : Bytes w' v zs := by
  rcases h with h | ⟨b, off, len, cap, h1, h2, h3, h4, h5, h6⟩
  · exact .inl h
  · by_cases hl0 : len = 0
    · subst hl0
      exact .inl ⟨List.eq_nil_of_length_eq_zero h5, _, _, h1, fun h => by cases h⟩
    · refine .inr ⟨b, off, len, cap, h1, h2, h3, h4, h5, fun i hi => ?_, h6.2⟩
      have hlt := h6.lt (by omega)
      rw [World.cell?_of_block (w := w) (ht.block b hlt (hne b off len cap h1 (by omega)))]
      exact h6.1 i hi
theorem pcsL_nil {g : Gb} (hl : g.vs.length = g.h.all.length) : pcsL g = [] ↔ g.h.all = [] := by
  have e : (pcsL g).length = g.h.all.length := by unfold pcsL; rw [List.length_map, List.length_zip]; omega
  constructor
  · intro h; rw [h] at e; exact List.eq_nil_of_length_eq_zero e.symm
  · intro h; rw [h] at e; exact List.eq_nil_of_length_eq_zero e
theorem kept_grp {w w' : World} {g : Gb} {p : Pk} {v : Value} {b0 : Nat} (h : GrpAt w g) (hb : g.h.bad = false) (hg : GoodP g.h.all) (hw : wrongB g.h.all p = false) (hp : 0 ≤ p.pos)
    (hk : KAt w' g.b g.h.began g.m (if pcsL g = [] ∨ p.ttl < ttlM g.h.all then p.ttl else ttlM g.h.all) ((heldN g.h.all : Int) + (p.body.length : Int)) (max (reachN g.h.all : Int) (p.pos * 8 + (p.body.length : Int))) (if p.more then (finN g.h.all : Int) else max (reachN g.h.all : Int) (p.pos * 8 + (p.body.length : Int))))
    (hm : MapIs Tryd.prog 3 w' g.m ((.int .i64 p.pos, v) :: (pcsL g).filter fun x => !x.1.sameKey (.int .i64 p.pos))) (hv : OwnB w' b0 v p.body) (ht : Turn (fun k => k = g.b ∨ k = g.m) w w') : GrpAt w' (keptGb g p v) := by
  have hlen := h.len hb
  have hg' := hg.snoc hp hw
  obtain ⟨h1, h2⟩ := wrongB_no hg.one hp hw
  have hfil : (pcsL g).filter (fun x => !x.1.sameKey (.int .i64 p.pos)) = pcsL g := by
    refine List.filter_eq_self.2 (fun x hx => ?_)
    obtain ⟨z, hz, rfl⟩ := List.mem_map.1 hx
    have hy := (List.of_mem_zip hz).1
    have hne : z.1.pos ≠ p.pos := by
      intro e
      have hf := (h2 z.1 hy).1
      have o1 := hg.one z.1 hy
      have o2 := o1.2.1
      have o3 := h1.2.1
      have l1 : loP z.1 = loP p := by unfold loP; rw [e]
      unfold hiP at hf
      omega
    simp [Lit.sameKey, hne]
  rw [hfil] at hm
  have hhi : p.pos * 8 + (p.body.length : Int) = (hiP p : Int) := by have := endI_hi hp; unfold endI at this; omega
  have hmax : max (reachN g.h.all : Int) ((hiP p : Nat) : Int) = ((max (reachN g.h.all) (hiP p) : Nat) : Int) := by omega
  have e1 : (if pcsL g = [] ∨ p.ttl < ttlM g.h.all then p.ttl else ttlM g.h.all) = ttlM (g.h.all ++ [p]) := by
    rw [ttlM_snoc]; simp only [pcsL_nil hlen]
  have e2 : (heldN g.h.all : Int) + (p.body.length : Int) = ((heldN (g.h.all ++ [p]) : Nat) : Int) := by rw [heldN_snoc]; omega
  have e3 : max (reachN g.h.all : Int) (p.pos * 8 + (p.body.length : Int)) = ((reachN (g.h.all ++ [p]) : Nat) : Int) := by rw [hhi, hmax, reachN_snoc]
  have e4 : (if p.more then (finN g.h.all : Int) else max (reachN g.h.all : Int) (p.pos * 8 + (p.body.length : Int))) = ((finN (g.h.all ++ [p]) : Nat) : Int) := by
    rw [fin_kept hg', e3]
    split <;> rfl
  rw [e1, e2, e4, e3] at hk
  have hzip : (g.h.all ++ [p]).zip (g.vs ++ [v]) = g.h.all.zip g.vs ++ [(p, v)] := by rw [List.zip_append hlen.symm]; rfl
  have hpc : pcsL (keptGb g p v) = pcsL g ++ [(.int .i64 p.pos, v)] := by
    unfold pcsL keptGb
    simp only [hzip, List.map_append, List.map_cons, List.map_nil]
  refine ⟨fun hc => ?_, fun _ => hk, fun _ => ?_, fun _ => ?_, fun _ x hx => ?_⟩
  · have hc' : g.h.bad = true := hc
    rw [hb] at hc'; cases hc'
  · show (g.vs ++ [v]).length = (g.h.all ++ [p]).length
    simp [hlen]
  · rw [hpc]
    exact hm.perm (List.perm_append_singleton _ _).symm
  · have hx' : x ∈ g.h.all.zip g.vs ++ [(p, v)] := by rw [← hzip]; exact hx
    rcases List.mem_append.1 hx' with h' | h'
    · have ho := h.body hb x h'
      refine ho.blk (fun k hk => ht.block k (ho.1.lt k hk).2 ?_)
      obtain ⟨cur, hcur⟩ := body_kind h hb (List.of_mem_zip h').2 hk
      intro hc
      rcases hc with e | e
      · obtain ⟨cs, hcs⟩ := grp_kind h
        rw [e, hcs] at hcur; simp at hcur
      · exact map_no_cells (h.map hb) hcur e
    · rw [List.mem_singleton.1 h']
      exact hv.baseLe (Nat.zero_le _)
end Go.Proofs.YtgodjaffmojhlaaDoor
