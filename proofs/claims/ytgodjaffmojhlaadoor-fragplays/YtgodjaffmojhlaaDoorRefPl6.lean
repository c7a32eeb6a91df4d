/- The reference's pool (package portref2): what Add's state ('AddSt') becomes when a heap is new, bad, has one more piece, or is cut out. -/
import Derived.Test.YtgodjaffmojhlaaDoorRefPl4
import Derived.Deep.AppendLies
namespace Go.Proofs.YtgodjaffmojhlaaDoor
open Go.RowKit
set_option linter.unusedVariables false
set_option maxRecDepth 4000

theorem step_append_hp {w : World} {ops : Array Oper} {o : Oper} {a : Act} {K : Act → World → Prop} {Q : Exit → Act → World → Prop} {E : Prop} (hgd : o.guard = none) (s x : Operand)
    (ho : o.op = .call { callee := .builtin .append, args := #[s, x], argTypes := #[31, 31] })
    (base : Nat) (v : Value) (rs : List Rh) (hs : a.eval s = v) (hown : OwnH w base v rs) (r : Rh) (hx : a.eval x = .slice (some ⟨w.heap.size, 0, none⟩) 1 1) (hr : SlV r.fv ∧ SlV r.av)
    (hlen : rs.length ≤ 100000) (hbase : base ≤ w.heap.size)
    (h : ∀ g cap w', OwnH w' base (.slice (some ⟨g, 0, none⟩) (rs.length + 1) cap) (rs ++ [r]) → (w.alloc (.cells #[.int .i64 r.f.kind, .int .i64 r.f.ttl, .int .i64 r.f.ident, .int .i64 r.f.src, .int .i64 r.f.dst, .int .i64 r.f.pos, .bool r.f.more, r.fv, .int .i64 r.h.began, .bool r.h.bad, r.av] 57)).grownBy w' v.ownBlock → (v.ownBlock = some g ∨ g = w.heap.size + 1) → K (a.put o.dst (.slice (some ⟨g, 0, none⟩) (rs.length + 1) cap)) w') :
    if Region.wanted o (yielded ops a.tmps) = true then Oper.wp Tryd.prog o a (w.alloc (.cells #[.int .i64 r.f.kind, .int .i64 r.f.ttl, .int .i64 r.f.ident, .int .i64 r.f.src, .int .i64 r.f.dst, .int .i64 r.f.pos, .bool r.f.more, r.fv, .int .i64 r.h.began, .bool r.h.bad, r.av] 57)) K Q else E := by
  obtain ⟨i0, hi, hz0, hz1, hz2⟩ := info_parts Tryd.infoHp
  have hp := HpC.new w r
  refine step_append_lies _ hgd s x 31 ho base 57 i0 _ 11 120 Tryd.underlying31 hi hz0 hz1 hz2 rfl (by decide) v rs.length (rhCells rs) hs (World.ownsRow.alloc hown _) ⟨w.heap.size, 0, none⟩ 1 1 (rhRow r) hx rfl ?_ (rhRow_one hr) (by decide) (by unfold maxLen; omega) (by omega) (by simp; omega) (w.heap.size + 1) (by simp) ?_
  · intro j u hj
    rw [hpsAdd]
    exact hp j u hj
  · intro g cap w' h1 h2 h3 _
    refine h g cap w' ?_ h2 h3
    unfold OwnH
    rw [List.length_append, rhCells_append]
    have e : rhCells [r] = rhRow r := by simp [rhCells]
    rw [e]; exact h1
theorem step_append_pk1 {w : World} {ops : Array Oper} {o : Oper} {a : Act} {K : Act → World → Prop} {Q : Exit → Act → World → Prop} {E : Prop} (hgd : o.guard = none) (s x : Operand)
    (ho : o.op = .call { callee := .builtin .append, args := #[s, x], argTypes := #[22, 22] })
    (base : Nat) (v : Value) (qs : List (Pk × Value)) (hs : a.eval s = v) (hown : OwnK w base v qs) (p : Pk) (ab : Option Addr) (lb cb : Nat) (hx : a.eval x = .slice (some ⟨w.heap.size, 0, none⟩) 1 1)
    (hlen : qs.length ≤ 100000) (hbase : base ≤ w.heap.size)
    (h : ∀ g cap w', OwnK w' base (.slice (some ⟨g, 0, none⟩) (qs.length + 1) cap) (qs ++ [(p, .slice ab lb cb)]) → (w.alloc (.cells #[.int .i64 p.kind, .int .i64 p.ttl, .int .i64 p.ident, .int .i64 p.src, .int .i64 p.dst, .int .i64 p.pos, .bool p.more, .slice ab lb cb] 40)).grownBy w' v.ownBlock → (v.ownBlock = some g ∨ g = w.heap.size + 1) → K (a.put o.dst (.slice (some ⟨g, 0, none⟩) (qs.length + 1) cap)) w') :
    if Region.wanted o (yielded ops a.tmps) = true then Oper.wp Tryd.prog o a (w.alloc (.cells #[.int .i64 p.kind, .int .i64 p.ttl, .int .i64 p.ident, .int .i64 p.src, .int .i64 p.dst, .int .i64 p.pos, .bool p.more, .slice ab lb cb] 40)) K Q else E := by
  obtain ⟨i0, hi, hz0, hz1, hz2⟩ := info_parts Tryd.infoPk
  obtain ⟨c0, c1, c2, c3, c4, c5, c6, c7⟩ := (PkAt.new w p (.slice ab lb cb)).cells
  refine step_append_lies _ hgd s x 22 ho base 40 i0 _ 8 80 Tryd.underlying22 hi hz0 hz1 hz2 rfl (by decide) v qs.length (pkCells qs) hs (OwnK.alloc hown _) ⟨w.heap.size, 0, none⟩ 1 1 [.int .i64 p.kind, .int .i64 p.ttl, .int .i64 p.ident, .int .i64 p.src, .int .i64 p.dst, .int .i64 p.pos, .bool p.more, .slice ab lb cb] hx rfl ?_ ?_ (by decide) (by unfold maxLen; omega) (by omega) (by simp; omega) (w.heap.size + 1) (by simp) ?_
  · intro j u hj
    rw [hpsAdd, Nat.zero_add]
    match j, hj with
    | 0, hj => simp at hj; subst hj; exact c0
    | 1, hj => simp at hj; subst hj; exact c1
    | 2, hj => simp at hj; subst hj; exact c2
    | 3, hj => simp at hj; subst hj; exact c3
    | 4, hj => simp at hj; subst hj; exact c4
    | 5, hj => simp at hj; subst hj; exact c5
    | 6, hj => simp at hj; subst hj; exact c6
    | 7, hj => simp at hj; subst hj; exact c7
  · intro u hu
    simp only [List.mem_cons, List.not_mem_nil, or_false] at hu
    rcases hu with rfl | rfl | rfl | rfl | rfl | rfl | rfl | rfl <;> rfl
  · intro g cap w' h1 h2 h3 _
    refine h g cap w' ?_ h2 h3
    unfold OwnK
    rw [List.length_append, pkCells_append]; exact h1

theorem run_append_pk1 {w : World} (base : Nat) (v : Value) (qs : List (Pk × Value)) (hown : OwnK w base v qs) (p : Pk) (ab : Option Addr) (lb cb : Nat) (hlen : qs.length ≤ 100000) (hbase : base ≤ w.heap.size) :
    ∃ g cap w', (Builtin.append_ #[22, 22] 22 #[v, .slice (some ⟨w.heap.size, 0, none⟩) 1 1]).run Tryd.prog (w.alloc (.cells #[.int .i64 p.kind, .int .i64 p.ttl, .int .i64 p.ident, .int .i64 p.src, .int .i64 p.dst, .int .i64 p.pos, .bool p.more, .slice ab lb cb] 40)) = .ok (.slice (some ⟨g, 0, none⟩) (qs.length + 1) cap) w' ∧
      OwnK w' base (.slice (some ⟨g, 0, none⟩) (qs.length + 1) cap) (qs ++ [(p, .slice ab lb cb)]) ∧ (w.alloc (.cells #[.int .i64 p.kind, .int .i64 p.ttl, .int .i64 p.ident, .int .i64 p.src, .int .i64 p.dst, .int .i64 p.pos, .bool p.more, .slice ab lb cb] 40)).grownBy w' v.ownBlock ∧ (v.ownBlock = some g ∨ g = w.heap.size + 1) := by
  obtain ⟨i0, hi, hz0, hz1, hz2⟩ := info_parts Tryd.infoPk
  obtain ⟨c0, c1, c2, c3, c4, c5, c6, c7⟩ := (PkAt.new w p (.slice ab lb cb)).cells
  obtain ⟨g, cap, w', hr, h1, h2, h3, _⟩ := run_append_lies (P := Tryd.prog) _ 22 22 base 40 i0 _ 8 80 Tryd.underlying22 hi hz0 hz1 hz2 rfl (by decide) v qs.length (pkCells qs) (OwnK.alloc hown (.cells #[.int .i64 p.kind, .int .i64 p.ttl, .int .i64 p.ident, .int .i64 p.src, .int .i64 p.dst, .int .i64 p.pos, .bool p.more, .slice ab lb cb] 40)) ⟨w.heap.size, 0, none⟩ 1 1 [.int .i64 p.kind, .int .i64 p.ttl, .int .i64 p.ident, .int .i64 p.src, .int .i64 p.dst, .int .i64 p.pos, .bool p.more, .slice ab lb cb] rfl (fun j u hj => by
    rw [hpsAdd, Nat.zero_add]
    match j, hj with
    | 0, hj => simp at hj; subst hj; exact c0
    | 1, hj => simp at hj; subst hj; exact c1
    | 2, hj => simp at hj; subst hj; exact c2
    | 3, hj => simp at hj; subst hj; exact c3
    | 4, hj => simp at hj; subst hj; exact c4
    | 5, hj => simp at hj; subst hj; exact c5
    | 6, hj => simp at hj; subst hj; exact c6
    | 7, hj => simp at hj; subst hj; exact c7) (fun u hu => by
    simp only [List.mem_cons, List.not_mem_nil, or_false] at hu
    rcases hu with rfl | rfl | rfl | rfl | rfl | rfl | rfl | rfl <;> rfl) (by decide) (by unfold maxLen; omega) (by omega) (by simp; omega) (w.heap.size + 1) (by simp)
  refine ⟨g, cap, w', hr, ?_, h2, h3⟩
  unfold OwnK
  rw [List.length_append, pkCells_append]; exact h1
section
variable {w0 : World} {F : Nat → Prop} {pb : Nat} {t : Po} {p : Pk} {bv : Value} {now : Int} {w : World} {A : List Rh} {r : Rh} {B : List Rh} {lv : Value} {ww w' : World}
theorem Plus2.lt (hF : ∀ k, F k → k < w.heap.size) (hw : w.heap.size + 2 ≤ ww.heap.size) {k : Nat} (h : Plus2 F w ww k) : k < ww.heap.size := by
  rcases h with h | h
  · have := hF k h; omega
  · exact h.2
theorem Plus2.ge (hF : ∀ k, F k → w0.heap.size ≤ k) (hw : w0.heap.size ≤ w.heap.size) {k : Nat} (h : Plus2 F w ww k) : w0.heap.size ≤ k := by
  rcases h with h | h
  · exact hF k h
  · omega
theorem Plus2.mono (hs : ww.heap.size ≤ w'.heap.size) {k : Nat} (h : Plus2 F w ww k) : Plus2 F w w' k := by
  rcases h with h | h
  · exact .inl h
  · exact .inr ⟨h.1, by omega⟩
theorem AddSt.below (h : AddSt w0 F pb t p bv now w A r B lv ww) (hF : ∀ k, F k → k < w.heap.size) (hF0 : ∀ k, F k → w0.heap.size ≤ k) (hw0 : w0.heap.size ≤ w.heap.size) (hb : Below ww.heap.size ww w') : AddSt w0 F pb t p bv now w A r B lv w' := by
  have hw2 : w.heap.size + 2 ≤ ww.heap.size := by have := h.pz.lt; omega
  exact ⟨(h.pool.below (fun k hk => Plus2.lt hF hw2 hk) hb).mono (fun k hk => Plus2.mono hb.size hk) (fun k hk => Plus2.ge hF0 hw0 hk), h.is, h.set, h.del, h.same, h.px.below h.px.lt hb, h.pz.below h.pz.lt hb, h.turn.trans (Turn.of_below hb F)⟩
/-- The row of heaps has grown by one, and the pool has it. -/
theorem AddSt.app {rs : List Rh} {av : Option Addr} {k cv : Nat} {a : Option Addr} {L c g cap : Nat} {wr wd w5 : World} (h : RpIn w0 wr (Plus2 F w wr) pb t (.slice av k cv) rs) (hno : ∀ r ∈ rs, nmOf r.f ≠ nmOf p) (h8 : rs.length < 8) (hnow : 0 ≤ now ∧ now ≤ 1000000)
    (hF : ∀ k, F k → k < w.heap.size) (hF0 : ∀ k, F k → w0.heap.size ≤ k) (hw0 : w0.heap.size ≤ w.heap.size) (hp : PkAt wr w.heap.size p (.slice a L c)) (hz : PkAt wr (w.heap.size + 1) zeroK (.slice none 0 0)) (ht : Turn F w wr) (hd : Same wr wd)
    (own5 : OwnH w5 0 (.slice (some ⟨g, 0, none⟩) (rs.length + 1) cap) (rs ++ [newR p (.slice a L c) now]))
    (grow5 : (wd.alloc (.cells #[.int .i64 p.kind, .int .i64 p.ttl, .int .i64 p.ident, .int .i64 p.src, .int .i64 p.dst, .int .i64 p.pos, .bool p.more, .slice a L c, .int .i64 now, .bool false, .slice none 0 0] 57)).grownBy w5 (Value.slice av k cv).ownBlock)
    (at5 : (Value.slice av k cv).ownBlock = some g ∨ g = wd.heap.size + 1) :
    AddSt w0 F pb t p (.slice a L c) now w rs (newR p (.slice a L c) now) [] (.slice (some ⟨g, 0, none⟩) (rs.length + 1) cap) (w5.setCell ⟨pb, 2, none⟩ (.slice (some ⟨g, 0, none⟩) (rs.length + 1) cap)) := by
  obtain ⟨n, rfl⟩ := hd
  have hw2 : w.heap.size + 2 ≤ wr.heap.size := by have := hz.lt; omega
  have szd : (wr.drewN n).heap.size = wr.heap.size := rfl
  have szA := grow5.size
  simp only [World.alloc, Array.size_push] at szA
  have hblk : ∀ j, j < wr.heap.size → (Value.slice av k cv).ownBlock ≠ some j → w5.heap[j]? = wr.heap[j]? := fun j hj hne => by
    rw [grow5.block j (by simp only [World.alloc, Array.size_push]; omega) (fun e => hne e.symm)]
    exact Below.heap_alloc (wr.drewN n) _ j hj
  have hblk2 : ∀ j, j < wr.heap.size → j ≠ pb → (Value.slice av k cv).ownBlock ≠ some j → (w5.setCell ⟨pb, 2, none⟩ (.slice (some ⟨g, 0, none⟩) (rs.length + 1) cap)).heap[j]? = wr.heap[j]? := fun j hj hp hne => by
    rw [heap_setCell_other w5 ⟨pb, 2, none⟩ j _ hp]; exact hblk j hj hne
  have hpl := h.lt
  have hpr : (Value.slice av k cv).ownBlock ≠ some pb := fun e => (h.frow pb e).2 rfl
  have hpo := (hblk pb hpl hpr).trans h.pool
  have hps := heap_setCell_same w5 pb 2 _ _ (.slice (some ⟨g, 0, none⟩) (rs.length + 1) cap) hpo
  have szs : (w5.setCell ⟨pb, 2, none⟩ (.slice (some ⟨g, 0, none⟩) (rs.length + 1) cap)).heap.size = w5.heap.size := by simp [World.setCell]
  have hgp : g ≠ pb := by
    rcases at5 with e | e
    · exact fun e2 => hpr (e2 ▸ e)
    · omega
  have hT5 : Turn F w (w5.setCell ⟨pb, 2, none⟩ (.slice (some ⟨g, 0, none⟩) (rs.length + 1) cap)) := by
    refine ht.andThen (G := Plus2 F w wr) ⟨?_, ?_, ?_, by omega, fun j hj hn => ?_⟩ (fun i hi => by
      rcases hi with hi | hi
      · exact .inl hi
      · exact .inr (by omega))
    · exact grow5.os
    · exact grow5.tape
    · exact grow5.output
    · exact hblk2 j hj (fun e => hn (e ▸ h.fpb)) (fun e => hn (h.frow j e).1)
  have nown : ∀ j, ¬ Plus2 F w wr j → (Value.slice av k cv).ownBlock ≠ some j := fun j hj e => hj (h.frow j e).1
  have nx : ¬ Plus2 F w wr w.heap.size := fun hx => by
    rcases hx with hx | hx
    · have := hF _ hx; omega
    · omega
  have nz : ¬ Plus2 F w wr (w.heap.size + 1) := fun hx => by
    rcases hx with hx | hx
    · have := hF _ hx; omega
    · omega
  refine AddSt.new h hno h8 ⟨_, _, _, rfl⟩ hnow hF hw2 hw0 ?_ ?_ (by omega) (fun j hj hp hne => hblk2 j hj hp hne) ?_ ?_ ?_ ?_ hT5
  · simpa using hps
  · refine own5.blk (fun j hj => ?_)
    have e : g = j := by simpa [Value.ownBlock] using hj
    subst e
    exact heap_setCell_other w5 ⟨pb, 2, none⟩ g _ hgp
  · rcases at5 with e | e
    · exact .inl (by rw [e]; rfl)
    · exact .inr (fun j hj => by
        have e2 : g = j := by simpa [Value.ownBlock] using hj
        omega)
  · exact Turn.below (F := Plus2 F w wr) h.bel h.bel.size ⟨hT5.os.trans ht.os.symm, hT5.tape.trans ht.tape.symm, hT5.output.trans ht.output.symm, by omega, fun j hj hn => hblk2 j hj (fun e => hn (e ▸ h.fpb)) (nown j hn)⟩ (fun j hj => Plus2.ge hF0 hw0 hj)
  · unfold PkAt
    rw [hblk2 w.heap.size (by omega) (fun e => nx (e ▸ h.fpb)) (nown _ nx)]; exact hp
  · unfold PkAt
    rw [hblk2 (w.heap.size + 1) (by omega) (fun e => nz (e ▸ h.fpb)) (nown _ nz)]; exact hz
/-- What is Add's state's heap. -/
theorem AddSt.shape (h : AddSt w0 F pb t p bv now w A r B lv ww) : ∃ g cap M, M = A.length + (B.length + 1) ∧ lv = .slice (some ⟨g, 0, none⟩) M cap ∧ g < ww.heap.size ∧ M ≤ cap ∧ cap ≤ 9223372036854775807 ∧ M ≤ 8 ∧ HpC ww g (A.length * 11) r ∧ (∀ j, ww.frozen? ⟨g, j, none⟩ = false) ∧ g ≠ pb ∧ Plus2 F w ww g := by
  obtain ⟨g, cap, hv, _, h2, h3, h4⟩ := h.pool.row.shape (by simp; omega)
  have hl : (A ++ r :: B).length = A.length + (B.length + 1) := by simp
  have hf := h.pool.ok.few
  simp only [List.length_map] at hf
  have hc := h.pool.row
  subst hv
  have hC := hc.cells A.length (by simp)
  have e9 : (A ++ r :: B)[A.length]'(by simp) = r := by simp
  rw [e9] at hC
  have hfr := h.pool.frow g rfl
  refine ⟨g, cap, _, rfl, by rw [hl], h2, by omega, by unfold maxLen at h4; exact h4, by omega, hC, fun j => ?_, hfr.2, hfr.1⟩
  rcases hc.2 with ⟨hx, _⟩ | ⟨g', cap', cur, hv, hbg, hh, _⟩
  · cases hx
  · simp only [Value.slice.injEq, Option.some.injEq, Addr.mk.injEq] at hv
    obtain ⟨⟨rfl, _⟩, _⟩ := hv
    exact frozen_of_row ww g j _ _ hh
def badR (r : Rh) : Rh := { r with h := { r.h with bad := true, all := [] } }
theorem AddSt.toBad {g cap M : Nat} (h : AddSt w0 F pb t p bv now w A r B (.slice (some ⟨g, 0, none⟩) M cap) ww) (hF : ∀ k, F k → k < w.heap.size) (hF0 : ∀ k, F k → w0.heap.size ≤ k) (hw0 : w0.heap.size ≤ w.heap.size) :
    RpIn w0 (ww.setCell ⟨g, A.length * 11 + 9, none⟩ (.bool true)) (Plus2 F w ww) pb { life := t.life, now := t.now, l := setH t.l { r.h with bad := true, all := [] } } (.slice (some ⟨g, 0, none⟩) M cap) (A ++ badR r :: B) ∧
    Turn F w (ww.setCell ⟨g, A.length * 11 + 9, none⟩ (.bool true)) ∧ Only g ww (ww.setCell ⟨g, A.length * 11 + 9, none⟩ (.bool true)) := by
  have hw2 : w.heap.size + 2 ≤ ww.heap.size := by have := h.pz.lt; omega
  have o : Only g ww (ww.setCell ⟨g, A.length * 11 + 9, none⟩ (.bool true)) := (Only.refl _ _).setCell _ _
  have hfr := h.pool.frow g rfl
  have hT : Turn (Plus2 F w ww) ww (ww.setCell ⟨g, A.length * 11 + 9, none⟩ (.bool true)) := Turn.of_only o hfr.1
  have hl : ({ life := t.life, now := t.now, l := setH t.l { r.h with bad := true, all := [] } } : Po) = { life := t.life, now := t.now, l := (A ++ badR r :: B).map Rh.h } := by
    rw [show ({ r.h with bad := true, all := [] } : Hp) = (badR r).h from rfl, h.set (badR r).h rfl]; simp
  have hrm : r ∈ A ++ r :: B := List.mem_append_right _ List.mem_cons_self
  have hrok := h.pool.rok hrm
  have sub : ∀ q, q ∈ A ∨ q ∈ B → q ∈ A ++ r :: B := fun q hq => by
    rcases hq with hq | hq
    · exact List.mem_append_left _ hq
    · exact List.mem_append_right _ (List.mem_cons_of_mem _ hq)
  have hap := h.pool.apart
  rw [List.pairwise_append, List.pairwise_cons] at hap
  have hno := h.pool.ok.apart
  simp only [List.map_append, List.map_cons] at hno
  refine ⟨?_, h.turn.andThen hT (fun i hi => by
    rcases hi with hi | hi
    · exact .inl hi
    · exact .inr (by omega)), o⟩
  rw [hl]
  refine h.pool.rerow (s := { life := t.life, now := t.now, l := (A ++ r :: B).map Rh.h }) ((o.block pb (Ne.symm hfr.2)).trans h.pool.pool) (h.pool.row.set 9 (by decide) (.bool true) rfl) ?_ (by rw [o.size]; exact Nat.le_refl _) (fun k hk => Plus2.lt hF hw2 hk) (fun k hk => hk) (fun k h1 h2 => by rw [o.size] at h2; omega) (fun k hk => Plus2.ge hF0 hw0 hk) (Turn.below h.pool.bel h.pool.bel.size hT (fun k hk => Plus2.ge hF0 hw0 hk)) (.inl rfl) (fun q hq => ?_) ?_
  · refine ⟨fun x hx => ?_, ?_, ?_⟩
    · obtain ⟨q, hq, rfl⟩ := List.mem_map.1 hx
      rcases List.mem_append.1 hq with h' | h'
      · exact h.pool.ok.each _ (List.mem_map.2 ⟨q, sub q (.inl h'), rfl⟩)
      · rcases List.mem_cons.1 h' with rfl | h'
        · exact ⟨GoodP.nil, fun _ => rfl, fun x hx => (by cases hx)⟩
        · exact h.pool.ok.each _ (List.mem_map.2 ⟨q, sub q (.inr h'), rfl⟩)
    · simp only [List.map_append, List.map_cons]
      rw [List.pairwise_append, List.pairwise_cons] at hno ⊢
      refine ⟨hno.1, ⟨hno.2.1.1, hno.2.1.2⟩, fun x hx y hy => ?_⟩
      rcases List.mem_cons.1 hy with rfl | hy
      · exact hno.2.2 x hx r.h List.mem_cons_self
      · exact hno.2.2 x hx y (List.mem_cons_of_mem _ hy)
    · have hf := h.pool.ok.few
      simp only [List.length_map, List.length_append, List.length_cons] at hf ⊢
      exact hf
  · rcases List.mem_append.1 hq with h' | h'
    · exact .inl ⟨sub q (.inl h'), fun hx k e => o.block k (fun e2 => (h.pool.fall q (sub q (.inl h')) hx k e).2.2 (by rw [e2]; rfl))⟩
    · rcases List.mem_cons.1 h' with rfl | h'
      · exact .inr ⟨hrok.slv, hrok.name, fun hx => (by cases hx), fun hx => (by cases hx), hrok.time, fun hx => (by cases hx)⟩
      · exact .inl ⟨sub q (.inr h'), fun hx k e => o.block k (fun e2 => (h.pool.fall q (sub q (.inr h')) hx k e).2.2 (by rw [e2]; rfl))⟩
  · rw [List.pairwise_append, List.pairwise_cons]
    refine ⟨hap.1, ⟨fun q hq h1 => (by cases h1), hap.2.1.2⟩, fun x hx y hy => ?_⟩
    rcases List.mem_cons.1 hy with rfl | hy
    · exact fun _ h2 => (by cases h2)
    · exact hap.2.2 x hx y (List.mem_cons_of_mem _ hy)
theorem AddSt.named (h : AddSt w0 F pb t p bv now w A r B lv ww) : r.h.name = nmOf p := by
  rw [h.is]
  rcases hg : getH t.l (nmOf p) with _ | y
  · rfl
  · exact (getH_some hg).2
def moreR (r : Rh) (p : Pk) (v2 bv : Value) : Rh := { r with h := { r.h with all := r.h.all ++ [p] }, av := v2, vs := r.vs ++ [bv] }
theorem AddSt.toMore {g cap M g2 n2 cap2 : Nat} {a : Option Addr} {L c : Nat} {wd w7 : World} (h : AddSt w0 F pb t p (.slice a L c) now w A r B (.slice (some ⟨g, 0, none⟩) M cap) ww) (hbad : r.h.bad = false) (hwr : wrongB r.h.all p = false) (he : pkErr p = 0)
    (hF : ∀ k, F k → k < w.heap.size) (hF0 : ∀ k, F k → w0.heap.size ≤ k) (hw0 : w0.heap.size ≤ w.heap.size) (hb0 : Bytes w0 (.slice a L c) p.body) (hd : Same ww wd)
    (own7 : OwnK w7 0 (.slice (some ⟨g2, 0, none⟩) n2 cap2) (r.h.all.zip r.vs ++ [(p, .slice a L c)]))
    (grow7 : (wd.alloc (.cells #[.int .i64 p.kind, .int .i64 p.ttl, .int .i64 p.ident, .int .i64 p.src, .int .i64 p.dst, .int .i64 p.pos, .bool p.more, .slice a L c] 40)).grownBy w7 r.av.ownBlock)
    (at7 : r.av.ownBlock = some g2 ∨ g2 = wd.heap.size + 1) :
    RpIn w0 (w7.setCell ⟨g, A.length * 11 + 10, none⟩ (.slice (some ⟨g2, 0, none⟩) n2 cap2)) (Plus2 F w (w7.setCell ⟨g, A.length * 11 + 10, none⟩ (.slice (some ⟨g2, 0, none⟩) n2 cap2))) pb { life := t.life, now := t.now, l := setH t.l { r.h with all := r.h.all ++ [p] } } (.slice (some ⟨g, 0, none⟩) M cap) (A ++ moreR r p (.slice (some ⟨g2, 0, none⟩) n2 cap2) (.slice a L c) :: B) ∧
    Turn F w (w7.setCell ⟨g, A.length * 11 + 10, none⟩ (.slice (some ⟨g2, 0, none⟩) n2 cap2)) ∧ PkAt (w7.setCell ⟨g, A.length * 11 + 10, none⟩ (.slice (some ⟨g2, 0, none⟩) n2 cap2)) w.heap.size p (.slice a L c) ∧ PkAt (w7.setCell ⟨g, A.length * 11 + 10, none⟩ (.slice (some ⟨g2, 0, none⟩) n2 cap2)) (w.heap.size + 1) zeroK (.slice none 0 0) ∧ GoodP (r.h.all ++ [p]) := by
  obtain ⟨n, rfl⟩ := hd
  have hw2 : w.heap.size + 2 ≤ ww.heap.size := by have := h.pz.lt; omega
  have szd : (ww.drewN n).heap.size = ww.heap.size := rfl
  have szA := grow7.size
  simp only [World.alloc, Array.size_push] at szA
  have hrm : r ∈ A ++ r :: B := List.mem_append_right _ List.mem_cons_self
  have hrok := h.pool.rok hrm
  have hfr := h.pool.frow g rfl
  have hga : r.av.ownBlock ≠ some g := fun e => (hrok.fall hbad g e).2.2 rfl
  have hpa : r.av.ownBlock ≠ some pb := fun e => (hrok.fall hbad pb e).2.1 rfl
  obtain ⟨W, hW⟩ : ∃ W, w7.setCell ⟨g, A.length * 11 + 10, none⟩ (.slice (some ⟨g2, 0, none⟩) n2 cap2) = W := ⟨_, rfl⟩
  have szs : W.heap.size = w7.heap.size := by rw [← hW]; simp [World.setCell]
  have hblk : ∀ j, j < ww.heap.size → r.av.ownBlock ≠ some j → w7.heap[j]? = ww.heap[j]? := fun j hj hne => by
    rw [grow7.block j (by simp only [World.alloc, Array.size_push]; omega) (fun e => hne e.symm)]
    exact Below.heap_alloc (ww.drewN n) _ j hj
  have hoth : ∀ j, j ≠ g → W.heap[j]? = w7.heap[j]? := fun j hj => by rw [← hW]; exact heap_setCell_other w7 ⟨g, A.length * 11 + 10, none⟩ j _ hj
  have hblk2 : ∀ j, j < ww.heap.size → j ≠ g → r.av.ownBlock ≠ some j → W.heap[j]? = ww.heap[j]? := fun j hj hg hne => (hoth j hg).trans (hblk j hj hne)
  have hlt2 : g < ww.heap.size := Plus2.lt hF hw2 hfr.1
  have hg2 : g2 ≠ g := by
    rcases at7 with e | e
    · exact fun e2 => hga (e2 ▸ e)
    · omega
  have h2w : g2 < w7.heap.size := (own7.block g2 rfl).2
  have nav : ∀ j, ¬ Plus2 F w ww j → r.av.ownBlock ≠ some j := fun j hj e => hj (hrok.fall hbad j e).1
  have hTw : Turn (Plus2 F w ww) ww W := by
    refine ⟨?_, ?_, ?_, by omega, fun j hj hn => hblk2 j hj (fun e => hn (e ▸ hfr.1)) (nav j hn)⟩
    · rw [← hW]; exact grow7.os
    · rw [← hW]; exact grow7.tape
    · rw [← hW]; exact grow7.output
  have nx : ¬ Plus2 F w ww w.heap.size := fun hx => by
    rcases hx with hx | hx
    · have := hF _ hx; omega
    · omega
  have nz : ¬ Plus2 F w ww (w.heap.size + 1) := fun hx => by
    rcases hx with hx | hx
    · have := hF _ hx; omega
    · omega
  have hrow : OwnH W 0 (.slice (some ⟨g, 0, none⟩) M cap) (A ++ moreR r p (.slice (some ⟨g2, 0, none⟩) n2 cap2) (.slice a L c) :: B) := by
    have h1 : OwnH w7 0 (.slice (some ⟨g, 0, none⟩) M cap) (A ++ r :: B) := h.pool.row.blk (fun j hj => by
      have e : g = j := by simpa [Value.ownBlock] using hj
      subst e
      exact hblk g hlt2 hga)
    rw [← hW]
    exact h1.set 10 (by decide) _ rfl
  have hok := h.pool.ok.each r.h (List.mem_map.2 ⟨r, hrm, rfl⟩)
  have hpos := (of_pkIn (pkErr_ok he).1).2.2.2.2.2
  have hgood := hok.good.snoc (x := p) (by omega) hwr
  have hnm := h.named
  have hl : ({ life := t.life, now := t.now, l := setH t.l { r.h with all := r.h.all ++ [p] } } : Po) = { life := t.life, now := t.now, l := (A ++ moreR r p (.slice (some ⟨g2, 0, none⟩) n2 cap2) (.slice a L c) :: B).map Rh.h } := by
    rw [show ({ r.h with all := r.h.all ++ [p] } : Hp) = (moreR r p (.slice (some ⟨g2, 0, none⟩) n2 cap2) (.slice a L c)).h from rfl, h.set (moreR r p (.slice (some ⟨g2, 0, none⟩) n2 cap2) (.slice a L c)).h rfl]; simp
  have sub : ∀ q, q ∈ A ∨ q ∈ B → q ∈ A ++ r :: B := fun q hq => by
    rcases hq with hq | hq
    · exact List.mem_append_left _ hq
    · exact List.mem_append_right _ (List.mem_cons_of_mem _ hq)
  have hap := h.pool.apart
  rw [List.pairwise_append, List.pairwise_cons] at hap
  have hno := h.pool.ok.apart
  simp only [List.map_append, List.map_cons] at hno
  have hkeep : ∀ q, q ∈ A ∨ q ∈ B → q.h.bad = false → ∀ k, q.av.ownBlock = some k → W.heap[k]? = ww.heap[k]? := fun q hq hx k e => by
    obtain ⟨f1, f2, f3⟩ := h.pool.fall q (sub q hq) hx k e
    refine hblk2 k (Plus2.lt hF hw2 f1) (fun e2 => f3 (by rw [e2]; rfl)) (fun e2 => ?_)
    rcases hq with hq | hq
    · exact hap.2.2 q hq r List.mem_cons_self hx hbad k e e2
    · exact hap.2.1.1 q hq hbad hx k e2 e
  have hag : ∀ q, q ∈ A ∨ q ∈ B → q.h.bad = false → ∀ k, q.av.ownBlock = some k → g2 ≠ k := fun q hq hx k e e3 => by
    obtain ⟨f1, f2, f3⟩ := h.pool.fall q (sub q hq) hx k e
    rcases at7 with e2 | e2
    · rw [e3] at e2
      rcases hq with hq | hq
      · exact hap.2.2 q hq r List.mem_cons_self hx hbad k e e2
      · exact hap.2.1.1 q hq hbad hx k e2 e
    · have := Plus2.lt hF hw2 f1
      omega
  rw [hW]
  refine ⟨?_, h.turn.andThen hTw (fun i hi => by
    rcases hi with hi | hi
    · exact .inl hi
    · exact .inr (by omega)), ?_, ?_, hgood⟩
  · rw [hl]
    refine h.pool.rerow (s := { life := t.life, now := t.now, l := (A ++ r :: B).map Rh.h }) ((hblk2 pb h.pool.lt (Ne.symm hfr.2) hpa).trans h.pool.pool) hrow ?_ (by omega) (fun k hk => Plus2.lt hF hw2 hk) (fun k hk => Plus2.mono (by omega) hk) (fun k h1 h2 => .inr ⟨by omega, h2⟩) (fun k hk => Plus2.ge hF0 hw0 hk) (Turn.below h.pool.bel h.pool.bel.size hTw (fun k hk => Plus2.ge hF0 hw0 hk)) (.inl rfl) (fun q hq => ?_) ?_
    · refine ⟨fun x hx => ?_, ?_, ?_⟩
      · obtain ⟨q, hq, rfl⟩ := List.mem_map.1 hx
        rcases List.mem_append.1 hq with h' | h'
        · exact h.pool.ok.each _ (List.mem_map.2 ⟨q, sub q (.inl h'), rfl⟩)
        · rcases List.mem_cons.1 h' with rfl | h'
          · refine ⟨hgood, fun hx => ?_, fun x hx => ?_⟩
            · have : r.h.bad = true := hx
              rw [hbad] at this; cases this
            · rcases List.mem_append.1 hx with h9 | h9
              · exact hok.kin x h9
              · rw [List.mem_singleton.1 h9]; exact ⟨hnm.symm, he⟩
          · exact h.pool.ok.each _ (List.mem_map.2 ⟨q, sub q (.inr h'), rfl⟩)
      · simp only [List.map_append, List.map_cons]
        rw [List.pairwise_append, List.pairwise_cons] at hno ⊢
        refine ⟨hno.1, ⟨hno.2.1.1, hno.2.1.2⟩, fun x hx y hy => ?_⟩
        rcases List.mem_cons.1 hy with rfl | hy
        · exact hno.2.2 x hx r.h List.mem_cons_self
        · exact hno.2.2 x hx y (List.mem_cons_of_mem _ hy)
      · have hf := h.pool.ok.few
        simp only [List.length_map, List.length_append, List.length_cons] at hf ⊢
        exact hf
    · rcases List.mem_append.1 hq with h' | h'
      · exact .inl ⟨sub q (.inl h'), hkeep q (.inl h')⟩
      · rcases List.mem_cons.1 h' with rfl | h'
        · have hz : (r.h.all ++ [p]).zip (r.vs ++ [Value.slice a L c]) = r.h.all.zip r.vs ++ [(p, .slice a L c)] := by
            rw [List.zip_append (hrok.all hbad).2.symm]; rfl
          refine .inr ⟨⟨hrok.slv.1, _, _, _, rfl⟩, hrok.name, fun _ => ⟨?_, ?_⟩, fun _ x hx => ?_, hrok.time, fun _ k e => ?_⟩
          · show OwnK W 0 _ ((r.h.all ++ [p]).zip (r.vs ++ [Value.slice a L c]))
            rw [hz]
            exact own7.blk (fun j hj => by
              have e : g2 = j := by simpa [Value.ownBlock, moreR] using hj
              subst e
              exact hoth g2 hg2)
          · show (r.vs ++ [Value.slice a L c]).length = (r.h.all ++ [p]).length
            have := (hrok.all hbad).2
            simp only [List.length_append, List.length_singleton]; omega
          · have hx' : x ∈ (r.h.all ++ [p]).zip (r.vs ++ [Value.slice a L c]) := hx
            rw [hz] at hx'
            rcases List.mem_append.1 hx' with h9 | h9
            · exact hrok.body hbad x h9
            · rw [List.mem_singleton.1 h9]; exact hb0
          · have e2 : g2 = k := by simpa [Value.ownBlock, moreR] using e
            subst e2
            refine ⟨?_, ?_, fun e3 => ?_⟩
            · rcases at7 with e4 | e4
              · exact Plus2.mono (by omega) (hrok.fall hbad g2 e4).1
              · exact .inr ⟨by omega, by omega⟩
            · rcases at7 with e4 | e4
              · exact (hrok.fall hbad g2 e4).2.1
              · have := h.pool.lt; omega
            · have : g = g2 := by simpa [Value.ownBlock] using e3
              omega
        · exact .inl ⟨sub q (.inr h'), hkeep q (.inr h')⟩
    · rw [List.pairwise_append, List.pairwise_cons]
      refine ⟨hap.1, ⟨fun q hq _ h2 k e e2 => ?_, hap.2.1.2⟩, fun x hx y hy => ?_⟩
      · have : g2 = k := by simpa [Value.ownBlock, moreR] using e
        exact hag q (.inr hq) h2 k e2 this
      · rcases List.mem_cons.1 hy with rfl | hy
        · intro h1 _ k e e2
          have : g2 = k := by simpa [Value.ownBlock, moreR] using e2
          exact hag x (.inl hx) h1 k e this
        · exact hap.2.2 x hx y (List.mem_cons_of_mem _ hy)
  · unfold PkAt
    rw [hblk2 w.heap.size (by omega) (fun e => nx (e ▸ hfr.1)) (nav _ nx)]; exact h.px
  · unfold PkAt
    rw [hblk2 (w.heap.size + 1) (by omega) (fun e => nz (e ▸ hfr.1)) (nav _ nz)]; exact h.pz
/-- One heap is cut out. -/
theorem RpIn.cut {s : Po} {wa wb : World} {v8 : Value} (h : RpIn w0 wa (Plus2 F w wa) pb s lv (A ++ r :: B)) (hown : OwnH wb wa.heap.size v8 (A ++ B)) (hb : Below wa.heap.size wa wb) (hw2 : w.heap.size + 2 ≤ wa.heap.size)
    (hF : ∀ k, F k → k < w.heap.size) (hF0 : ∀ k, F k → w0.heap.size ≤ k) (hw0 : w0.heap.size ≤ w.heap.size) :
    RpIn w0 (wb.setCell ⟨pb, 2, none⟩ v8) (Plus2 F w wb) pb { life := s.life, now := s.now, l := (A ++ B).map Rh.h } v8 (A ++ B) ∧ Turn (Plus2 F w wa) wa (wb.setCell ⟨pb, 2, none⟩ v8) := by
  have hpl := h.lt
  have hpo := (hb.block pb hpl).trans h.pool
  have hps := heap_setCell_same wb pb 2 _ _ v8 hpo
  have szs : (wb.setCell ⟨pb, 2, none⟩ v8).heap.size = wb.heap.size := by simp [World.setCell]
  have hbs := hb.size
  have hblk : ∀ j, j < wa.heap.size → j ≠ pb → (wb.setCell ⟨pb, 2, none⟩ v8).heap[j]? = wa.heap[j]? := fun j hj hp => (heap_setCell_other wb ⟨pb, 2, none⟩ j v8 hp).trans (hb.block j hj)
  have hT : Turn (Plus2 F w wa) wa (wb.setCell ⟨pb, 2, none⟩ v8) := ⟨hb.os, hb.tape, hb.output, by omega, fun j hj hn => hblk j hj (fun e => hn (e ▸ h.fpb))⟩
  have sub : ∀ q, q ∈ A ++ B → q ∈ A ++ r :: B := fun q hq => by
    rcases List.mem_append.1 hq with hq | hq
    · exact List.mem_append_left _ hq
    · exact List.mem_append_right _ (List.mem_cons_of_mem _ hq)
  have hsl : (A ++ B).Sublist (A ++ r :: B) := List.Sublist.append (List.Sublist.refl _) (List.sublist_cons_self _ _)
  refine ⟨h.rerow (by simpa using hps) ?_ ?_ (by omega) (fun k hk => Plus2.lt hF hw2 hk) (fun k hk => Plus2.mono hbs hk) (fun k h1 h2 => .inr ⟨by omega, by omega⟩) (fun k hk => Plus2.ge hF0 hw0 hk) (Turn.below h.bel h.bel.size hT (fun k hk => Plus2.ge hF0 hw0 hk)) (.inr (fun k hk => (hown.block k hk).1)) (fun q hq => .inl ⟨sub q hq, fun hx k e => ?_⟩) (h.apart.sublist hsl), hT⟩
  · exact (hown.blk (fun j hj => heap_setCell_other wb ⟨pb, 2, none⟩ j v8 (fun e => by have := (hown.block j hj).1; have e' : j = pb := e; omega))).baseLe (Nat.zero_le _)
  · refine ⟨fun x hx => ?_, ?_, ?_⟩
    · obtain ⟨q, hq, rfl⟩ := List.mem_map.1 hx
      exact h.ok.each _ (by rw [← h.list]; exact List.mem_map.2 ⟨q, sub q hq, rfl⟩)
    · have ha := h.ok.apart
      rw [← h.list] at ha
      exact ha.sublist (hsl.map _)
    · have hf := h.ok.few
      rw [← h.list, List.length_map] at hf
      show ((A ++ B).map Rh.h).length ≤ 8
      rw [List.length_map]
      exact Nat.le_trans hsl.length_le hf
  · obtain ⟨f1, f2, _⟩ := h.fall q (sub q hq) hx k e
    exact hblk k (Plus2.lt hF hw2 f1) f2
/-- What lies in a heap, as packets. -/
theorem OwnK.packs {w : World} {base : Nat} {v : Value} {qs : List (Pk × Value)} (h : OwnK w base v qs) (hb : ∀ q ∈ qs, Bytes w q.2 q.1.body) : Packs w v qs := by
  rcases Nat.eq_zero_or_pos qs.length with h0 | h0
  · obtain ⟨a, c, hv⟩ := h.len
    rw [h0] at hv
    exact .inl ⟨List.eq_nil_of_length_eq_zero h0, a, c, hv⟩
  · obtain ⟨g, cap, hv, _, _, h3, h4⟩ := h.shape h0
    subst hv
    exact .inr ⟨g, 0, _, cap, rfl, h3, h4, rfl, fun i hi => by rw [Nat.zero_add]; exact h.cells i hi (hb _ (List.getElem_mem _))⟩
theorem zip_fst {all : List Pk} {vs : List Value} (h : vs.length = all.length) : (all.zip vs).map Prod.fst = all := List.map_fst_zip (by omega)
theorem AddSt.wrong {a : Option Addr} {L c : Nat} (h : AddSt w0 F pb t p (.slice a L c) now w A r B lv ww) (hbad : r.h.bad = false) (he : pkErr p = 0) (hb0 : Bytes w0 (.slice a L c) p.body) :
    Calls Tryd.prog 18 #[r.av, pkV p (.slice a L c)] ww.drew fun e w' => e = .returned (.bool (wrongB r.h.all p)) ∧ Below ww.heap.size ww w' := by
  have hrm : r ∈ A ++ r :: B := List.mem_append_right _ List.mem_cons_self
  have hrok := h.pool.rok hrm
  have hok := h.pool.ok.each r.h (List.mem_map.2 ⟨r, hrm, rfl⟩)
  have bd : Below w0.heap.size w0 ww.drew := below_drewN h.pool.bel 1
  have hp : Packs ww.drew r.av (r.h.all.zip r.vs) := OwnK.packs ((hrok.all hbad).1.drewN 1) (fun q hq => (hrok.body hbad q hq).below (Nat.le_refl _) bd)
  have inp : ∀ x, pkErr x = 0 → 0 ≤ x.pos ∧ x.pos ≤ 32767 ∧ x.body.length ≤ 4000 := fun x hx => by
    have h1 := (of_pkIn (pkErr_ok hx).1).2.2.2.2.2
    have h2 := (pkErr_ok hx).2
    omega
  have := refWrong_any r.av (r.h.all.zip r.vs) p (.slice a L c) ww.drew hp (fun q hq => inp q.1 (hok.kin q.1 (List.of_mem_zip hq).1).2) (hb0.below (Nat.le_refl _) bd) (inp p he)
  rw [zip_fst (hrok.all hbad).2] at this
  refine this.mono ?_
  rintro e w' ⟨rfl, hb⟩
  exact ⟨rfl, bel4R ww hb⟩
theorem grown_cell {wr wd w5 : World} {o : Obj} {row : Option Nat} (hd : Same wr wd) (hg : (wd.alloc o).grownBy w5 row) {q : Addr} (hq : q.block < wr.heap.size) (hne : row ≠ some q.block) : w5.cell? q = wr.cell? q ∧ w5.frozen? q = wr.frozen? q := by
  obtain ⟨n, rfl⟩ := hd
  have e : w5.heap[q.block]? = wr.heap[q.block]? := by
    rw [hg.block q.block (by simp only [World.alloc, Array.size_push]; exact Nat.lt_succ_of_lt hq) (fun e => hne e.symm)]
    exact Below.heap_alloc (wr.drewN n) o q.block hq
  exact ⟨World.cell?_of_block e, World.frozen?_of_block e⟩
end
end Go.Proofs.YtgodjaffmojhlaaDoor
