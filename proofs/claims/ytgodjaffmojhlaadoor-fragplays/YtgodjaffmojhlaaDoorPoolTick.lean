/- What Tick of package frag does to a pool, and returns, for every pool and every time. -/
import Derived.Test.YtgodjaffmojhlaaDoorPoolAt
import Derived.Test.YtgodjaffmojhlaaDoorPoolDel
import Derived.Deep.RegionHeld3
import Derived.BigQuiet
namespace Go.Proofs.YtgodjaffmojhlaaDoor
open Go.RowKit Go.Maps
set_option linter.unusedVariables false

theorem began_cell {w : World} {g : Gb} (h : GrpAt w g) : w.cell? ⟨g.b, 0, none⟩ = some (.int .i64 g.h.began) := by
  rcases hb : g.h.bad with _ | _
  · rw [cell_of_row w g.b 0 _ _ _ (h.good hb)]; rfl
  · rw [cell_of_row w g.b 0 _ _ _ (h.bad hb)]; rfl
set_option maxHeartbeats 4000000 in
/-- What Tick's predicate says of a group. -/
theorem old_any (n : Nm) (gb nb lb pb : Nat) (began now life : Int) (W : World) (hb : W.cell? ⟨gb, 0, none⟩ = some (.int .i64 began)) (hn : W.cell? ⟨nb, 0, none⟩ = some (.int .i64 now)) (hl : W.cell? ⟨lb, 0, none⟩ = some (ptrV pb)) (hp : W.cell? ⟨pb, 0, none⟩ = some (.int .i64 life))
    (b0 : 0 ≤ began ∧ began ≤ 1000000) (n0 : 0 ≤ now ∧ now ≤ 1000000) :
    Calls Tryd.prog 16 #[nmV n, ptrV gb, ptrV nb, ptrV lb] W fun e w' => e = .returned (.bool (decide (life ≤ now - began))) ∧ W.grownBy w' none := by
  unfold nmV ptrV at *
  have bw := World.grownBy_alloc W (.cells #[.int .i64 n.kind, .int .i64 n.src, .int .i64 n.dst, .int .i64 n.ident] 61) none
  have HB : Hid (W.grownBy (W.alloc (.cells #[.int .i64 n.kind, .int .i64 n.src, .int .i64 n.dst, .int .i64 n.ident] 61)) none) := bw
  have lt : ∀ {q : Nat} {v : Value}, W.cell? ⟨q, 0, none⟩ = some v → q < W.heap.size := fun {q v} h => by
    rcases Nat.lt_or_ge q W.heap.size with h1 | h1
    · exact h1
    · simp [World.cell?, Array.getElem?_eq_none h1] at h
  have B1 : Below W.heap.size W (W.alloc (.cells #[.int .i64 n.kind, .int .i64 n.src, .int .i64 n.dst, .int .i64 n.ident] 61)) := (Below.refl _ _).alloc (Nat.le_refl _) _
  have hb' := (B1.cell (p := ⟨gb, 0, none⟩) (lt hb)).trans hb
  have hn' := (B1.cell (p := ⟨nb, 0, none⟩) (lt hn)).trans hn
  have hl' := (B1.cell (p := ⟨lb, 0, none⟩) (lt hl)).trans hl
  have hp' := (B1.cell (p := ⟨pb, 0, none⟩) (lt hp)).trans hp
  have HZ : Hid (∀ k, W.grownBy ((W.alloc (.cells #[.int .i64 n.kind, .int .i64 n.src, .int .i64 n.dst, .int .i64 n.ident] 61)).drewN k) none) := fun k => ⟨bw.os, bw.tape, bw.output, bw.size, bw.block⟩
  clear hb hn hl hp lt B1 bw
  go_enter Tryd.func16, Tryd.ntmps16
  go_upto_region 1 with fail
  obtain ⟨W2, hW2⟩ : ∃ W2, W.alloc (.cells #[.int .i64 n.kind, .int .i64 n.src, .int .i64 n.dst, .int .i64 n.ident] 61) = W2 := ⟨_, rfl⟩
  rw [hW2] at hb' hn' hl' hp' HZ ⊢
  clear hW2 HB
  by_cases hold : life ≤ now - began
  · have HO : Hid (decide (life ≤ now - began) = true) := decide_eq_true hold
    go_big_quiet (fail)
    go_wp2_with fail
    go_ret
    exact ⟨by rw [HO.out]; rfl, HZ.out _⟩
  · have HO : Hid (decide (life ≤ now - began) = false) := decide_eq_false hold
    go_big_quiet (fail)
    go_wp2_with fail
    go_ret
    exact ⟨by rw [HO.out]; rfl, HZ.out _⟩
def ptrB : Value → Nat
  | .pointer (some a) => a.block
  | _ => 0
def oldV (life now : Int) (gs : List Gb) (kl : Lit) (v : Value) : Bool := gs.any fun g => (g.b == ptrB v) && oldB life now g.h
theorem oldV_of {life now : Int} {gs : List Gb} (hb : gs.Pairwise fun g h => g.b ≠ h.b) {g : Gb} (hg : g ∈ gs) (kl : Lit) : oldV life now gs kl (ptrV g.b) = oldB life now g.h := by
  unfold oldV ptrV ptrB
  simp only
  induction gs with
  | nil => cases hg
  | cons a r ih =>
    rw [List.pairwise_cons] at hb
    rw [List.any_cons]
    rcases List.mem_cons.1 hg with rfl | hg'
    · have h0 : r.any (fun x => (x.b == g.b) && oldB life now x.h) = false := by
        rw [List.any_eq_false]
        intro x hx
        have := hb.1 x hx
        simp [Ne.symm this]
      rw [h0]; simp
    · have hne : (a.b == g.b) = false := by rw [beq_eq_false_iff_ne]; exact hb.1 g hg'
      rw [hne, Bool.false_and, Bool.false_or]
      exact ih hb.2 hg'
theorem grps_struck {life now : Int} {gs : List Gb} (hb : gs.Pairwise fun g h => g.b ≠ h.b) : ((grpsL gs).filter fun x => !oldV life now gs x.1 x.2) = grpsL (gs.filter fun g => !oldB life now g.h) := by
  unfold grpsL
  rw [List.filter_map]
  congr 1
  refine List.filter_congr (fun g hg => ?_)
  simp only [Function.comp]
  rw [oldV_of hb hg]
theorem PoolIn.ticked {w w' : World} {F : Nat → Prop} {pb : Nat} {s : Po} {mb : Nat} {gs : List Gb} {now : Int} (h : PoolIn w F pb s mb gs) (hE : tickE s now = 0)
    (hp : w'.heap[pb]? = some (.cells #[.int .i64 s.life, .int .i64 now, .map (some mb)] 53 (0, 0))) (hm : MapIs Tryd.prog 61 w' mb (grpsL (gs.filter fun g => !oldB s.life now g.h)))
    (hk : ∀ k, F k → k ≠ pb → k ≠ mb → w'.heap[k]? = w.heap[k]?) : PoolIn w' F pb (tickS s now) mb (gs.filter fun g => !oldB s.life now g.h) := by
  have hn : 0 ≤ now ∧ now ≤ 1000000 := by
    unfold tickE at hE
    split at hE
    · cases hE
    · omega
  have hS : tickS s now = { life := s.life, now := now, l := s.l.filter fun h => !oldB s.life now h } := by unfold tickS; rw [if_pos hE]
  have hsub : ∀ g ∈ gs.filter (fun g => !oldB s.life now g.h), g ∈ gs := fun g hg => (List.mem_filter.1 hg).1
  have nogrp : ∀ g ∈ gs, g.b ≠ pb ∧ g.b ≠ mb := by
    intro g hg
    have hgc : ∃ cs, w.heap[g.b]? = some (.cells cs 65 (0, 0)) := by
      rcases hb : g.h.bad with _ | _
      · exact ⟨_, (h.each g hg).good hb⟩
      · exact ⟨_, (h.each g hg).bad hb⟩
    obtain ⟨cs, hcs⟩ := hgc
    refine ⟨fun e => ?_, fun e => ?_⟩
    · have := h.pool; rw [← e, hcs] at this; simp at this
    · exact (e ▸ h.map).not_cells hcs
  refine ⟨?_, hm, ?_, fun g hg => (h.each g (hsub g hg)).keep (hk _ (h.fgs g (hsub g hg)).1 (nogrp g (hsub g hg)).1 (nogrp g (hsub g hg)).2) (fun hx => ?_), h.ok.tick now, fun g hg => h.names g (hsub g hg), ⟨?_, ?_, fun g hg => h.times.2.2 g (hsub g hg)⟩, h.fpb, h.fmb, fun g hg => h.fgs g (hsub g hg), h.bs.filter _, h.ms.filter _, fun g hg => h.mm g (hsub g hg)⟩
  · rw [hS]; exact hp
  · rw [hS]
    show (gs.filter fun g => !oldB s.life now g.h).map Gb.h = s.l.filter fun h => !oldB s.life now h
    rw [← h.list, List.filter_map]; rfl
  · have hx1 := (h.fgs g (hsub g hg)).2 hx
    have hmp := (h.each g (hsub g hg)).map hx
    refine ⟨hk _ hx1.1 (fun e => ?_) (h.mm g (hsub g hg) hx), fun v hv k hvk => hk _ (hx1.2 v hv k hvk) (fun e => ?_) (fun e => ?_)⟩
    · exact (e ▸ hmp).not_cells h.pool
    · have hlen := (h.each g (hsub g hg)).len hx
      obtain ⟨i, hi, rfl⟩ := List.getElem_of_mem hv
      have hz : ((g.h.all)[i]'(by omega), g.vs[i]) ∈ g.h.all.zip g.vs := by
        rw [← List.getElem_zip (h := by simp; omega)]; exact List.getElem_mem _
      have ho := (h.each g (hsub g hg)).body hx _ hz
      rcases ho.1.2 with ⟨h1, _⟩ | ⟨q, cap, cur, h1, _, hh, _⟩
      · simp only at h1; rw [h1] at hvk; cases hvk
      · simp only at h1; rw [h1] at hvk
        have : q = k := by simpa [Value.ownBlock] using hvk
        subst this
        have hpo := h.pool
        rw [← e, hh] at hpo; simp at hpo
    · have hlen := (h.each g (hsub g hg)).len hx
      obtain ⟨i, hi, rfl⟩ := List.getElem_of_mem hv
      have hz : ((g.h.all)[i]'(by omega), g.vs[i]) ∈ g.h.all.zip g.vs := by
        rw [← List.getElem_zip (h := by simp; omega)]; exact List.getElem_mem _
      have ho := (h.each g (hsub g hg)).body hx _ hz
      rcases ho.1.2 with ⟨h1, _⟩ | ⟨q, cap, cur, h1, _, hh, _⟩
      · simp only at h1; rw [h1] at hvk; cases hvk
      · simp only at h1; rw [h1] at hvk
        have : q = k := by simpa [Value.ownBlock] using hvk
        subst this
        exact (e ▸ h.map).not_cells hh
  · rw [hS]; exact h.times.1
  · rw [hS]; exact hn
/-- What Tick leaves and answers. -/
def Ticks (F : Nat → Prop) (pb : Nat) (s : Po) (now : Int) (w : World) (e : Ending) (w' : World) : Prop :=
  e = .returned (.tuple #[.int .i64 ((s.l.length : Int) - ((tickS s now).l.length : Int)), errV (tickE s now)]) ∧ PoolAt w' F pb (tickS s now) ∧ Turn F w w'
theorem pool_cells {w : World} {F : Nat → Prop} {pb : Nat} {s : Po} {mb : Nat} {gs : List Gb} (h : PoolIn w F pb s mb gs) :
    w.cell? ⟨pb, 0, none⟩ = some (.int .i64 s.life) ∧ w.cell? ⟨pb, 1, none⟩ = some (.int .i64 s.now) ∧ w.cell? ⟨pb, 2, none⟩ = some (.map (some mb)) ∧ w.frozen? ⟨pb, 1, none⟩ = false := by
  refine ⟨?_, ?_, ?_, frozen_of_row w pb 1 _ _ h.pool⟩ <;> (rw [cell_of_row w pb _ _ _ _ h.pool]; rfl)
theorem tick_boxes {w : World} {F : Nat → Prop} {pb : Nat} {s : Po} {mb : Nat} {gs : List Gb} (h : PoolIn w F pb s mb gs) (hF : ∀ k, F k → k < w.heap.size) (now : Int) :
    Below w.heap.size w ((w.alloc (.cells #[.pointer (some ⟨pb, 0, none⟩)] 24)).alloc (.cells #[.int .i64 now] 3)) ∧ ((w.alloc (.cells #[.pointer (some ⟨pb, 0, none⟩)] 24)).alloc (.cells #[.int .i64 now] 3)).cell? ⟨w.heap.size, 0, none⟩ = some (.pointer (some ⟨pb, 0, none⟩)) ∧ ((w.alloc (.cells #[.pointer (some ⟨pb, 0, none⟩)] 24)).alloc (.cells #[.int .i64 now] 3)).cell? ⟨w.heap.size + 1, 0, none⟩ = some (.int .i64 now) ∧ PoolIn ((w.alloc (.cells #[.pointer (some ⟨pb, 0, none⟩)] 24)).alloc (.cells #[.int .i64 now] 3)) F pb s mb gs ∧ ((w.alloc (.cells #[.pointer (some ⟨pb, 0, none⟩)] 24)).alloc (.cells #[.int .i64 now] 3)).heap.size = w.heap.size + 2 := by
  have hB : Below w.heap.size w ((w.alloc (.cells #[.pointer (some ⟨pb, 0, none⟩)] 24)).alloc (.cells #[.int .i64 now] 3)) := ((Below.refl _ _).alloc (Nat.le_refl _) _).alloc (by simp) _
  have h0 : (w.alloc (.cells #[.pointer (some ⟨pb, 0, none⟩)] 24)).heap[w.heap.size]? = _ := heap_alloc_new w (.cells #[.pointer (some ⟨pb, 0, none⟩)] 24)
  have h0' : ((w.alloc (.cells #[.pointer (some ⟨pb, 0, none⟩)] 24)).alloc (.cells #[.int .i64 now] 3)).heap[w.heap.size]? = some (.cells #[.pointer (some ⟨pb, 0, none⟩)] 24 (0, 0)) := by
    have := Below.heap_alloc (w.alloc (.cells #[.pointer (some ⟨pb, 0, none⟩)] 24)) (.cells #[.int .i64 now] 3) w.heap.size (by simp)
    rw [this]; exact h0
  have h1 : ((w.alloc (.cells #[.pointer (some ⟨pb, 0, none⟩)] 24)).alloc (.cells #[.int .i64 now] 3)).heap[w.heap.size + 1]? = some (.cells #[.int .i64 now] 3 (0, 0)) := by
    have := heap_alloc_new (w.alloc (.cells #[.pointer (some ⟨pb, 0, none⟩)] 24)) (.cells #[.int .i64 now] 3)
    simpa using this
  refine ⟨hB, ?_, ?_, h.below hF hB, by simp⟩
  · rw [cell_of_row _ _ 0 _ _ _ h0']; rfl
  · rw [cell_of_row _ _ 0 _ _ _ h1]; rfl
theorem len_grps (gs : List Gb) : (grpsL gs).length = gs.length := by simp [grpsL]

set_option maxRecDepth 100000 in
set_option maxHeartbeats 8000000 in
theorem tick_no (F : Nat → Prop) (pb : Nat) (s : Po) (now : Int) (w : World) (hP : PoolAt w F pb s) (hF : ∀ k, F k → k < w.heap.size) (hE : ¬ tickE s now = 0) :
    Calls Tryd.prog 7 #[ptrV pb, .int .i64 now] w (Ticks F pb s now w) := by
  obtain ⟨mb, gs, hin⟩ := hP
  obtain ⟨B2, c0, c1, hin2, hsz⟩ := tick_boxes hin hF now
  have HE : Hid (¬ tickE s now = 0) := hE
  unfold ptrV
  go_enter Tryd.func7, Tryd.ntmps7
  go_upto_region 1 with fail
  obtain ⟨W2, hW2⟩ : ∃ W2, ((w.alloc (.cells #[.pointer (some ⟨pb, 0, none⟩)] 24)).alloc (.cells #[.int .i64 now] 3)) = W2 := ⟨_, rfl⟩
  rw [hW2] at B2 c0 c1 hin2 hsz ⊢
  obtain ⟨p0, p1, p2, f1⟩ := pool_cells hin2
  have hmv := move_any pb 1 s.now now W2.drew p1 f1
  have hmv2 : Calls Tryd.prog 14 #[.pointer (some ⟨pb, 1, none⟩), .int .i64 now] W2.drew fun e w3 => e = .returned (.iface 48 (.int .i64 (tickE s now))) ∧ Same W2 w3 := by
    refine hmv.mono ?_
    rintro e w3 ⟨rfl, rfl⟩
    unfold tickE at hE ⊢
    by_cases h1 : now < 0 ∨ 1000000 < now
    · rw [if_pos h1, if_pos h1]; exact ⟨rfl, ⟨1, rfl⟩⟩
    · rw [if_neg h1] at hE
      rw [if_neg h1, if_neg h1]
      by_cases h2 : now < s.now
      · rw [if_pos h2, if_pos h2]; exact ⟨rfl, ⟨1, rfl⟩⟩
      · rw [if_neg h2] at hE; exact absurd rfl hE
  have HB2 : Hid (Below w.heap.size w W2) := B2
  have HIN : Hid (PoolIn W2 F pb s mb gs) := hin2
  have hS : W2.cell? ⟨w.heap.size, 0, none⟩ = some (.pointer (some ⟨pb, 0, none⟩)) ∧ W2.cell? ⟨w.heap.size + 1, 0, none⟩ = some (.int .i64 now) := ⟨c0, c1⟩
  generalize hn : tickE s now = n at hmv2
  have HN : Hid (tickE s now = n) := hn
  clear hmv hW2 B2 hin hin2 p0 p1 p2 f1 hsz hE hn
  go_region_held3 (fun X => X.cell? ⟨w.heap.size, 0, none⟩ = some (.pointer (some ⟨pb, 0, none⟩)) ∧ X.cell? ⟨w.heap.size + 1, 0, none⟩ = some (.int .i64 now)) (with_reducible first | assumption | go_keep) (first
    | (go_at_call 14; refine hmv2.mono ?_; rintro e w3 ⟨rfl, hs3⟩; have hS3 : w3.cell? ⟨w.heap.size, 0, none⟩ = some (.pointer (some ⟨pb, 0, none⟩)) ∧ w3.cell? ⟨w.heap.size + 1, 0, none⟩ = some (.int .i64 now) := (by obtain ⟨q, rfl⟩ := hs3; exact ⟨c0, c1⟩)))
  have HS3 : Hid (Same W2 w3) := hs3
  clear hs3 hmv2 hS
  go_wp2_with fail
  go_ret2
  have hT : tickS s now = s := by unfold tickS; rw [if_neg HE.out]
  obtain ⟨q, rfl⟩ := HS3.out
  refine ⟨?_, ⟨mb, gs, ?_⟩, ?_⟩
  · rw [hT, HN.out, Int.sub_self]
    show _ = Ending.returned (.tuple #[.int .i64 0, errV n])
    unfold errV
    rw [if_neg (HN.out ▸ HE.out)]; rfl
  · rw [hT]; exact HIN.out.keep (fun k _ => rfl)
  · exact (Turn.of_below HB2.out F).drewN q
set_option maxRecDepth 100000 in
set_option maxHeartbeats 8000000 in
theorem tick_yes (F : Nat → Prop) (pb : Nat) (s : Po) (now : Int) (w : World) (hP : PoolAt w F pb s) (hF : ∀ k, F k → k < w.heap.size) (hE : tickE s now = 0) :
    Calls Tryd.prog 7 #[ptrV pb, .int .i64 now] w (Ticks F pb s now w) := by
  obtain ⟨mb, gs, hin⟩ := hP
  obtain ⟨B2, c0, c1, hin2, hsz⟩ := tick_boxes hin hF now
  have HE : Hid (tickE s now = 0) := hE
  have hnow : 0 ≤ now ∧ now ≤ 1000000 := by
    unfold tickE at hE
    split at hE
    · cases hE
    · omega
  have hlpb := hF pb hin.fpb
  have hlmb := hF mb hin.fmb
  have hne0 : w.heap.size ≠ pb := by omega
  have hne1 : w.heap.size + 1 ≠ pb := by omega
  unfold ptrV
  go_enter Tryd.func7, Tryd.ntmps7
  go_upto_region 1 with fail
  obtain ⟨W2, hW2⟩ : ∃ W2, ((w.alloc (.cells #[.pointer (some ⟨pb, 0, none⟩)] 24)).alloc (.cells #[.int .i64 now] 3)) = W2 := ⟨_, rfl⟩
  rw [hW2] at B2 c0 c1 hin2 hsz ⊢
  obtain ⟨p0, p1, p2, f1⟩ := pool_cells hin2
  have hmv := move_any pb 1 s.now now W2.drew p1 f1
  have hmv2 : Calls Tryd.prog 14 #[.pointer (some ⟨pb, 1, none⟩), .int .i64 now] W2.drew fun e w3 => e = .returned .nilIface ∧ w3.heap[pb]? = some (.cells #[.int .i64 s.life, .int .i64 now, .map (some mb)] 53 (0, 0)) ∧ Only pb W2 w3 := by
    refine hmv.mono ?_
    rintro e w3 ⟨rfl, rfl⟩
    unfold tickE at hE
    by_cases h1 : now < 0 ∨ 1000000 < now
    · rw [if_pos h1] at hE; cases hE
    · rw [if_neg h1] at hE
      by_cases h2 : now < s.now
      · rw [if_pos h2] at hE; cases hE
      · rw [if_neg h1, if_neg h1, if_neg h2, if_neg h2]
        refine ⟨rfl, ?_, ((Only.refl _ _).drewN 1).setCell _ _⟩
        have e := heap_setCell_same W2.drew pb 1 _ _ (.int .i64 now) hin2.pool
        exact e
  have HB2 : Hid (Below w.heap.size w W2) := B2
  have HIN : Hid (PoolIn W2 F pb s mb gs) := hin2
  have HSZ : Hid (W2.heap.size = w.heap.size + 2) := hsz
  have hS : W2.cell? ⟨w.heap.size, 0, none⟩ = some (.pointer (some ⟨pb, 0, none⟩)) ∧ W2.cell? ⟨w.heap.size + 1, 0, none⟩ = some (.int .i64 now) := ⟨c0, c1⟩
  clear hmv hW2 B2 hin hin2 p0 p1 p2 f1 hsz hE
  go_region_held3 (fun X => X.cell? ⟨w.heap.size, 0, none⟩ = some (.pointer (some ⟨pb, 0, none⟩)) ∧ X.cell? ⟨w.heap.size + 1, 0, none⟩ = some (.int .i64 now)) (with_reducible first | assumption | go_keep) (first
    | (go_at_call 14; refine hmv2.mono ?_; rintro e w3 ⟨rfl, hp3, o3⟩; have hS3 : w3.cell? ⟨w.heap.size, 0, none⟩ = some (.pointer (some ⟨pb, 0, none⟩)) ∧ w3.cell? ⟨w.heap.size + 1, 0, none⟩ = some (.int .i64 now) := ⟨(o3.cell (p := ⟨w.heap.size, 0, none⟩) hne0).trans c0, (o3.cell (p := ⟨w.heap.size + 1, 0, none⟩) hne1).trans c1⟩))
  obtain ⟨c03, c13⟩ := hS3
  have hmne : mb ≠ pb := fun e => (e ▸ HIN.out.map).not_cells HIN.out.pool
  have hm3 : MapIs Tryd.prog 61 w3 mb (grpsL gs) := HIN.out.map.block (o3.block mb hmne)
  have p23 : w3.cell? ⟨pb, 2, none⟩ = some (.map (some mb)) := by rw [cell_of_row w3 pb 2 _ _ _ hp3]; rfl
  have p03 : w3.cell? ⟨pb, 0, none⟩ = some (.int .i64 s.life) := by rw [cell_of_row w3 pb 0 _ _ _ hp3]; rfl
  have hl3 := fun ty => hm3.len Tryd.underlying49 ty
  rw [len_grps] at hl3
  have hfew : gs.length ≤ 8 := by have h1 := HIN.out.ok.few; rw [← HIN.out.list, List.length_map] at h1; exact h1
  obtain ⟨N1, hN1⟩ : ∃ N1, gs.length = N1 := ⟨_, rfl⟩
  have HN1 : Hid (gs.length = N1) := hN1
  rw [hN1] at hl3 hfew
  have hkeyL : ∀ x ∈ grpsL gs, ∃ n, NmOk n ∧ x.1 = litN n := by
    intro x hx
    obtain ⟨g, hg, rfl⟩ := List.mem_map.1 hx
    exact ⟨g.h.name, HIN.out.names g hg, rfl⟩
  have o3' := o3
  have hdl := del_any (oldV s.life now gs) 16 #[.pointer (some ⟨w.heap.size + 1, 0, none⟩), .pointer (some ⟨w.heap.size, 0, none⟩)] mb (grpsL gs) w3 hm3 (enters_of Tryd.func16 (by kernel_rfl) rfl) hkeyL (by
    intro X n v hX hn hmem
    obtain ⟨g, hg, he⟩ := List.mem_map.1 hmem
    simp only [Prod.mk.injEq] at he
    obtain ⟨he1, rfl⟩ := he
    rw [oldV_of HIN.out.bs hg]
    have hgb : g.b ≠ pb ∧ g.b ≠ mb := by
      have hgc : ∃ cs, W2.heap[g.b]? = some (.cells cs 65 (0, 0)) := by
        rcases hb : g.h.bad with _ | _
        · exact ⟨_, (HIN.out.each g hg).good hb⟩
        · exact ⟨_, (HIN.out.each g hg).bad hb⟩
      obtain ⟨cs, hcs⟩ := hgc
      refine ⟨fun e => ?_, fun e => ?_⟩
      · have h1 := HIN.out.pool; rw [← e, hcs] at h1; simp at h1
      · exact (e ▸ HIN.out.map).not_cells hcs
    have cellX : ∀ (q : Nat) (u : Value), w3.cell? ⟨q, 0, none⟩ = some u → q ≠ mb → X.cell? ⟨q, 0, none⟩ = some u := by
      intro q u hu hq
      have hlt : q < w3.heap.size := by
        rcases Nat.lt_or_ge q w3.heap.size with h1 | h1
        · exact h1
        · simp [World.cell?, Array.getElem?_eq_none h1] at hu
      rw [World.cell?_of_block (w := w3) (hX.block q hlt (by simpa using hq))]; exact hu
    have hb3 : w3.cell? ⟨g.b, 0, none⟩ = some (.int .i64 g.h.began) := (o3'.cell (p := ⟨g.b, 0, none⟩) hgb.1).trans (began_cell (HIN.out.each g hg))
    have h1 := old_any n g.b (w.heap.size + 1) w.heap.size pb g.h.began now s.life X (cellX _ _ hb3 hgb.2) (cellX _ _ c13 (by omega)) (cellX _ _ c03 (by omega)) (cellX _ _ p03 hmne.symm) (HIN.out.times.2.2 g hg) hnow
    exact h1)
  rw [grps_struck HIN.out.bs] at hdl
  have HO3 : Hid (Only pb W2 w3) := o3
  have HP3 : Hid (w3.heap[pb]? = some (.cells #[.int .i64 s.life, .int .i64 now, .map (some mb)] 53 (0, 0))) := hp3
  clear hkeyL o3 o3' hp3 hm3 hmv2 hS c1
  go_upto_region 6 with (go_at_call 15; refine hdl.mono ?_; rintro e w4 ⟨rfl, hm4, hg4⟩)
  have hw34 : w.heap.size + 2 ≤ w3.heap.size := by rw [HO3.out.size, HSZ.out]; omega
  have c04 : w4.cell? ⟨w.heap.size, 0, none⟩ = some (.pointer (some ⟨pb, 0, none⟩)) := by
    rw [World.cell?_of_block (w := w3) (hg4.block w.heap.size (by omega) (by simp; omega))]; exact c03
  have hp4 : w4.heap[pb]? = some (.cells #[.int .i64 s.life, .int .i64 now, .map (some mb)] 53 (0, 0)) := (hg4.block pb (by omega) (by simpa using hmne.symm)).trans HP3.out
  have p24 : w4.cell? ⟨pb, 2, none⟩ = some (.map (some mb)) := by rw [cell_of_row w4 pb 2 _ _ _ hp4]; rfl
  have hl4 := fun ty => hm4.len Tryd.underlying49 ty
  rw [len_grps] at hl4
  have hN21 : (gs.filter fun g => !oldB s.life now g.h).length ≤ N1 := by rw [← HN1.out]; exact List.length_filter_le _ _
  obtain ⟨N2, hN2⟩ : ∃ N2, (gs.filter fun g => !oldB s.life now g.h).length = N2 := ⟨_, rfl⟩
  have HN2 : Hid ((gs.filter fun g => !oldB s.life now g.h).length = N2) := hN2
  rw [hN2] at hl4 hN21
  have HM4 : Hid (MapIs Tryd.prog 61 w4 mb (grpsL (gs.filter fun g => !oldB s.life now g.h))) := hm4
  have HP4 : Hid (w4.heap[pb]? = some (.cells #[.int .i64 s.life, .int .i64 now, .map (some mb)] 53 (0, 0))) := hp4
  clear hdl hN2 hm4 hp4 hl3 c03 c13 p23 p03 hN1 c0
  go_wp2_with fail
  go_ret2
  have hin4 := HIN.out.ticked HE.out HP4.out HM4.out (fun k hk h1 h2 => (hg4.block k (by have := hF k hk; omega) (by simpa using h2)).trans (HO3.out.block k h1))
  refine ⟨?_, ⟨mb, _, hin4⟩, ?_⟩
  · have e1 : (s.l.length : Int) = (N1 : Int) := by rw [← HIN.out.list, List.length_map, HN1.out]
    have e2 : ((tickS s now).l.length : Int) = (N2 : Int) := by rw [← hin4.list, List.length_map, HN2.out]
    rw [e1, e2, HE.out]; rfl
  · exact ((Turn.of_below HB2.out F).trans (Turn.of_only HO3.out HIN.out.fpb)).trans (Turn.of_grown hg4 (fun g e => by cases e; exact HIN.out.fmb))
theorem tick_any (F : Nat → Prop) (pb : Nat) (s : Po) (now : Int) (w : World) (hP : PoolAt w F pb s) (hF : ∀ k, F k → k < w.heap.size) : Calls Tryd.prog 7 #[ptrV pb, .int .i64 now] w (Ticks F pb s now w) := by
  by_cases h : tickE s now = 0
  · exact tick_yes F pb s now w hP hF h
  · exact tick_no F pb s now w hP hF h
end Go.Proofs.YtgodjaffmojhlaaDoor
