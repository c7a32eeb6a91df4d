/- What Add of the reference's pool answers (package portref2): 'addA'. Two pools that stand side by side: the program's and the reference's. -/
import Derived.Test.YtgodjaffmojhlaaDoorRefPl5
import Derived.Test.YtgodjaffmojhlaaDoorRefPl7
import Derived.Test.YtgodjaffmojhlaaDoorRefPl8
import Derived.Test.YtgodjaffmojhlaaDoorPoolNew
import Derived.Test.YtgodjaffmojhlaaDoorPoolKept
namespace Go.Proofs.YtgodjaffmojhlaaDoor
open Go.RowKit Go.Maps
set_option linter.unusedVariables false

theorem radd_any (w0 : World) (F : Nat → Prop) (pb : Nat) (s : Po) (p : Pk) (bv : Value) (now : Int) (w : World) (hP : RPool w0 w F pb s) (hF : ∀ k, F k → k < w.heap.size) (hb0 : Bytes w0 bv p.body) :
    Calls Tryd.prog 8 #[ptrV pb, pkV p bv, .int .i64 now] w (RAdds w0 F pb s p now w) := by
  have hb : Bytes w bv p.body := by obtain ⟨_, _, h⟩ := hP; exact hb0.below (Nat.le_refl _) h.bel
  by_cases he : pkErr p = 0
  · by_cases ht : tickE s now = 0
    · by_cases hw : p.pos = 0 ∧ p.more = false
      · exact radd_whole w0 F pb s p bv now w hP hF hb0 he ht hw
      · by_cases hx : getH (tickS s now).l (nmOf p) = none ∧ 8 ≤ (tickS s now).l.length
        · exact radd_full w0 F pb s p bv now w hP hF hb0 he ht hw hx.1 hx.2
        · rcases hbd : (orNew (getH (tickS s now).l (nmOf p)) (nmOf p) now).bad with _ | _
          · rcases hwr : wrongB (orNew (getH (tickS s now).l (nmOf p)) (nmOf p) now).all p with _ | _
            · exact radd_fits w0 F pb s p bv now w hP hF hb0 he ht hw hx hbd hwr
            · exact radd_wrong w0 F pb s p bv now w hP hF hb0 he ht hw hx hbd hwr
          · rcases hg : getH (tickS s now).l (nmOf p) with _ | y
            · rw [hg] at hbd; cases hbd
            · rw [hg] at hbd
              exact radd_bad w0 F pb s p bv now w hP hF hb0 he ht hw y hg hbd
    · exact radd_time w0 F pb s p bv now w hP hF hb he ht
  · exact radd_err w0 F pb s p bv now w hP hF hb he
/-- The program's pool at pb and the reference's at mb, apart from one another, and from what was there at first. -/
def TwoP (w0 W : World) (pb mb : Nat) (s t : Po) : Prop :=
  ∃ F G : Nat → Prop, PoolAt W F pb s ∧ RPool w0 W G mb t ∧ (∀ k, F k → ¬ G k) ∧ (∀ k, F k → w0.heap.size ≤ k ∧ k < W.heap.size) ∧ (∀ k, G k → k < W.heap.size) ∧ Below w0.heap.size w0 W
section
variable {w0 W W' : World} {pb mb : Nat} {s t : Po}
theorem TwoP.bel (h : TwoP w0 W pb mb s t) : Below w0.heap.size w0 W := by obtain ⟨F, G, _, _, _, _, _, h⟩ := h; exact h
theorem TwoP.below (h : TwoP w0 W pb mb s t) (hb : Below W.heap.size W W') : TwoP w0 W' pb mb s t := by
  obtain ⟨F, G, ⟨m, gs, h1⟩, ⟨lv, rs, h2⟩, h3, h4, h5, h6⟩ := h
  have hbs := hb.size
  exact ⟨F, G, ⟨m, gs, h1.keep (fun k hk => hb.block k (h4 k hk).2)⟩, ⟨lv, rs, h2.below h5 hb⟩, h3, fun k hk => ⟨(h4 k hk).1, by have := (h4 k hk).2; omega⟩, fun k hk => by have := h5 k hk; omega, h6.trans (hb.mono h6.size)⟩
theorem TwoP.new (w : World) (life : Int) (w2 w3 : World) (h1 : 1 ≤ life) (h2 : life ≤ 1000000) (hP : PoolAt w2 (TwoF w.heap.size) (w.heap.size + 1) { life := life, now := 0, l := [] }) (hb : Below w.heap.size w w2) (hs : w2.heap.size = w.heap.size + 2) (hb3 : Below w2.heap.size w2 w3) :
    TwoP w (w3.alloc (.cells #[.int .i64 life, .int .i64 0, .slice none 0 0] 33)) (w.heap.size + 1) w3.heap.size { life := life, now := 0, l := [] } { life := life, now := 0, l := [] } := by
  obtain ⟨m, gs, hP⟩ := hP
  have hb3s := hb3.size
  have hb' : Below w.heap.size w w3 := hb.trans (hb3.mono hb.size)
  have hr := RPool.new w w3 life h1 h2 hb'
  refine ⟨TwoF w.heap.size, fun k => k = w3.heap.size, ⟨m, gs, hP.keep (fun k hk => ?_)⟩, hr, fun k hk e => ?_, fun k hk => ?_, fun k hk => ?_, hb'.alloc (by omega) _⟩
  · have hk2 : k < w2.heap.size := by rcases hk with rfl | rfl <;> omega
    rw [Below.heap_alloc w3 _ k (by omega)]
    exact hb3.block k hk2
  · rcases hk with rfl | rfl <;> omega
  · simp only [World.alloc, Array.size_push]
    rcases hk with rfl | rfl <;> omega
  · simp only [World.alloc, Array.size_push]
    omega
theorem TwoP.rtick (h : TwoP w0 W pb mb s t) (now : Int) : Calls Tryd.prog 6 #[ptrV mb, .int .i64 now] W fun e w' => e = .returned (.tuple #[.int .i64 ((t.l.length : Int) - ((tickS t now).l.length : Int)), .int .i64 (tickE t now)]) ∧ TwoP w0 w' pb mb s (tickS t now) := by
  obtain ⟨F, G, ⟨m, gs, h1⟩, h2, h3, h4, h5, h6⟩ := h
  refine (rtick_any w0 G mb t now W h2 h5).mono ?_
  rintro e w' ⟨rfl, hR, hT⟩
  have hbel : Below w0.heap.size w0 w' := by obtain ⟨_, _, hR⟩ := hR; exact hR.bel
  have hts := hT.size
  refine ⟨rfl, F, Plus G W w', ⟨m, gs, h1.keep (fun k hk => hT.block k (h4 k hk).2 (h3 k hk))⟩, hR, fun k hk hg => ?_, fun k hk => ⟨(h4 k hk).1, by have := (h4 k hk).2; omega⟩, fun k hk => ?_, hbel⟩
  · rcases hg with hg | hg
    · exact h3 k hk hg
    · have := (h4 k hk).2; omega
  · rcases hk with hk | hk
    · have := h5 k hk; omega
    · exact hk.2
theorem TwoP.ptick (h : TwoP w0 W pb mb s t) (now : Int) : Calls Tryd.prog 7 #[ptrV pb, .int .i64 now] W fun e w' => e = .returned (.tuple #[.int .i64 ((s.l.length : Int) - ((tickS s now).l.length : Int)), errV (tickE s now)]) ∧ TwoP w0 w' pb mb (tickS s now) t := by
  obtain ⟨F, G, h1, ⟨lv, rs, h2⟩, h3, h4, h5, h6⟩ := h
  refine (tick_any F pb s now W h1 (fun k hk => (h4 k hk).2)).mono ?_
  rintro e w' ⟨rfl, hP, hT⟩
  have hbel := Turn.below h6 h6.size hT (fun k hk => (h4 k hk).1)
  have hts := hT.size
  exact ⟨rfl, F, G, hP, ⟨lv, rs, h2.keep (fun k hk => hT.block k (h5 k hk) (fun hf => h3 k hf hk)) hbel⟩, h3, fun k hk => ⟨(h4 k hk).1, by have := (h4 k hk).2; omega⟩, fun k hk => by have := h5 k hk; omega, hbel⟩
/-- A block that neither pool has, but for what is new. -/
def Free (w0 W : World) (pb mb : Nat) (s t : Po) (bv : Value) : Prop :=
  ∃ F G : Nat → Prop, PoolAt W F pb s ∧ RPool w0 W G mb t ∧ (∀ k, F k → ¬ G k) ∧ (∀ k, F k → w0.heap.size ≤ k ∧ k < W.heap.size) ∧ (∀ k, G k → k < W.heap.size) ∧ Below w0.heap.size w0 W ∧ ∀ b off len cap, bv = .slice (some ⟨b, off, none⟩) len cap → 0 < len → ¬ F b
theorem Free.two {bv : Value} (h : Free w0 W pb mb s t bv) : TwoP w0 W pb mb s t := by
  obtain ⟨F, G, h1, h2, h3, h4, h5, h6, _⟩ := h
  exact ⟨F, G, h1, h2, h3, h4, h5, h6⟩
theorem Free.below {bv : Value} (h : Free w0 W pb mb s t bv) (hb : Below W.heap.size W W') : Free w0 W' pb mb s t bv := by
  obtain ⟨F, G, ⟨m, gs, h1⟩, ⟨lv, rs, h2⟩, h3, h4, h5, h6, h7⟩ := h
  have hbs := hb.size
  exact ⟨F, G, ⟨m, gs, h1.keep (fun k hk => hb.block k (h4 k hk).2)⟩, ⟨lv, rs, h2.below h5 hb⟩, h3, fun k hk => ⟨(h4 k hk).1, by have := (h4 k hk).2; omega⟩, fun k hk => by have := h5 k hk; omega, h6.trans (hb.mono h6.size), h7⟩
theorem TwoP.radd (h : TwoP w0 W pb mb s t) (p : Pk) (bv : Value) (now : Int) (hb0 : Bytes w0 bv p.body) : Calls Tryd.prog 8 #[ptrV mb, pkV p bv, .int .i64 now] W fun e w' =>
    ∃ bv2, e = .returned (.tuple #[pkV (addA t p now).2.1 bv2, .bool (addA t p now).2.2.1, .int .i64 (addA t p now).2.2.2]) ∧ Bytes w' bv2 (addA t p now).2.1.body ∧ Free w0 w' pb mb s (addA t p now).1 bv2 := by
  obtain ⟨F, G, ⟨m, gs, h1⟩, h2, h3, h4, h5, h6⟩ := h
  refine (radd_any w0 G mb t p bv now W h2 h5 hb0).mono ?_
  rintro e w' ⟨bv2, rfl, hB, hR, hT, hL⟩
  have hbel : Below w0.heap.size w0 w' := by obtain ⟨_, _, hR⟩ := hR; exact hR.bel
  have hts := hT.size
  refine ⟨bv2, rfl, hB, F, Plus G W w', ⟨m, gs, h1.keep (fun k hk => hT.block k (h4 k hk).2 (h3 k hk))⟩, hR, fun k hk hg => ?_, fun k hk => ⟨(h4 k hk).1, by have := (h4 k hk).2; omega⟩, fun k hk => ?_, hbel, fun b off len cap e hl hf => ?_⟩
  · rcases hg with hg | hg
    · exact h3 k hk hg
    · have := (h4 k hk).2; omega
  · rcases hk with hk | hk
    · have := h5 k hk; omega
    · exact hk.2
  · have := h4 b hf
    rcases hL b off len cap e hl with h | h <;> omega
/-- The same, and block x is not the program's pool's. -/
def FreeX (w0 W : World) (pb mb : Nat) (s t : Po) (bv : Value) (x : Nat) : Prop :=
  ∃ F G : Nat → Prop, PoolAt W F pb s ∧ RPool w0 W G mb t ∧ (∀ k, F k → ¬ G k) ∧ (∀ k, F k → w0.heap.size ≤ k ∧ k < W.heap.size) ∧ (∀ k, G k → k < W.heap.size) ∧ Below w0.heap.size w0 W ∧ (∀ b off len cap, bv = .slice (some ⟨b, off, none⟩) len cap → 0 < len → ¬ F b) ∧ ¬ F x
theorem Free.box {bv : Value} (h : Free w0 W pb mb s t bv) (o : Obj) : FreeX w0 (W.alloc o) pb mb s t bv W.heap.size := by
  obtain ⟨F, G, ⟨m, gs, h1⟩, ⟨lv, rs, h2⟩, h3, h4, h5, h6, h7⟩ := h
  have hb : Below W.heap.size W (W.alloc o) := (Below.refl _ _).alloc (Nat.le_refl _) _
  have hbs := hb.size
  exact ⟨F, G, ⟨m, gs, h1.keep (fun k hk => hb.block k (h4 k hk).2)⟩, ⟨lv, rs, h2.below h5 hb⟩, h3, fun k hk => ⟨(h4 k hk).1, by have := (h4 k hk).2; omega⟩, fun k hk => by have := h5 k hk; omega, h6.trans (hb.mono h6.size), h7, fun hf => by have := (h4 _ hf).2; omega⟩
theorem FreeX.bel {bv : Value} {x : Nat} (h : FreeX w0 W pb mb s t bv x) : Below w0.heap.size w0 W := by obtain ⟨F, G, _, _, _, _, _, h, _⟩ := h; exact h
/-- The program's Add: a packet's box, and bytes, that its pool does not have stay. -/
theorem FreeX.padd {bv2 : Value} {x : Nat} (h : FreeX w0 W pb mb s t bv2 x) (p : Pk) (bv : Value) (now : Int) (hb0 : Bytes w0 bv p.body) {zs : List Int} (hB2 : Bytes W bv2 zs) {q : Pk} (hx : PkAt W x q bv2) :
    Calls Tryd.prog 9 #[ptrV pb, pkV p bv, .int .i64 now] W fun e w' =>
      ∃ bv3, e = .returned (.tuple #[pkV (addA s p now).2.1 bv3, .bool (addA s p now).2.2.1, errV (addA s p now).2.2.2]) ∧ Bytes w' bv3 (addA s p now).2.1.body ∧ TwoP w0 w' pb mb (addA s p now).1 t ∧ Bytes w' bv2 zs ∧ PkAt w' x q bv2 := by
  obtain ⟨F, G, h1, ⟨lv, rs, h2⟩, h3, h4, h5, h6, h7, h8⟩ := h
  refine (poolAdd_any F pb s p bv now W h1 (fun k hk => (h4 k hk).2) (hb0.below (Nat.le_refl _) h6) (fun b off len cap e hl hf => by
    have := h4 b hf
    rcases Lies.old (w := W) hb0 b off len cap e hl with h | h <;> omega)).mono ?_
  rintro e w' ⟨bv3, rfl, hB, hP, hT⟩
  have hbel := Turn.below h6 h6.size hT (fun k hk => (h4 k hk).1)
  have hts := hT.size
  have hws := h6.size
  refine ⟨bv3, rfl, hB, ⟨Plus F W w', G, hP, ⟨lv, rs, h2.keep (fun k hk => hT.block k (h5 k hk) (fun hf => h3 k hf hk)) hbel⟩, fun k hk hg => ?_, fun k hk => ?_, fun k hk => by have := h5 k hk; omega, hbel⟩, hB2.turn hT h7, hx.turn hT h8⟩
  · rcases hk with hk | hk
    · exact h3 k hk hg
    · have := h5 k hg; omega
  · rcases hk with hk | hk
    · have := h4 k hk; omega
    · omega
/-- How many there are. -/
theorem TwoP.lens (h : TwoP w0 W pb mb s t) : ∃ m gs av N cv, W.cell? ⟨pb, 2, none⟩ = some (.map (some m)) ∧ MapIs Tryd.prog 61 W m (grpsL gs) ∧ gs.length = s.l.length ∧ W.cell? ⟨mb, 2, none⟩ = some (.slice av N cv) ∧ N = t.l.length ∧ mb ≠ pb := by
  obtain ⟨F, G, ⟨m, gs, h1⟩, ⟨lv, rs, h2⟩, h3, h4, h5, h6⟩ := h
  obtain ⟨_, _, c2, _⟩ := pool_cells h1
  obtain ⟨_, _, d2, _, _⟩ := h2.cells
  obtain ⟨av, cv, hlv⟩ := h2.row.len
  subst hlv
  exact ⟨m, gs, av, _, cv, c2, h1.map, by rw [← h1.list, List.length_map], d2, by rw [← h2.list, List.length_map], fun e => h3 pb h1.fpb (by rw [← e]; exact h2.fpb)⟩
end
end Go.Proofs.YtgodjaffmojhlaaDoor
