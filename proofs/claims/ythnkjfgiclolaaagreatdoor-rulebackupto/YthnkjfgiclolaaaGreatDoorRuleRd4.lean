/- What read returns (package rule): the rule of a line that write would write ('readO'). -/
import Derived.Test.YthnkjfgiclolaaaGreatDoorMgU
import Derived.Test.YthnkjfgiclolaaaGreatDoorRuleWr4
import Derived.Laws.EntriesVeiled
namespace Go.Proofs.YthnkjfgiclolaaaGreatDoor
open Go.RowKit
set_option linter.unusedVariables false
set_option maxRecDepth 10000

def blockL : List UInt8 := [98, 108, 111, 99, 107]
def passL : List UInt8 := [112, 97, 115, 115]
def quickW : List UInt8 := [32, 113, 117, 105, 99, 107]
def keepW : List UInt8 := [32, 107, 101, 101, 112]
def stepW (p : List UInt8) (n : Int) (s : Int × List UInt8) : Int × List UInt8 := (if Lib.hasPrefix s.2 p = true then n else s.1, Lib.trimPrefix s.2 p)
def wayS (l : List UInt8) : Nat → Int × List UInt8
  | 0 => (0, l)
  | 1 => (0, l)
  | k + 2 => stepW (wayL ((k : Int) + 1)) ((k : Int) + 1) (wayS l (k + 1))
def kindS (l : List UInt8) : Nat → Int × List UInt8
  | 0 => (0, l)
  | 1 => (0, l)
  | k + 2 => stepW (kindL ((k : Int) + 1)) ((k : Int) + 1) (kindS l (k + 1))
def passR (l : List UInt8) : Bool := if Lib.hasPrefix l blockL = true then false else Lib.hasPrefix l passL
def passT (l : List UInt8) : List UInt8 := if Lib.hasPrefix l blockL = true then Lib.trimPrefix l blockL else Lib.trimPrefix l passL
/-- What is read, loosely. -/
def headR (l : List UInt8) : Rl := { nilR with pass := passR l, quick := Lib.hasPrefix (passT l) quickW, way := (wayS (Lib.trimPrefix (passT l) quickW) 3).1, kind := (kindS (wayS (Lib.trimPrefix (passT l) quickW) 3).2 4).1 }
def headT (l : List UInt8) : List UInt8 := (kindS (wayS (Lib.trimPrefix (passT l) quickW) 3).2 4).2
def looseR (l : List UInt8) : Rl := { bothR (headR l) (headT l) with keep := Lib.hasPrefix (bothRest (headT l)) keepW }
def readO (line : List UInt8) : Option Rl :=
  if bothOk (headT (Lib.trimSuffix line [10])) = true ∧ lineL (looseR (Lib.trimSuffix line [10])) ++ [10] = line then some (looseR (Lib.trimSuffix line [10])) else none
theorem stepW_len (p : List UInt8) (n : Int) (s : Int × List UInt8) : (stepW p n s).2.length ≤ s.2.length := trimP_len _ _
theorem wayS_len (l : List UInt8) : ∀ k, (wayS l k).2.length ≤ l.length
  | 0 => Nat.le_refl _
  | 1 => Nat.le_refl _
  | k + 2 => Nat.le_trans (stepW_len _ _ _) (wayS_len l (k + 1))
theorem kindS_len (l : List UInt8) : ∀ k, (kindS l k).2.length ≤ l.length
  | 0 => Nat.le_refl _
  | 1 => Nat.le_refl _
  | k + 2 => Nat.le_trans (stepW_len _ _ _) (kindS_len l (k + 1))
theorem passT_len (l : List UInt8) : (passT l).length ≤ l.length := by unfold passT; split <;> exact trimP_len _ _
theorem headT_len (l : List UInt8) : (headT l).length ≤ l.length :=
  Nat.le_trans (kindS_len _ _) (Nat.le_trans (wayS_len _ _) (Nat.le_trans (trimP_len _ _) (passT_len l)))
theorem trimS_len (l p : List UInt8) : (Lib.trimSuffix l p).length ≤ l.length := by unfold Lib.trimSuffix; split <;> simp
theorem stepW_way (p : List UInt8) (n b : Int) (s : Int × List UInt8) (h0 : 0 ≤ n) (h1 : n ≤ b) (h : 0 ≤ s.1 ∧ s.1 ≤ b) : 0 ≤ (stepW p n s).1 ∧ (stepW p n s).1 ≤ b := by
  unfold stepW; simp only; split
  · exact ⟨h0, h1⟩
  · exact h
theorem sideO_good {Wd l : List UInt8} (h : (sideO Wd l).ok = true) : prefE (sideO Wd l).a (sideO Wd l).n = 0 ∧ Nrm (sideO Wd l).ps ∧ (sideO Wd l).ps.length ≤ 200 := by
  unfold sideO at h ⊢
  split at h
  · rename_i h1
    have hp : prefE (readP (splitC 32 (Lib.trimPrefix l Wd)).1).1 (readP (splitC 32 (Lib.trimPrefix l Wd)).1).2.1 = 0 := by
      refine (read_back (l := (splitC 32 (Lib.trimPrefix l Wd)).1) ?_).1
      rw [← h1]
    rw [if_pos h1]
    split at h
    · rename_i h2
      rw [if_pos h2]
      refine ⟨hp, ?_⟩
      simp only at h ⊢
      generalize (splitC 32 (Lib.trimPrefix ((Lib.trimPrefix l Wd).drop (splitC 32 (Lib.trimPrefix l Wd)).1.length) portL)).1 = y at h ⊢
      rcases hr : readR y with _ | ps
      · rw [hr] at h; cases h
      · show Nrm ps ∧ ps.length ≤ 200
        unfold readR at hr
        split at hr
        · cases hr; exact ⟨Nrm.nil, by simp⟩
        · have := refFold_some _ _ _ hr Nrm.nil (by simp)
          exact ⟨this.1, this.2.1⟩
    · rename_i h2
      rw [if_neg h2]
      exact ⟨hp, Nrm.nil, by simp⟩
  · cases h
theorem loose_writ {l : List UInt8} (h : bothOk (headT l) = true) : Writ (looseR l) := by
  unfold bothOk at h
  rw [Bool.and_eq_true] at h
  obtain ⟨h1, h2⟩ := h
  have g1 := sideO_good h1
  have g2 := sideO_good h2
  have hw : 0 ≤ (wayS (Lib.trimPrefix (passT l) quickW) 3).1 ∧ (wayS (Lib.trimPrefix (passT l) quickW) 3).1 ≤ 2 :=
    stepW_way _ _ 2 _ (by decide) (by decide) (stepW_way _ _ 2 _ (by decide) (by decide) ⟨show (0 : Int) ≤ 0 by decide, show (0 : Int) ≤ 2 by decide⟩)
  have hk : 0 ≤ (kindS (wayS (Lib.trimPrefix (passT l) quickW) 3).2 4).1 ∧ (kindS (wayS (Lib.trimPrefix (passT l) quickW) 3).2 4).1 ≤ 3 :=
    stepW_way _ _ 3 _ (by decide) (by decide) (stepW_way _ _ 3 _ (by decide) (by decide) (stepW_way _ _ 3 _ (by decide) (by decide) ⟨show (0 : Int) ≤ 0 by decide, show (0 : Int) ≤ 3 by decide⟩))
  unfold looseR bothR
  rw [if_pos h1]
  generalize sideO toL (sideO fromL (headT l)).rest = o2 at g2 ⊢
  generalize sideO fromL (headT l) = o1 at g1 ⊢
  unfold headR
  generalize (wayS (Lib.trimPrefix (passT l) quickW) 3).2 = w2 at hk ⊢
  generalize (wayS (Lib.trimPrefix (passT l) quickW) 3).1 = w1 at hw ⊢
  generalize (kindS w2 4).1 = k1 at hk ⊢
  exact ⟨hw.1, hw.2, hk.1, hk.2, g1.1, g2.1, g1.2.1, g1.2.2, g2.2.1, g2.2.2⟩
theorem set11_0 (x0 x1 x2 x3 x4 x5 x6 x7 x8 x9 x10 y : Value) : (#[x0, x1, x2, x3, x4, x5, x6, x7, x8, x9, x10] : Array Value).setIfInBounds 0 y = #[y, x1, x2, x3, x4, x5, x6, x7, x8, x9, x10] := rfl
theorem set11_1 (x0 x1 x2 x3 x4 x5 x6 x7 x8 x9 x10 y : Value) : (#[x0, x1, x2, x3, x4, x5, x6, x7, x8, x9, x10] : Array Value).setIfInBounds 1 y = #[x0, y, x2, x3, x4, x5, x6, x7, x8, x9, x10] := rfl
theorem set11_2 (x0 x1 x2 x3 x4 x5 x6 x7 x8 x9 x10 y : Value) : (#[x0, x1, x2, x3, x4, x5, x6, x7, x8, x9, x10] : Array Value).setIfInBounds 2 y = #[x0, x1, y, x3, x4, x5, x6, x7, x8, x9, x10] := rfl
theorem set11_3 (x0 x1 x2 x3 x4 x5 x6 x7 x8 x9 x10 y : Value) : (#[x0, x1, x2, x3, x4, x5, x6, x7, x8, x9, x10] : Array Value).setIfInBounds 3 y = #[x0, x1, x2, y, x4, x5, x6, x7, x8, x9, x10] := rfl
theorem set11_4 (x0 x1 x2 x3 x4 x5 x6 x7 x8 x9 x10 y : Value) : (#[x0, x1, x2, x3, x4, x5, x6, x7, x8, x9, x10] : Array Value).setIfInBounds 4 y = #[x0, x1, x2, x3, y, x5, x6, x7, x8, x9, x10] := rfl
theorem set11_5 (x0 x1 x2 x3 x4 x5 x6 x7 x8 x9 x10 y : Value) : (#[x0, x1, x2, x3, x4, x5, x6, x7, x8, x9, x10] : Array Value).setIfInBounds 5 y = #[x0, x1, x2, x3, x4, y, x6, x7, x8, x9, x10] := rfl
theorem set11_6 (x0 x1 x2 x3 x4 x5 x6 x7 x8 x9 x10 y : Value) : (#[x0, x1, x2, x3, x4, x5, x6, x7, x8, x9, x10] : Array Value).setIfInBounds 6 y = #[x0, x1, x2, x3, x4, x5, y, x7, x8, x9, x10] := rfl
theorem set11_7 (x0 x1 x2 x3 x4 x5 x6 x7 x8 x9 x10 y : Value) : (#[x0, x1, x2, x3, x4, x5, x6, x7, x8, x9, x10] : Array Value).setIfInBounds 7 y = #[x0, x1, x2, x3, x4, x5, x6, y, x8, x9, x10] := rfl
theorem set11_8 (x0 x1 x2 x3 x4 x5 x6 x7 x8 x9 x10 y : Value) : (#[x0, x1, x2, x3, x4, x5, x6, x7, x8, x9, x10] : Array Value).setIfInBounds 8 y = #[x0, x1, x2, x3, x4, x5, x6, x7, y, x9, x10] := rfl
theorem set11_9 (x0 x1 x2 x3 x4 x5 x6 x7 x8 x9 x10 y : Value) : (#[x0, x1, x2, x3, x4, x5, x6, x7, x8, x9, x10] : Array Value).setIfInBounds 9 y = #[x0, x1, x2, x3, x4, x5, x6, x7, x8, y, x10] := rfl
theorem set11_10 (x0 x1 x2 x3 x4 x5 x6 x7 x8 x9 x10 y : Value) : (#[x0, x1, x2, x3, x4, x5, x6, x7, x8, x9, x10] : Array Value).setIfInBounds 10 y = #[x0, x1, x2, x3, x4, x5, x6, x7, x8, x9, y] := rfl
theorem RlAt.storeAll {w : World} {b : Nat} {r : Rl} {fv tv : Value} (h : RlAt w b r fv tv) (q : Rl) (gv hv : Value) : ∃ w', (((((((((((w.setCell ⟨b, 0, none⟩ (.bool q.pass)).setCell ⟨b, 1, none⟩ (.bool q.quick)).setCell ⟨b, 2, none⟩ (.bool q.keep)).setCell ⟨b, 3, none⟩ (.int .i64 q.way)).setCell ⟨b, 4, none⟩ (.int .i64 q.kind)).setCell ⟨b, 5, none⟩ (.int .i64 q.sa)).setCell ⟨b, 6, none⟩ (.int .i64 q.sl)).setCell ⟨b, 7, none⟩ (.int .i64 q.da)).setCell ⟨b, 8, none⟩ (.int .i64 q.dl)).setCell ⟨b, 9, none⟩ (gv)).setCell ⟨b, 10, none⟩ (hv)) = w' ∧ RlAt w' b q gv hv ∧ Only b w w' := by
  refine ⟨_, rfl, ?_, ((((((((((((Only.refl _ _).setCell _ _).setCell _ _).setCell _ _).setCell _ _).setCell _ _).setCell _ _).setCell _ _).setCell _ _).setCell _ _).setCell _ _).setCell _ _)⟩
  have e0 := heap_setCell_same _ b 0 _ _ (.bool q.pass) h
  rw [set11_0] at e0
  have e1 := heap_setCell_same _ b 1 _ _ (.bool q.quick) e0
  rw [set11_1] at e1
  have e2 := heap_setCell_same _ b 2 _ _ (.bool q.keep) e1
  rw [set11_2] at e2
  have e3 := heap_setCell_same _ b 3 _ _ (.int .i64 q.way) e2
  rw [set11_3] at e3
  have e4 := heap_setCell_same _ b 4 _ _ (.int .i64 q.kind) e3
  rw [set11_4] at e4
  have e5 := heap_setCell_same _ b 5 _ _ (.int .i64 q.sa) e4
  rw [set11_5] at e5
  have e6 := heap_setCell_same _ b 6 _ _ (.int .i64 q.sl) e5
  rw [set11_6] at e6
  have e7 := heap_setCell_same _ b 7 _ _ (.int .i64 q.da) e6
  rw [set11_7] at e7
  have e8 := heap_setCell_same _ b 8 _ _ (.int .i64 q.dl) e7
  rw [set11_8] at e8
  have e9 := heap_setCell_same _ b 9 _ _ (gv) e8
  rw [set11_9] at e9
  have e10 := heap_setCell_same _ b 10 _ _ (hv) e9
  rw [set11_10] at e10
  exact e10
set_option maxHeartbeats 4000000 in
theorem RdSt.new (w : World) (l0 : List UInt8) : RdSt w (((((w.alloc (.cells #[.bool false, .bool false, .bool false, .int .i64 0, .int .i64 0, .int .i64 0, .int .i64 0, .int .i64 0, .int .i64 0, .slice none 0 0, .slice none 0 0] 33)).alloc (.cells #[.bool false, .bool false, .bool false, .int .i64 0, .int .i64 0, .int .i64 0, .int .i64 0, .int .i64 0, .int .i64 0, .slice none 0 0, .slice none 0 0] 33)).alloc (.cells #[.string (mkB l0)] 9)).alloc (.cells #[.func (.func 56) #[] #[.pointer (some ⟨w.heap.size + 2, 0, none⟩)]] 97)).alloc (.cells #[.func (.func 58) #[] #[.pointer (some ⟨w.heap.size + 2, 0, none⟩)]] 57)) w.heap.size nilR (.slice none 0 0) (.slice none 0 0) l0 := by
  have z0 : (w.alloc (.cells #[.bool false, .bool false, .bool false, .int .i64 0, .int .i64 0, .int .i64 0, .int .i64 0, .int .i64 0, .int .i64 0, .slice none 0 0, .slice none 0 0] 33)).heap.size = w.heap.size + 1 := by simp
  have b0 : Below w.heap.size w (w.alloc (.cells #[.bool false, .bool false, .bool false, .int .i64 0, .int .i64 0, .int .i64 0, .int .i64 0, .int .i64 0, .int .i64 0, .slice none 0 0, .slice none 0 0] 33)) := (Below.refl _ _).alloc (Nat.le_refl _) _
  have r0 : RlAt (w.alloc (.cells #[.bool false, .bool false, .bool false, .int .i64 0, .int .i64 0, .int .i64 0, .int .i64 0, .int .i64 0, .int .i64 0, .slice none 0 0, .slice none 0 0] 33)) w.heap.size nilR (.slice none 0 0) (.slice none 0 0) := heap_alloc_new w _
  generalize w.alloc (.cells #[.bool false, .bool false, .bool false, .int .i64 0, .int .i64 0, .int .i64 0, .int .i64 0, .int .i64 0, .int .i64 0, .slice none 0 0, .slice none 0 0] 33) = W1 at z0 b0 r0 ⊢
  have z1 : (W1.alloc (.cells #[.bool false, .bool false, .bool false, .int .i64 0, .int .i64 0, .int .i64 0, .int .i64 0, .int .i64 0, .int .i64 0, .slice none 0 0, .slice none 0 0] 33)).heap.size = w.heap.size + 2 := by simp; omega
  have b1 : Below W1.heap.size W1 (W1.alloc (.cells #[.bool false, .bool false, .bool false, .int .i64 0, .int .i64 0, .int .i64 0, .int .i64 0, .int .i64 0, .int .i64 0, .slice none 0 0, .slice none 0 0] 33)) := (Below.refl _ _).alloc (Nat.le_refl _) _
  have r1 : RlAt (W1.alloc (.cells #[.bool false, .bool false, .bool false, .int .i64 0, .int .i64 0, .int .i64 0, .int .i64 0, .int .i64 0, .int .i64 0, .slice none 0 0, .slice none 0 0] 33)) (w.heap.size + 1) nilR (.slice none 0 0) (.slice none 0 0) := by rw [← z0]; exact heap_alloc_new W1 _
  have r0 := r0.below r0.lt b1
  have b1 := b0.trans (b1.mono b0.size)
  generalize W1.alloc (.cells #[.bool false, .bool false, .bool false, .int .i64 0, .int .i64 0, .int .i64 0, .int .i64 0, .int .i64 0, .int .i64 0, .slice none 0 0, .slice none 0 0] 33) = W2 at z1 b1 r0 r1 ⊢
  have z2 : (W2.alloc (.cells #[.string (mkB l0)] 9)).heap.size = w.heap.size + 3 := by simp; omega
  have b2 : Below W2.heap.size W2 (W2.alloc (.cells #[.string (mkB l0)] 9)) := (Below.refl _ _).alloc (Nat.le_refl _) _
  have s2 : StrAt (W2.alloc (.cells #[.string (mkB l0)] 9)) (w.heap.size + 2) l0 := by rw [← z1]; exact heap_alloc_new W2 _
  have r0 := r0.below r0.lt b2
  have r1 := r1.below r1.lt b2
  have b2 := b1.trans (b2.mono b1.size)
  generalize W2.alloc (.cells #[.string (mkB l0)] 9) = W3 at z2 b2 r0 r1 s2 ⊢
  have z3 : (W3.alloc (.cells #[.func (.func 56) #[] #[.pointer (some ⟨w.heap.size + 2, 0, none⟩)]] 97)).heap.size = w.heap.size + 4 := by simp; omega
  have b3 : Below W3.heap.size W3 (W3.alloc (.cells #[.func (.func 56) #[] #[.pointer (some ⟨w.heap.size + 2, 0, none⟩)]] 97)) := (Below.refl _ _).alloc (Nat.le_refl _) _
  have c3 : (W3.alloc (.cells #[.func (.func 56) #[] #[.pointer (some ⟨w.heap.size + 2, 0, none⟩)]] 97)).heap[w.heap.size + 3]? = some (.cells #[cutF (w.heap.size + 2)] 97 (0, 0)) := by rw [← z2]; exact heap_alloc_new W3 _
  have r0 := r0.below r0.lt b3
  have r1 := r1.below r1.lt b3
  have s2 := s2.keep (b3.block _ s2.lt)
  have b3 := b2.trans (b3.mono b2.size)
  generalize W3.alloc (.cells #[.func (.func 56) #[] #[.pointer (some ⟨w.heap.size + 2, 0, none⟩)]] 97) = W4 at z3 b3 r0 r1 s2 c3 ⊢
  have b4 : Below W4.heap.size W4 (W4.alloc (.cells #[.func (.func 58) #[] #[.pointer (some ⟨w.heap.size + 2, 0, none⟩)]] 57)) := (Below.refl _ _).alloc (Nat.le_refl _) _
  have c4 : (W4.alloc (.cells #[.func (.func 58) #[] #[.pointer (some ⟨w.heap.size + 2, 0, none⟩)]] 57)).heap[w.heap.size + 4]? = some (.cells #[nxtF (w.heap.size + 2)] 57 (0, 0)) := by rw [← z3]; exact heap_alloc_new W4 _
  exact ⟨r0.below r0.lt b4, r1.below r1.lt b4, s2.keep (b4.block _ s2.lt), (b4.block _ (by omega)).trans c3, c4, OwnSp.nil _ _, OwnSp.nil _ _, b3.trans (b4.mono b3.size), by simp; omega⟩
theorem Tryz.infoStrR : (Tryz.prog.info? 9).map (fun i => (i.zero, i.size, i.bytes)) = some (some (.string ⟨#[]⟩), 1, 16) := by kernel_rfl
theorem idx3_0 (W : World) (k0 k1 k2 : Value) : (Instr.index 89 (.agg #[k0, k1, k2]) (.int .i64 0)).run Tryz.prog W = .ok k0 W := by
  obtain ⟨i0, hi, hz0, hz1, hz2⟩ := info_parts Tryz.infoStrR
  simp [Instr.index, asIntOf, run_underlying Tryz.underlying89, run_underlying Tryz.underlying9, sizeOf, typeInfo, hi, hz1, part, isAgg]
theorem idx3_1 (W : World) (k0 k1 k2 : Value) : (Instr.index 89 (.agg #[k0, k1, k2]) (.int .i64 1)).run Tryz.prog W = .ok k1 W := by
  obtain ⟨i0, hi, hz0, hz1, hz2⟩ := info_parts Tryz.infoStrR
  simp [Instr.index, asIntOf, run_underlying Tryz.underlying89, run_underlying Tryz.underlying9, sizeOf, typeInfo, hi, hz1, part, isAgg]
theorem idx3_2 (W : World) (k0 k1 k2 : Value) : (Instr.index 89 (.agg #[k0, k1, k2]) (.int .i64 2)).run Tryz.prog W = .ok k2 W := by
  obtain ⟨i0, hi, hz0, hz1, hz2⟩ := info_parts Tryz.infoStrR
  simp [Instr.index, asIntOf, run_underlying Tryz.underlying89, run_underlying Tryz.underlying9, sizeOf, typeInfo, hi, hz1, part, isAgg]
theorem idx4_0 (W : World) (k0 k1 k2 k3 : Value) : (Instr.index 90 (.agg #[k0, k1, k2, k3]) (.int .i64 0)).run Tryz.prog W = .ok k0 W := by
  obtain ⟨i0, hi, hz0, hz1, hz2⟩ := info_parts Tryz.infoStrR
  simp [Instr.index, asIntOf, run_underlying Tryz.underlying90, run_underlying Tryz.underlying9, sizeOf, typeInfo, hi, hz1, part, isAgg]
theorem idx4_1 (W : World) (k0 k1 k2 k3 : Value) : (Instr.index 90 (.agg #[k0, k1, k2, k3]) (.int .i64 1)).run Tryz.prog W = .ok k1 W := by
  obtain ⟨i0, hi, hz0, hz1, hz2⟩ := info_parts Tryz.infoStrR
  simp [Instr.index, asIntOf, run_underlying Tryz.underlying90, run_underlying Tryz.underlying9, sizeOf, typeInfo, hi, hz1, part, isAgg]
theorem idx4_2 (W : World) (k0 k1 k2 k3 : Value) : (Instr.index 90 (.agg #[k0, k1, k2, k3]) (.int .i64 2)).run Tryz.prog W = .ok k2 W := by
  obtain ⟨i0, hi, hz0, hz1, hz2⟩ := info_parts Tryz.infoStrR
  simp [Instr.index, asIntOf, run_underlying Tryz.underlying90, run_underlying Tryz.underlying9, sizeOf, typeInfo, hi, hz1, part, isAgg]
theorem idx4_3 (W : World) (k0 k1 k2 k3 : Value) : (Instr.index 90 (.agg #[k0, k1, k2, k3]) (.int .i64 3)).run Tryz.prog W = .ok k3 W := by
  obtain ⟨i0, hi, hz0, hz1, hz2⟩ := info_parts Tryz.infoStrR
  simp [Instr.index, asIntOf, run_underlying Tryz.underlying90, run_underlying Tryz.underlying9, sizeOf, typeInfo, hi, hz1, part, isAgg]

set_option maxHeartbeats 32000000 in
theorem ruRead_any (line : List UInt8) (w : World) (hl : line.length ≤ 1048576) (htx : TxE w) (hwd : Wrds w) :
    Calls Tryz.prog 25 #[.string (mkB line)] w fun e w' => ((∃ r fv tv, readO line = some r ∧ e = .returned (.tuple #[rlV r fv tv, .nilIface]) ∧ OwnSp w' w.heap.size fv r.fr ∧ OwnSp w' w.heap.size tv r.tl) ∨ (readO line = none ∧ e = .returned (.tuple #[rlV nilR (.slice none 0 0) (.slice none 0 0), .iface 45 (.int .i64 2)]))) ∧ Below w.heap.size w w' := by
  obtain ⟨Q, hQ⟩ : ∃ Q : Ending → World → Prop, Q = fun e w' => ((∃ r fv tv, readO line = some r ∧ e = .returned (.tuple #[rlV r fv tv, .nilIface]) ∧ OwnSp w' w.heap.size fv r.fr ∧ OwnSp w' w.heap.size tv r.tl) ∨ (readO line = none ∧ e = .returned (.tuple #[rlV nilR (.slice none 0 0) (.slice none 0 0), .iface 45 (.int .i64 2)]))) ∧ Below w.heap.size w w' := ⟨_, rfl⟩
  have HY : Hid (∀ r fv tv w', readO line = some r → OwnSp w' w.heap.size fv r.fr → OwnSp w' w.heap.size tv r.tl → Below w.heap.size w w' → Q (.returned (.tuple #[rlV r fv tv, .nilIface])) w') := by rw [hQ]; exact fun r fv tv w' h1 h2 h3 h4 => ⟨.inl ⟨r, fv, tv, h1, rfl, h2, h3⟩, h4⟩
  have HNO : Hid (∀ w', readO line = none → Below w.heap.size w w' → Q (.returned (.tuple #[rlV nilR (.slice none 0 0) (.slice none 0 0), .iface 45 (.int .i64 2)])) w') := by rw [hQ]; exact fun w' h1 h2 => ⟨.inr ⟨h1, rfl⟩, h2⟩
  rw [← hQ]
  clear hQ
  have HTX := hidE htx
  have HWD := hidE hwd
  obtain ⟨l0, hl0⟩ : ∃ l0, Lib.trimSuffix line [10] = l0 := ⟨_, rfl⟩
  have h0l : l0.length ≤ 1048576 := by rw [← hl0]; exact Nat.le_trans (trimS_len _ _) hl
  have hts := fun w => Tryz.strings_TrimSuffix (mkB line) (mkB [10]) w (by rw [mkB_size]; omega)
  rw [mkB_toList, mkB_toList, hl0, mk_ext, show mkB [10] = ⟨#[10]⟩ from rfl] at hts
  have HL0 := hidE hl0
  clear htx hwd hl0
  have R0 := RdSt.new w l0
  obtain ⟨S, hS⟩ : ∃ S, w.heap.size = S := ⟨_, rfl⟩
  have HS := hidE hS
  obtain ⟨W0, hW0⟩ : ∃ W0, (((((w.alloc (.cells #[.bool false, .bool false, .bool false, .int .i64 0, .int .i64 0, .int .i64 0, .int .i64 0, .int .i64 0, .int .i64 0, .slice none 0 0, .slice none 0 0] 33)).alloc (.cells #[.bool false, .bool false, .bool false, .int .i64 0, .int .i64 0, .int .i64 0, .int .i64 0, .int .i64 0, .int .i64 0, .slice none 0 0, .slice none 0 0] 33)).alloc (.cells #[.string (mkB l0)] 9)).alloc (.cells #[.func (.func 56) #[] #[.pointer (some ⟨w.heap.size + 2, 0, none⟩)]] 97)).alloc (.cells #[.func (.func 58) #[] #[.pointer (some ⟨w.heap.size + 2, 0, none⟩)]] 57)) = W0 := ⟨_, rfl⟩
  have HW0 := hidE hW0
  rw [hW0, hS] at R0
  clear hW0 hS
  go_enter Tryz.func25, Tryz.ntmps25
  go_upto_region 5 with (go_at_call 55; go_must (refine (hts _).mono ?_; rintro e w1 ⟨rfl, hw1⟩; rw [hw1]; clear hw1))
  clear hts
  rw [HW0.out, HS.out]
  rw [show S + 1 + 1 = S + 2 from rfl, show S + 2 + 1 = S + 3 from rfl, show S + 3 + 1 = S + 4 from rfl]
  clear HW0
  have hc := cut1_any (S + 2) l0 blockL W0 R0.st
  rw [show mkB blockL = ⟨#[98, 108, 111, 99, 107]⟩ from rfl] at hc
  have cc := R0.cuc
  obtain ⟨t0, ht0⟩ : ∃ t0, Lib.hasPrefix l0 blockL = t0 := ⟨_, rfl⟩
  rw [ht0] at hc
  have HT0 := hidE ht0
  clear ht0
  go_upto_if 21 with (go_at_call 56; go_must (refine hc.mono ?_; rintro e W1 ⟨rfl, st1, o1⟩))
  have R1 := hidE (R0.rest st1 o1)
  clear hc cc R0 st1 o1
  go_cut [] (fun wr => Hid (RdSt w wr S { nilR with pass := passR l0 } (.slice none 0 0) (.slice none 0 0) (passT l0)))
  case first =>
    cases t0 with
    | true =>
      have e1 : passR l0 = false := by unfold passR; rw [if_pos HT0.out]
      have e2 : passT l0 = Lib.trimPrefix l0 blockL := by unfold passT; rw [if_pos HT0.out]
      have RR : Hid (RdSt w W1 S { nilR with pass := passR l0 } (.slice none 0 0) (.slice none 0 0) (passT l0)) := by rw [e1, e2]; exact R1
      clear e1 e2
      go_wp2_with fail
      go_meet
      case rel => exact RR
    | false =>
      rw [trimP_no HT0.out] at R1
      have hc := cut1_any (S + 2) l0 passL W1 R1.out.st
      rw [show mkB passL = ⟨#[112, 97, 115, 115]⟩ from rfl] at hc
      have cc := R1.out.cuc
      have e1 : passR l0 = Lib.hasPrefix l0 passL := by unfold passR; rw [if_neg (by rw [HT0.out]; simp)]
      have e2 : passT l0 = Lib.trimPrefix l0 passL := by unfold passT; rw [if_neg (by rw [HT0.out]; simp)]
      rw [← e1, ← e2] at hc
      clear e1 e2
      go_wp2_with (go_at_call 56; go_must (refine hc.mono ?_; rintro e W2 ⟨rfl, st2, o2⟩; have R2 := hidE (R1.out.rest st2 o2); have cs := R2.out.rl.cells.1; have f0 := R2.out.rl.freeA 0))
      go_meet
      case rel =>
        obtain ⟨W3, hW3, r3, o3⟩ := R2.out.rl.storeB 0 (passR l0) { nilR with pass := passR l0 } rfl
        rw [hW3]
        exact R2.out.rule r3 o3 R2.out.pf R2.out.pt
  case rest =>
  obtain ⟨W3, hW3⟩ : ∃ W3, wc = W3 := ⟨_, rfl⟩
  rw [hW3] at hcut ⊢
  have R3 := hcut
  clear hcut hW3 R1
  have HLO := hidE (show looseR l0 = { bothR (headR l0) (headT l0) with keep := Lib.hasPrefix (bothRest (headT l0)) keepW } from rfl)
  have HHR := hidE (show headR l0 = { nilR with pass := passR l0, quick := Lib.hasPrefix (passT l0) quickW, way := (wayS (Lib.trimPrefix (passT l0) quickW) 3).1, kind := (kindS (wayS (Lib.trimPrefix (passT l0) quickW) 3).2 4).1 } from rfl)
  have HHT := hidE (show headT l0 = (kindS (wayS (Lib.trimPrefix (passT l0) quickW) 3).2 4).2 from rfl)
  have hc := cut1_any (S + 2) (passT l0) quickW W3 R3.out.st
  rw [show mkB quickW = ⟨#[32, 113, 117, 105, 99, 107]⟩ from rfl] at hc
  have cc := R3.out.cuc
  obtain ⟨P, hP⟩ : ∃ P, passR l0 = P := ⟨_, rfl⟩
  rw [hP] at R3 HHR
  obtain ⟨tq, htq⟩ : ∃ tq, Lib.hasPrefix (passT l0) quickW = tq := ⟨_, rfl⟩
  obtain ⟨l3, hl3⟩ : ∃ l3, Lib.trimPrefix (passT l0) quickW = l3 := ⟨_, rfl⟩
  rw [htq, hl3] at hc
  rw [htq, hl3] at HHR
  rw [hl3] at HHT
  clear hP htq hl3
  go_upto_region 8 with (go_at_call 56; go_must (refine hc.mono ?_; rintro e W4 ⟨rfl, st4, o4⟩; have R4 := hidE (R3.out.rest st4 o4); have cs := R4.out.rl.cells.2.1; have f1 := R4.out.rl.freeA 1))
  obtain ⟨W5, hW5, r5, o5⟩ := R4.out.rl.storeB 1 tq { nilR with pass := P, quick := tq } rfl
  rw [hW5]
  have R5 := hidE (R4.out.rule r5 o5 R4.out.pf R4.out.pt)
  clear hc cc cs f1 st4 o4 hW5 r5 o5 R4 R3
  have wd5 := HWD.out.below (w' := W5) (by rw [HS.out]; exact R5.out.bel)
  have g0 : W5.cell? ⟨0, 0, none⟩ = some (.string ⟨#[]⟩) := wd5.wayAt (k := 0) (by decide) (by decide)
  have g1 : W5.cell? ⟨0, 1, none⟩ = some (.string ⟨#[32, 105, 110]⟩) := wd5.wayAt (k := 1) (by decide) (by decide)
  have g2 : W5.cell? ⟨0, 2, none⟩ = some (.string ⟨#[32, 111, 117, 116]⟩) := wd5.wayAt (k := 2) (by decide) (by decide)
  clear wd5
  go_upto_region 9 with fail
  clear g0 g1 g2
  go_loopw [8, 9, 29] (fun _ _ i wr => ∃ k : Nat, k ≤ 3 ∧ i = .int .i64 (k : Int) ∧ Hid (RdSt w wr S { nilR with pass := P, quick := tq, way := (wayS l3 k).1 } (.slice none 0 0) (.slice none 0 0) (wayS l3 k).2)) (fun _ _ i _ => ((3 : Int) - intOf i).toNat)
  case atStart => exact ⟨0, by omega, rfl, R5.out⟩
  case round =>
  clear R5
  obtain ⟨k, hk, hi, R6⟩ := hrel
  rcases (by omega : k = 0 ∨ k = 1 ∨ k = 2 ∨ k = 3) with rfl | rfl | rfl | rfl
  · obtain rfl : u29 = .int .i64 0 := hi
    have hi0 := idx3_0
    go_wp2_with fail
    go_roundw
    case rel => exact ⟨1, by omega, rfl, R6.out⟩
    case measure => simp [intOf]
  · obtain rfl : u29 = .int .i64 1 := hi
    have hi0 := idx3_1
    have hc := cut1_any (S + 2) (wayS l3 1).2 (wayL 1) wr R6.out.st
    rw [show mkB (wayL 1) = ⟨#[32, 105, 110]⟩ from rfl] at hc
    have cc := R6.out.cuc
    obtain ⟨t, ht⟩ : ∃ t, Lib.hasPrefix (wayS l3 1).2 (wayL 1) = t := ⟨_, rfl⟩
    rw [ht] at hc
    have HN := hidE (show wayS l3 2 = (if Lib.hasPrefix (wayS l3 1).2 (wayL 1) = true then (1 : Int) else (wayS l3 1).1, Lib.trimPrefix (wayS l3 1).2 (wayL 1)) from rfl)
    rw [ht] at HN
    clear ht
    generalize Lib.trimPrefix (wayS l3 1).2 (wayL 1) = m at hc HN
    generalize (wayS l3 1).1 = v0 at R6 HN
    cases t with
    | false =>
      go_wp2_with (go_at_call 56; go_must (refine hc.mono ?_; rintro e W7 ⟨rfl, st7, o7⟩; have R7 := hidE (R6.out.rest st7 o7)))
      go_roundw
      case rel => exact ⟨2, by omega, rfl, by rw [HN.out]; exact R7⟩
      case measure => simp [intOf]
    | true =>
      go_wp2_with (go_at_call 56; go_must (refine hc.mono ?_; rintro e W7 ⟨rfl, st7, o7⟩; have R7 := hidE (R6.out.rest st7 o7); have cs := R7.out.rl.cells.2.2.2.1; have f3 := R7.out.rl.freeA 3))
      go_roundw
      case rel =>
        obtain ⟨W8, hW8, r8, o8⟩ := R7.out.rl.storeI 3 1 { nilR with pass := P, quick := tq, way := 1 } rfl
        rw [hW8]
        exact ⟨2, by omega, rfl, by rw [HN.out]; exact R7.out.rule r8 o8 R7.out.pf R7.out.pt⟩
      case measure => simp [intOf]
  · obtain rfl : u29 = .int .i64 2 := hi
    have hi0 := idx3_2
    have hc := cut1_any (S + 2) (wayS l3 2).2 (wayL 2) wr R6.out.st
    rw [show mkB (wayL 2) = ⟨#[32, 111, 117, 116]⟩ from rfl] at hc
    have cc := R6.out.cuc
    obtain ⟨t, ht⟩ : ∃ t, Lib.hasPrefix (wayS l3 2).2 (wayL 2) = t := ⟨_, rfl⟩
    rw [ht] at hc
    have HN := hidE (show wayS l3 3 = (if Lib.hasPrefix (wayS l3 2).2 (wayL 2) = true then (2 : Int) else (wayS l3 2).1, Lib.trimPrefix (wayS l3 2).2 (wayL 2)) from rfl)
    rw [ht] at HN
    clear ht
    generalize Lib.trimPrefix (wayS l3 2).2 (wayL 2) = m at hc HN
    generalize (wayS l3 2).1 = v0 at R6 HN
    cases t with
    | false =>
      go_wp2_with (go_at_call 56; go_must (refine hc.mono ?_; rintro e W7 ⟨rfl, st7, o7⟩; have R7 := hidE (R6.out.rest st7 o7)))
      go_roundw
      case rel => exact ⟨3, by omega, rfl, by rw [HN.out]; exact R7⟩
      case measure => simp [intOf]
    | true =>
      go_wp2_with (go_at_call 56; go_must (refine hc.mono ?_; rintro e W7 ⟨rfl, st7, o7⟩; have R7 := hidE (R6.out.rest st7 o7); have cs := R7.out.rl.cells.2.2.2.1; have f3 := R7.out.rl.freeA 3))
      go_roundw
      case rel =>
        obtain ⟨W8, hW8, r8, o8⟩ := R7.out.rl.storeI 3 2 { nilR with pass := P, quick := tq, way := 2 } rfl
        rw [hW8]
        exact ⟨3, by omega, rfl, by rw [HN.out]; exact R7.out.rule r8 o8 R7.out.pf R7.out.pt⟩
      case measure => simp [intOf]
  · skip
    obtain rfl : u29 = .int .i64 3 := hi
    obtain ⟨l5, hl5⟩ : ∃ l5, (wayS l3 3).2 = l5 := ⟨_, rfl⟩
    obtain ⟨wv, hwv⟩ : ∃ wv, (wayS l3 3).1 = wv := ⟨_, rfl⟩
    rw [hl5, hwv] at R6 HHR
    rw [hl5] at HHT
    clear hl5 hwv hk
    have wd6 := HWD.out.below (w' := wr) (by rw [HS.out]; exact R6.out.bel)
    have g0 : wr.cell? ⟨1, 0, none⟩ = some (.string ⟨#[]⟩) := wd6.kindAt (k := 0) (by decide) (by decide)
    have g1 : wr.cell? ⟨1, 1, none⟩ = some (.string ⟨#[32, 107, 105, 110, 100, 32, 115, 116, 114, 101, 97, 109]⟩) := wd6.kindAt (k := 1) (by decide) (by decide)
    have g2 : wr.cell? ⟨1, 2, none⟩ = some (.string ⟨#[32, 107, 105, 110, 100, 32, 115, 105, 110, 103, 108, 101]⟩) := wd6.kindAt (k := 2) (by decide) (by decide)
    have g3 : wr.cell? ⟨1, 3, none⟩ = some (.string ⟨#[32, 107, 105, 110, 100, 32, 101, 99, 104, 111]⟩) := wd6.kindAt (k := 3) (by decide) (by decide)
    clear wd6
    go_upto_region 15 with fail
    clear g0 g1 g2 g3
    obtain ⟨wA, hwA⟩ : ∃ wA, wr = wA := ⟨_, rfl⟩
    rw [hwA] at R6 ⊢
    have R5 := R6
    clear R6 hwA
    go_loopw [10, 11, 44] (fun _ _ i wr => ∃ k : Nat, k ≤ 4 ∧ i = .int .i64 (k : Int) ∧ Hid (RdSt w wr S { nilR with pass := P, quick := tq, way := wv, kind := (kindS l5 k).1 } (.slice none 0 0) (.slice none 0 0) (kindS l5 k).2)) (fun _ _ i _ => ((4 : Int) - intOf i).toNat)
    case atStart => exact ⟨0, by omega, rfl, R5.out⟩
    case round =>
    clear R5
    obtain ⟨k, hk, hi, R6⟩ := hrel
    rcases (by omega : k = 0 ∨ k = 1 ∨ k = 2 ∨ k = 3 ∨ k = 4) with rfl | rfl | rfl | rfl | rfl
    · obtain rfl : u44 = .int .i64 0 := hi
      have hi0 := idx4_0
      go_wp2_with fail
      go_roundw
      case rel => exact ⟨1, by omega, rfl, R6.out⟩
      case measure => simp [intOf]
    · obtain rfl : u44 = .int .i64 1 := hi
      have hi0 := idx4_1
      have hc := cut1_any (S + 2) (kindS l5 1).2 (kindL 1) wr R6.out.st
      rw [show mkB (kindL 1) = ⟨#[32, 107, 105, 110, 100, 32, 115, 116, 114, 101, 97, 109]⟩ from rfl] at hc
      have cc := R6.out.cuc
      obtain ⟨t, ht⟩ : ∃ t, Lib.hasPrefix (kindS l5 1).2 (kindL 1) = t := ⟨_, rfl⟩
      rw [ht] at hc
      have HN := hidE (show kindS l5 2 = (if Lib.hasPrefix (kindS l5 1).2 (kindL 1) = true then (1 : Int) else (kindS l5 1).1, Lib.trimPrefix (kindS l5 1).2 (kindL 1)) from rfl)
      rw [ht] at HN
      clear ht
      generalize Lib.trimPrefix (kindS l5 1).2 (kindL 1) = m at hc HN
      generalize (kindS l5 1).1 = v0 at R6 HN
      cases t with
      | false =>
        go_wp2_with (go_at_call 56; go_must (refine hc.mono ?_; rintro e W7 ⟨rfl, st7, o7⟩; have R7 := hidE (R6.out.rest st7 o7)))
        go_roundw
        case rel => exact ⟨2, by omega, rfl, by rw [HN.out]; exact R7⟩
        case measure => simp [intOf]
      | true =>
        go_wp2_with (go_at_call 56; go_must (refine hc.mono ?_; rintro e W7 ⟨rfl, st7, o7⟩; have R7 := hidE (R6.out.rest st7 o7); have cs := R7.out.rl.cells.2.2.2.2.1; have f3 := R7.out.rl.freeA 4))
        go_roundw
        case rel =>
          obtain ⟨W8, hW8, r8, o8⟩ := R7.out.rl.storeI 4 1 { nilR with pass := P, quick := tq, way := wv, kind := 1 } rfl
          rw [hW8]
          exact ⟨2, by omega, rfl, by rw [HN.out]; exact R7.out.rule r8 o8 R7.out.pf R7.out.pt⟩
        case measure => simp [intOf]
    · obtain rfl : u44 = .int .i64 2 := hi
      have hi0 := idx4_2
      have hc := cut1_any (S + 2) (kindS l5 2).2 (kindL 2) wr R6.out.st
      rw [show mkB (kindL 2) = ⟨#[32, 107, 105, 110, 100, 32, 115, 105, 110, 103, 108, 101]⟩ from rfl] at hc
      have cc := R6.out.cuc
      obtain ⟨t, ht⟩ : ∃ t, Lib.hasPrefix (kindS l5 2).2 (kindL 2) = t := ⟨_, rfl⟩
      rw [ht] at hc
      have HN := hidE (show kindS l5 3 = (if Lib.hasPrefix (kindS l5 2).2 (kindL 2) = true then (2 : Int) else (kindS l5 2).1, Lib.trimPrefix (kindS l5 2).2 (kindL 2)) from rfl)
      rw [ht] at HN
      clear ht
      generalize Lib.trimPrefix (kindS l5 2).2 (kindL 2) = m at hc HN
      generalize (kindS l5 2).1 = v0 at R6 HN
      cases t with
      | false =>
        go_wp2_with (go_at_call 56; go_must (refine hc.mono ?_; rintro e W7 ⟨rfl, st7, o7⟩; have R7 := hidE (R6.out.rest st7 o7)))
        go_roundw
        case rel => exact ⟨3, by omega, rfl, by rw [HN.out]; exact R7⟩
        case measure => simp [intOf]
      | true =>
        go_wp2_with (go_at_call 56; go_must (refine hc.mono ?_; rintro e W7 ⟨rfl, st7, o7⟩; have R7 := hidE (R6.out.rest st7 o7); have cs := R7.out.rl.cells.2.2.2.2.1; have f3 := R7.out.rl.freeA 4))
        go_roundw
        case rel =>
          obtain ⟨W8, hW8, r8, o8⟩ := R7.out.rl.storeI 4 2 { nilR with pass := P, quick := tq, way := wv, kind := 2 } rfl
          rw [hW8]
          exact ⟨3, by omega, rfl, by rw [HN.out]; exact R7.out.rule r8 o8 R7.out.pf R7.out.pt⟩
        case measure => simp [intOf]
    · obtain rfl : u44 = .int .i64 3 := hi
      have hi0 := idx4_3
      have hc := cut1_any (S + 2) (kindS l5 3).2 (kindL 3) wr R6.out.st
      rw [show mkB (kindL 3) = ⟨#[32, 107, 105, 110, 100, 32, 101, 99, 104, 111]⟩ from rfl] at hc
      have cc := R6.out.cuc
      obtain ⟨t, ht⟩ : ∃ t, Lib.hasPrefix (kindS l5 3).2 (kindL 3) = t := ⟨_, rfl⟩
      rw [ht] at hc
      have HN := hidE (show kindS l5 4 = (if Lib.hasPrefix (kindS l5 3).2 (kindL 3) = true then (3 : Int) else (kindS l5 3).1, Lib.trimPrefix (kindS l5 3).2 (kindL 3)) from rfl)
      rw [ht] at HN
      clear ht
      generalize Lib.trimPrefix (kindS l5 3).2 (kindL 3) = m at hc HN
      generalize (kindS l5 3).1 = v0 at R6 HN
      cases t with
      | false =>
        go_wp2_with (go_at_call 56; go_must (refine hc.mono ?_; rintro e W7 ⟨rfl, st7, o7⟩; have R7 := hidE (R6.out.rest st7 o7)))
        go_roundw
        case rel => exact ⟨4, by omega, rfl, by rw [HN.out]; exact R7⟩
        case measure => simp [intOf]
      | true =>
        go_wp2_with (go_at_call 56; go_must (refine hc.mono ?_; rintro e W7 ⟨rfl, st7, o7⟩; have R7 := hidE (R6.out.rest st7 o7); have cs := R7.out.rl.cells.2.2.2.2.1; have f3 := R7.out.rl.freeA 4))
        go_roundw
        case rel =>
          obtain ⟨W8, hW8, r8, o8⟩ := R7.out.rl.storeI 4 3 { nilR with pass := P, quick := tq, way := wv, kind := 3 } rfl
          rw [hW8]
          exact ⟨4, by omega, rfl, by rw [HN.out]; exact R7.out.rule r8 o8 R7.out.pf R7.out.pt⟩
        case measure => simp [intOf]
    · skip
      obtain rfl : u44 = .int .i64 4 := hi
      have RH : Hid (RdSt w wr S (headR l0) (.slice none 0 0) (.slice none 0 0) (headT l0)) := by rw [HHR.out, HHT.out]; exact R6
      clear R6 HHR HHT hk
      have hsd := sidesR w S (headR l0) (headT l0) wr RH.out rfl rfl (Nat.le_trans (headT_len _) h0l) HTX.out HS.out
      obtain ⟨ok, hok⟩ : ∃ ok, bothOk (headT l0) = ok := ⟨_, rfl⟩
      rw [hok] at hsd
      have HOK := hidE hok
      clear hok
      go_upto_region 21 with (go_at_call 43; go_must (refine hsd.mono ?_; rintro e W9 ⟨fv, tv, rfl, R9⟩))
      have HR9 := hidE R9
      clear hsd RH R9
      have hc := cut1_any (S + 2) (bothRest (headT l0)) keepW W9 HR9.out.st
      rw [show mkB keepW = ⟨#[32, 107, 101, 101, 112]⟩ from rfl] at hc
      have cc := HR9.out.cuc
      obtain ⟨tk, htk⟩ : ∃ tk, Lib.hasPrefix (bothRest (headT l0)) keepW = tk := ⟨_, rfl⟩
      rw [htk] at hc HLO
      clear htk
      obtain ⟨rb, hrb⟩ : ∃ rb, bothR (headR l0) (headT l0) = rb := ⟨_, rfl⟩
      rw [hrb] at HR9 HLO
      clear hrb
      generalize Lib.trimPrefix (bothRest (headT l0)) keepW = l11 at hc
      go_upto_region 22 with (go_at_call 56; go_must (refine hc.mono ?_; rintro e W10 ⟨rfl, st10, o10⟩; have R10 := hidE (HR9.out.rest st10 o10); have cs := R10.out.rl.cells.2.2.1; have f2 := R10.out.rl.freeA 2))
      obtain ⟨W11, hW11, r11, o11⟩ := R10.out.rl.storeB 2 tk { rb with keep := tk } rfl
      rw [hW11]
      have R11 := hidE (R10.out.rule r11 o11 R10.out.pf R10.out.pt)
      clear hc cc cs f2 st10 o10 hW11 r11 o11 R10 HR9
      rw [← HLO.out] at R11
      clear HLO
      cases ok with
      | false =>
        have hno : readO line = none := by unfold readO; rw [HL0.out, if_neg (by rw [HOK.out]; simp)]
        have HF := hidE (fun W' (h : Below S w W') => HNO.out W' hno (by rw [HS.out]; exact h))
        rw [okE_f]
        clear hno HNO HY
        obtain ⟨x0, x1, x2, x3, x4, x5, x6, x7, x8, x9, x10⟩ := R11.out.rs.cells
        have y0 := R11.out.rs.freeA 0
        have y1 := R11.out.rs.freeA 1
        have y2 := R11.out.rs.freeA 2
        have y3 := R11.out.rs.freeA 3
        have y4 := R11.out.rs.freeA 4
        have y5 := R11.out.rs.freeA 5
        have y6 := R11.out.rs.freeA 6
        have y7 := R11.out.rs.freeA 7
        have y8 := R11.out.rs.freeA 8
        have y9 := R11.out.rs.freeA 9
        have y10 := R11.out.rs.freeA 10
        go_wp2_with fail
        obtain ⟨W20, hW20, r20, o20⟩ := R11.out.rs.storeAll nilR (.slice none 0 0) (.slice none 0 0)
        simp only [nilR] at hW20
        rw [hW20]
        obtain ⟨z0, z1, z2, z3, z4, z5, z6, z7, z8, z9, z10⟩ := r20.cells
        exact bodyPost_ret (v := .tuple #[rlV nilR (.slice none 0 0) (.slice none 0 0), .iface 45 (.int .i64 2)]) (by simp [results, Tryz.results25, go_sem, rlV, z0, z1, z2, z3, z4, z5, z6, z7, z8, z9, z10]) rfl (HF.out W20 (o20.below (Nat.le_refl S) R11.out.bel))
      | true =>
        have hwt := loose_writ HOK.out
        obtain ⟨r, hr⟩ : ∃ r, looseR l0 = r := ⟨_, rfl⟩
        rw [hr] at R11 hwt
        have hrd : ∀ (b : Prop) [Decidable b], (b ↔ lineL r ++ [10] = line) → readO line = if b then some r else none := fun b _ hb => by
          unfold readO
          rw [HL0.out, hr, HOK.out]
          by_cases h : b
          · rw [if_pos h, if_pos ⟨rfl, hb.1 h⟩]
          · rw [if_neg h, if_neg (fun x => h (hb.2 x.2))]
        have HRD := hidE (hrd (lineL r ++ [10] = line) Iff.rfl)
        clear hr hrd
        obtain ⟨af, cf, hfe⟩ := R11.out.pf.len
        obtain ⟨at', ct, hte⟩ := R11.out.pt.len
        generalize r.fr.length = nf at hfe
        generalize r.tl.length = nt at hte
        subst hfe hte
        have hbw : Below w.heap.size w W11 := by rw [HS.out]; exact R11.out.bel
        have hwr := write_any r af at' nf cf nt ct W11 R11.out.pf.spns R11.out.pt.spns (HTX.out.below hbw) (HWD.out.below hbw) hwt.w0 hwt.w2 hwt.k0 hwt.k3 hwt.src hwt.dst hwt.s1 hwt.s2 (by have := hwt.frl; omega) (by have := hwt.tll; omega) (by have := lineL_len hwt; omega)
        unfold rlV at hwr
        obtain ⟨c0, c1, c2, c3, c4, c5, c6, c7, c8, c9, c10⟩ := R11.out.rl.cells
        rw [okE_t]
        clear hbw hwt
        by_cases heq : lineL r ++ [10] = line
        · have hse := str_eq (congrArg mkB heq)
          have hyes : readO line = some r := by rw [HRD.out, if_pos heq]
          have HF := hidE (fun fv tv W' h1 h2 (h : Below S w W') => HY.out r fv tv W' hyes h1 h2 (by rw [HS.out]; exact h))
          clear hyes HNO HY HRD heq
          generalize mkB (lineL r ++ [10]) = ag at hwr hse
          go_upto_region 27 with (go_at_call 19; go_must (refine hwr.mono ?_; rintro e W12 ⟨rfl, b12⟩))
          have R12 := hidE (R11.out.step b12)
          clear hwr b12 R11 c0 c1 c2 c3 c4 c5 c6 c7 c8 c9 c10 hse
          obtain ⟨c0, c1, c2, c3, c4, c5, c6, c7, c8, c9, c10⟩ := R12.out.rl.cells
          obtain ⟨x0, x1, x2, x3, x4, x5, x6, x7, x8, x9, x10⟩ := R12.out.rs.cells
          have y0 := R12.out.rs.freeA 0
          have y1 := R12.out.rs.freeA 1
          have y2 := R12.out.rs.freeA 2
          have y3 := R12.out.rs.freeA 3
          have y4 := R12.out.rs.freeA 4
          have y5 := R12.out.rs.freeA 5
          have y6 := R12.out.rs.freeA 6
          have y7 := R12.out.rs.freeA 7
          have y8 := R12.out.rs.freeA 8
          have y9 := R12.out.rs.freeA 9
          have y10 := R12.out.rs.freeA 10
          go_wp2_with fail
          obtain ⟨W20, hW20, r20, o20⟩ := R12.out.rs.storeAll r (.slice af nf cf) (.slice at' nt ct)
          rw [hW20]
          obtain ⟨z0, z1, z2, z3, z4, z5, z6, z7, z8, z9, z10⟩ := r20.cells
          refine bodyPost_ret (v := .tuple #[rlV r (.slice af nf cf) (.slice at' nt ct), .nilIface]) (by simp [results, Tryz.results25, go_sem, rlV, z0, z1, z2, z3, z4, z5, z6, z7, z8, z9, z10]) rfl (HF.out _ _ W20 ?_ ?_ (o20.below (Nat.le_refl S) R12.out.bel))
          · rw [HS.out]; exact (R12.out.pf.only o20 (by omega)).base (by omega)
          · rw [HS.out]; exact (R12.out.pt.only o20 (by omega)).base (by omega)
        · have hse := str_ne (fun h => heq (mkB_inj h))
          have hno : readO line = none := by rw [HRD.out, if_neg heq]
          have HF := hidE (fun W' (h : Below S w W') => HNO.out W' hno (by rw [HS.out]; exact h))
          clear hno HNO HY HRD heq
          generalize mkB (lineL r ++ [10]) = ag at hwr hse
          go_upto_region 26 with (go_at_call 19; go_must (refine hwr.mono ?_; rintro e W12 ⟨rfl, b12⟩))
          have R12 := hidE (R11.out.step b12)
          clear hwr b12 R11 c0 c1 c2 c3 c4 c5 c6 c7 c8 c9 c10 hse
          obtain ⟨x0, x1, x2, x3, x4, x5, x6, x7, x8, x9, x10⟩ := R12.out.rs.cells
          have y0 := R12.out.rs.freeA 0
          have y1 := R12.out.rs.freeA 1
          have y2 := R12.out.rs.freeA 2
          have y3 := R12.out.rs.freeA 3
          have y4 := R12.out.rs.freeA 4
          have y5 := R12.out.rs.freeA 5
          have y6 := R12.out.rs.freeA 6
          have y7 := R12.out.rs.freeA 7
          have y8 := R12.out.rs.freeA 8
          have y9 := R12.out.rs.freeA 9
          have y10 := R12.out.rs.freeA 10
          go_wp2_with fail
          obtain ⟨W20, hW20, r20, o20⟩ := R12.out.rs.storeAll nilR (.slice none 0 0) (.slice none 0 0)
          simp only [nilR] at hW20
          rw [hW20]
          obtain ⟨z0, z1, z2, z3, z4, z5, z6, z7, z8, z9, z10⟩ := r20.cells
          exact bodyPost_ret (v := .tuple #[rlV nilR (.slice none 0 0) (.slice none 0 0), .iface 45 (.int .i64 2)]) (by simp [results, Tryz.results25, go_sem, rlV, z0, z1, z2, z3, z4, z5, z6, z7, z8, z9, z10]) rfl (HF.out W20 (o20.below (Nat.le_refl S) R12.out.bel))
end Go.Proofs.YthnkjfgiclolaaaGreatDoor
