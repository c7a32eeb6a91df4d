/- What at of package table returns, for every table and every time: the table as it is then, its map another one, and the keys of what is gone. -/
import Derived.Test.YtdhjfjnjdkmhjaaDoorTblAt
import Derived.Test.YtdhjfjnjdkmhjaaDoorOwnN
import Derived.Test.YtdhjfjnjdkmhjaaDoorTrkChk
import Derived.Deep.DeepMust
import Derived.Deep.DeepCutAuto
import Derived.Deep.LoopGhost
namespace Go.Proofs.YtdhjfjnjdkmhjaaDoor
open Go.RowKit Go.Maps
set_option linter.unusedVariables false

def kyRow (k : Ky) : List Value := [.int .i64 k.kind, .int .i64 k.src, .int .i64 k.frm, .int .i64 k.dst, .int .i64 k.too]
/-- The value v is a slice of the call's own that holds the keys ks. -/
def OwnKy (w : World) (base : Nat) (v : Value) (ks : List Ky) : Prop := OwnN 23 5 kyRow w base v ks
theorem Tryd.infoKey : (Tryd.prog.info? 23).map (fun i => (i.zero, i.size, i.bytes)) = some (some (.agg #[.int .i64 0, .int .i64 0, .int .i64 0, .int .i64 0, .int .i64 0]), 5, 40) := by kernel_rfl
theorem wpList_append_ky {w : World} {ops : Array Oper} {rest : List Oper} {o : Oper} {a : Act} {Q : Exit → Act → World → Prop} (hgd : o.guard = none) (s x : Operand)
    (ho : o.op = .call { callee := .builtin .append, args := #[s, x], argTypes := #[76, 76] })
    (base : Nat) (v : Value) (ks : List Ky) (hs : a.eval s = v) (hown : OwnKy w base v ks) (k : Ky) (hx : a.eval x = .slice (some ⟨w.heap.size, 0, none⟩) 1 1)
    (hlen : ks.length ≤ 4398046511 ) (hbase : base ≤ w.heap.size)
    (h : ∀ v' w', OwnKy w' base v' (ks ++ [k]) → (w.alloc (.cells #[.int .i64 k.kind, .int .i64 k.src, .int .i64 k.frm, .int .i64 k.dst, .int .i64 k.too] 23)).grownBy w' v.ownBlock → wpList Tryd.prog ops Q rest (a.put o.dst v') w') :
    wpList Tryd.prog ops Q (o :: rest) a (w.alloc (.cells #[.int .i64 k.kind, .int .i64 k.src, .int .i64 k.frm, .int .i64 k.dst, .int .i64 k.too] 23)) := by
  obtain ⟨i0, hi, hz0, hz1, hz2⟩ := info_parts Tryd.infoKey
  refine wpList_append_own1 (enc := kyRow) (xs := ks) (base := base) (v := v) hgd s x 76 ho i0 _ 40 Tryd.underlying76 hi hz0 hz1 hz2 rfl (by decide) (fun _ => rfl) hs (OwnN.alloc hown _) k ⟨w.heap.size, 0, none⟩ hx ?_ ?_ (by unfold maxLen; omega) (by omega) (by simp; omega) ?_
  · intro j u hj
    match j, hj with
    | 0, hj => simp [kyRow] at hj; subst hj; simp [Addr.add]
    | 1, hj => simp [kyRow] at hj; subst hj; simp [Addr.add]
    | 2, hj => simp [kyRow] at hj; subst hj; simp [Addr.add]
    | 3, hj => simp [kyRow] at hj; subst hj; simp [Addr.add]
    | 4, hj => simp [kyRow] at hj; subst hj; simp [Addr.add]
    | j + 5, hj => simp [kyRow] at hj
  · intro u hu
    simp only [kyRow, List.mem_cons, List.not_mem_nil, or_false] at hu
    rcases hu with rfl | rfl | rfl | rfl | rfl <;> rfl
  · intro v' w' h1 h2 _
    exact h v' w' h1 h2
/-- Is what a map holds gone? -/
def goneV (now : Int) (v : Value) : Bool := match v with
  | .agg cs => (match (cs[6]? : Option Value) with
    | some (Value.int _ u) => decide (u ≤ now)
    | _ => false)
  | _ => false
theorem goneV_fl (now : Int) (f : Fl) : goneV now (flV f) = goneB now f := rfl
theorem fls_left {now : Int} {fs : List Fl} : (flsL fs).filter (fun x => !goneV now x.2) = flsL (leftL now fs) := by
  unfold flsL leftL
  rw [List.filter_map]; rfl
theorem filter_more {α : Type} {l : List α} {p q : α → Bool} {f : α} (hf : f ∈ l) (hn : l.Nodup) (h0 : p f = false) (h1 : q f = true) (h2 : ∀ x ∈ l, x ≠ f → q x = p x) : (l.filter q).Perm (f :: l.filter p) := by
  induction l with
  | nil => cases hf
  | cons a r ih =>
    rw [List.nodup_cons] at hn
    rcases List.mem_cons.1 hf with rfl | hf'
    · rw [List.filter_cons_of_pos (by simpa using h1), List.filter_cons_of_neg (by simp [h0])]
      refine List.Perm.cons _ ?_
      rw [List.filter_congr (fun x hx => h2 x (List.mem_cons_of_mem _ hx) (fun e => hn.1 (e ▸ hx)))]
    · have hne : a ≠ f := fun e => hn.1 (e ▸ hf')
      have ih' := ih hf' hn.2 (fun x hx => h2 x (List.mem_cons_of_mem _ hx))
      have ha := h2 a List.mem_cons_self hne
      cases hp : p a
      · rw [List.filter_cons_of_neg (by simp [ha, hp]), List.filter_cons_of_neg (by simp [hp])]; exact ih'
      · rw [List.filter_cons_of_pos (by simp [ha, hp]), List.filter_cons_of_pos (by simpa using hp)]
        exact (List.Perm.cons a ih').trans (List.Perm.swap f a _)
theorem nodup_of_apart {fs : List Fl} (h : fs.Pairwise fun f g => firstK f.key ≠ firstK g.key) : fs.Nodup := by
  refine List.Pairwise.imp ?_ h
  intro a b hab e
  exact hab (by rw [e])
/-- What is under way: the map that is left, the keys of what is gone so far. -/
structure AtS (w : World) (t : Tb) (now : Int) (X m' R : Nat) (left : Lit → Bool) (v : Value) (ks : List Ky) (W : World) : Prop where
  cur : W.heap[X]? = some (.cells #[.int .i64 t.max, .int .i64 now, .map (some m')] 75 (0, 0))
  map : MapIs Tryd.prog 23 W m' ((flsL t.fs).filter fun x => left x.1 || !goneV now x.2)
  own : OwnKy W (R + 1) v ks
  pm : ks.Perm ((t.fs.filter fun f => goneB now f && !left (litK (firstK f.key))).map Fl.key)
  bel : Below w.heap.size w W
  lx : w.heap.size ≤ X
  lm : w.heap.size ≤ m'
  xr : X < R
  mr : m' < R
  rs : R < W.heap.size
theorem AtS.ne {w W : World} {t : Tb} {now : Int} {X m' R : Nat} {left : Lit → Bool} {v : Value} {ks : List Ky} (h : AtS w t now X m' R left v ks W) : X ≠ m' := fun e => by
  have hm := h.map
  rw [← e] at hm
  exact hm.not_cells h.cur
theorem AtS.grown {w W W' : World} {t : Tb} {now : Int} {X m' R : Nat} {left : Lit → Bool} {v : Value} {ks : List Ky} (h : AtS w t now X m' R left v ks W) (hg : W.grownBy W' (some R)) : AtS w t now X m' R left v ks W' := by
  have hx := blk_lt h.cur
  have hm := h.map.lt
  have := h.xr
  have := h.mr
  refine ⟨(hg.block X hx (by simp; omega)).trans h.cur, h.map.block (hg.block m' hm (by simp; omega)), OwnN.blk h.own (fun k hk => ?_), h.pm, ?_, h.lx, h.lm, h.xr, h.mr, Nat.lt_of_lt_of_le h.rs hg.size⟩
  · have := OwnN.block h.own k hk
    exact hg.block k this.2 (by simp; omega)
  · have hb := h.bel
    exact ⟨hg.os.trans hb.os, hg.tape.trans hb.tape, hg.output.trans hb.output, Nat.le_trans hb.size hg.size, fun i hi => (hg.block i (by have := hb.size; omega) (by have := h.lx; simp; omega)).trans (hb.block i hi)⟩
theorem AtS.step {w W W' : World} {t : Tb} {now : Int} {X m' R : Nat} {left : Lit → Bool} {v : Value} {ks : List Ky} (h : AtS w t now X m' R left v ks W) (hb : Below W.heap.size W W') : AtS w t now X m' R left v ks W' :=
  ⟨(hb.block X (blk_lt h.cur)).trans h.cur, h.map.block (hb.block m' h.map.lt), OwnN.below h.own hb, h.pm, h.bel.trans (hb.mono h.bel.size), h.lx, h.lm, h.xr, h.mr, Nat.lt_of_lt_of_le h.rs hb.size⟩
set_option maxRecDepth 100000 in
theorem fls_find {fs : List Fl} {kl : Lit} {c : Value} (h : (kl, c) ∈ flsL fs) : ∃ f ∈ fs, kl = litK (firstK f.key) ∧ c = flV f := by
  obtain ⟨f, hf, e⟩ := fls_mem.1 h
  exact ⟨f, hf, congrArg Prod.fst e, congrArg Prod.snd e⟩
theorem left_lit {fs : List Fl} (hok : ∀ f ∈ fs, KyOk f.key) (hap : fs.Pairwise fun f g => firstK f.key ≠ firstK g.key) {f : Fl} (hf : f ∈ fs) : ∀ g ∈ fs, g ≠ f → (litK (firstK g.key)).sameKey (litK (firstK f.key)) = false := by
  intro g hg hne
  refine sameKey_ne (fun e => ?_)
  have e' := litK_inj (hok g hg).first (hok f hf).first e
  clear e
  induction fs with
  | nil => cases hf
  | cons a r ih =>
    rw [List.pairwise_cons] at hap
    rcases List.mem_cons.1 hf with rfl | hf' <;> rcases List.mem_cons.1 hg with rfl | hg'
    · exact hne rfl
    · exact hap.1 g hg' e'.symm
    · exact hap.1 f hf' e'
    · exact ih (fun x hx => hok x (List.mem_cons_of_mem _ hx)) hap.2 hf' hg'
set_option maxRecDepth 100000 in
theorem lit_self {k : Ky} (h : KyOk k) : (litK k).sameKey (litK k) = true := by
  have h1 := keyK h
  have hk := lawK.key h1
  clear h1
  generalize litK k = q at hk ⊢
  exact WideAt.sameKey_self hk
/-- A flow that is not gone stays. -/
theorem AtS.stay {w W : World} {t : Tb} {now : Int} {X m' R : Nat} {left : Lit → Bool} {v : Value} {ks : List Ky} (h : AtS w t now X m' R left v ks W) (hok : ∀ f ∈ t.fs, KyOk f.key) (hap : t.fs.Pairwise fun f g => firstK f.key ≠ firstK g.key) {f : Fl} (hf : f ∈ t.fs) (hg : goneB now f = false) :
    AtS w t now X m' R (fun z => left z && !z.sameKey (litK (firstK f.key))) v ks W := by
  have hL := left_lit hok hap hf
  refine ⟨h.cur, ?_, h.own, ?_, h.bel, h.lx, h.lm, h.xr, h.mr, h.rs⟩
  · have e : (flsL t.fs).filter (fun x => left x.1 || !goneV now x.2) = (flsL t.fs).filter (fun x => (left x.1 && !x.1.sameKey (litK (firstK f.key))) || !goneV now x.2) := List.filter_congr (fun x hx => by
      obtain ⟨g, hg', rfl⟩ := fls_mem.1 hx
      simp only [goneV_fl]
      by_cases e : g = f
      · subst e; rw [hg]; simp
      · rw [hL g hg' e]; simp)
    rw [← e]; exact h.map
  · have e : t.fs.filter (fun g => goneB now g && !left (litK (firstK g.key))) = t.fs.filter (fun g => goneB now g && !(left (litK (firstK g.key)) && !(litK (firstK g.key)).sameKey (litK (firstK f.key)))) := List.filter_congr (fun g hg' => by
      by_cases e : g = f
      · subst e; rw [hg]; simp
      · rw [hL g hg' e]; simp)
    rw [← e]; exact h.pm
/-- A flow that is gone goes. -/
theorem AtS.goes {w W W' W2 : World} {t : Tb} {now : Int} {X m' R : Nat} {left : Lit → Bool} {v v' : Value} {ks : List Ky} (h : AtS w t now X m' R left v ks W) (hok : ∀ f ∈ t.fs, KyOk f.key) (hap : t.fs.Pairwise fun f g => firstK f.key ≠ firstK g.key) {f : Fl} (hf : f ∈ t.fs) (hg : goneB now f = true) (hl : left (litK (firstK f.key)) = true)
    (hW : Below W.heap.size W W') (hg' : W'.grownBy W2 v.ownBlock) (ho : OwnKy W2 (R + 1) v' (ks ++ [f.key])) :
    W2.heap[X]? = some (.cells #[.int .i64 t.max, .int .i64 now, .map (some m')] 75 (0, 0)) ∧ MapIs Tryd.prog 23 W2 m' ((flsL t.fs).filter fun x => left x.1 || !goneV now x.2) ∧ Below w.heap.size w W2 ∧ R < W2.heap.size ∧
    ∀ W3, W2.grownBy W3 (some m') → MapIs Tryd.prog 23 W3 m' (((flsL t.fs).filter fun x => left x.1 || !goneV now x.2).filter fun x => !x.1.sameKey (litK (firstK f.key))) → AtS w t now X m' R (fun z => left z && !z.sameKey (litK (firstK f.key))) v' (ks ++ [f.key]) W3 := by
  have h1 := h.step hW
  have hxr := h.xr
  have hmr := h.mr
  have hno : ∀ i, i ≤ R → some i ≠ v.ownBlock := fun i hi e => by
    have := OwnN.block h.own i e.symm
    omega
  have c2 := (hg'.block X (blk_lt h1.cur) (hno X (by omega))).trans h1.cur
  have m2 := h1.map.block (hg'.block m' h1.map.lt (hno m' (by omega)))
  have b2 : Below w.heap.size w W2 := by
    have hb := h1.bel
    refine ⟨hg'.os.trans hb.os, hg'.tape.trans hb.tape, hg'.output.trans hb.output, Nat.le_trans hb.size hg'.size, fun i hi => (hg'.block i (by have := hb.size; omega) (fun e => ?_)).trans (hb.block i hi)⟩
    have := OwnN.block h.own i e.symm
    have := h.lx
    omega
  have r2 : R < W2.heap.size := Nat.lt_of_lt_of_le h1.rs hg'.size
  refine ⟨c2, m2, b2, r2, fun W3 hg3 hm3 => ?_⟩
  have hL := left_lit hok hap hf
  have hS := lit_self (hok f hf).first
  refine ⟨(hg3.block X (blk_lt c2) (by simpa using h.ne)).trans c2, ?_, OwnN.blk ho (fun k hk => ?_), ?_, ?_, h.lx, h.lm, h.xr, h.mr, Nat.lt_of_lt_of_le r2 hg3.size⟩
  · have e : ((flsL t.fs).filter (fun x => left x.1 || !goneV now x.2)).filter (fun x => !x.1.sameKey (litK (firstK f.key))) = (flsL t.fs).filter (fun x => (left x.1 && !x.1.sameKey (litK (firstK f.key))) || !goneV now x.2) := by
      rw [List.filter_filter]
      refine List.filter_congr (fun x hx => ?_)
      obtain ⟨g, hg', rfl⟩ := fls_mem.1 hx
      simp only [goneV_fl]
      by_cases e : g = f
      · subst e; rw [hg, hS]; simp
      · rw [hL g hg' e]; simp
    rw [← e]; exact hm3
  · have := OwnN.block ho k hk
    exact hg3.block k this.2 (by simp; omega)
  · have hp := filter_more (l := t.fs) (p := fun g => goneB now g && !left (litK (firstK g.key))) (q := fun g => goneB now g && !(left (litK (firstK g.key)) && !(litK (firstK g.key)).sameKey (litK (firstK f.key)))) hf (nodup_of_apart hap) (by simp [hl]) (by simp [hg, hS]) (fun g hg' e => by rw [hL g hg' e]; simp)
    have h2 := (h.pm.append_right [f.key])
    refine h2.trans ?_
    refine (List.perm_append_comm).trans ?_
    have h3 := (hp.map Fl.key).symm
    simpa using h3
  · exact ⟨hg3.os.trans b2.os, hg3.tape.trans b2.tape, hg3.output.trans b2.output, Nat.le_trans b2.size hg3.size, fun i hi => (hg3.block i (by have := b2.size; omega) (by have := h.lm; simp; omega)).trans (b2.block i hi)⟩
end Go.Proofs.YtdhjfjnjdkmhjaaDoor
