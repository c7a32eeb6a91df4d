/- A pool stays one that may be; the pieces of a packet, put together in any order: plain facts on lists. No condition is asked of a program. -/
import Derived.Test.YtgodjaffmojhlaaDoorMgD
import Derived.Test.YtgodjaffmojhlaaDoorMgD
namespace Go.Proofs.YtgodjaffmojhlaaDoor
set_option linter.unusedVariables false

theorem OkP.add {s : Po} (h : OkP s) (x : Pk) (now : Int) : OkP (addA s x now).1 := by
  unfold addA
  split
  · exact h
  · rename_i he
    have he' : pkErr x = 0 := Classical.not_not.1 he
    have hp := (of_pkIn (pkErr_ok he').1).2.2.2.2.2
    split
    · exact h
    · split
      · exact h.tick now
      · split
        · exact h.tick now
        · rename_i hfull
          have h1 := h.tick now
          generalize tickS s now = s1 at h1 hfull ⊢
          clear h
          have hset : ∀ g : Hp, g.name = (nmOf x) → OkH g → OkP { s1 with l := setH s1.l g } := by
            intro g hg ok
            refine ⟨fun k hk => ?_, setH_apart h1.apart, ?_⟩
            · rcases setH_mem hk with rfl | ⟨hk, _⟩
              · exact ok
              · exact h1.each k hk
            · show (setH s1.l g).length ≤ 8
              rw [setH_len, hg]
              by_cases hn : getH s1.l (nmOf x) = none
              · rw [if_pos hn]
                have : ¬ 8 ≤ s1.l.length := fun h8 => hfull ⟨hn, h8⟩
                omega
              · rw [if_neg hn]; exact h1.few
          have hH : (orNew (getH s1.l (nmOf x)) (nmOf x) now).name = nmOf x ∧ GoodP (orNew (getH s1.l (nmOf x)) (nmOf x) now).all ∧ ∀ y ∈ (orNew (getH s1.l (nmOf x)) (nmOf x) now).all, nmOf y = nmOf x ∧ pkErr y = 0 := by
            rcases hg : getH s1.l (nmOf x) with _ | g
            · exact ⟨rfl, GoodP.nil, fun y hy => (by cases hy)⟩
            · obtain ⟨g1, g2⟩ := getH_some hg
              have := h1.each g g1
              exact ⟨g2, this.good, fun y hy => by have := this.kin y hy; rw [← g2]; exact this⟩
          generalize orNew (getH s1.l (nmOf x)) (nmOf x) now = g at hH ⊢
          obtain ⟨gn, gg, gk⟩ := hH
          unfold addH
          split
          · exact h1
          · split
            · exact hset _ gn ⟨GoodP.nil, fun _ => rfl, fun y hy => (by cases hy)⟩
            · rename_i hb hw
              have hw' : wrongB g.all x = false := by simpa using hw
              have hb' : g.bad = false := by simpa using hb
              split
              · exact ⟨fun k hk => h1.each k (List.mem_filter.1 hk).1, h1.apart.filter _, Nat.le_trans (List.length_filter_le _ _) h1.few⟩
              · rename_i hd
                refine hset _ gn ⟨gg.snoc hp.1 hw', fun hc => ?_, fun y hy => ?_⟩
                · have hc' : g.bad = true := hc
                  rw [hb'] at hc'; cases hc'
                · rcases List.mem_append.1 hy with h' | h'
                  · rw [gn]; exact gk y h'
                  · rw [List.mem_singleton.1 h', gn]; exact ⟨rfl, he'⟩

/-! ### the pieces of a packet -/
section
variable {p : Pk} {size : Int}
def piece (p : Pk) (size : Int) (i : Nat) : Pk := (splitL p size).getD i zeroK
theorem piece_of (h : splitE p size = 0) {i : Nat} (hi : i < (splitL p size).length) : PieceOf p size (splitL p size).length i (piece p size i) := by
  unfold piece
  rw [show (splitL p size).getD i zeroK = (splitL p size)[i] by simp [List.getD, hi]]
  exact pieceOf h i hi
theorem split_pos (h : splitE p size = 0) : 0 < (splitL p size).length := by unfold splitL; rw [if_pos h, cutL_length]; omega
/-- Where a piece lies. -/
structure At8 (p : Pk) (size : Int) (i : Nat) : Prop where
  lo : loP (piece p size i) = i * (8 * (size.toNat / 8))
  hi : hiP (piece p size i) = if i + 1 < (splitL p size).length then (i + 1) * (8 * (size.toNat / 8)) else p.body.length
  len : i + 1 < (splitL p size).length → (i + 1) * (8 * (size.toNat / 8)) < p.body.length
  pos : 0 ≤ (piece p size i).pos
  more : (piece p size i).more = decide (i + 1 < (splitL p size).length)
theorem at8 (h : splitE p size = 0) (h0 : p.pos = 0) (hm : p.more = false) {i : Nat} (hi : i < (splitL p size).length) : At8 p size i := by
  have hp := piece_of h hi
  obtain ⟨h8, h4, he, hf⟩ := of_splitE h
  have hpos : 0 ≤ (piece p size i).pos := by have := hp.at8; omega
  have hlo : loP (piece p size i) = i * (8 * (size.toNat / 8)) := by have := hp.at8; unfold loP; omega
  have hK : (splitL p size).length = fK p.body.length size.toNat + 1 := by unfold splitL; rw [if_pos h, cutL_length]
  have hb := hp.body
  have hl : i + 1 < (splitL p size).length → (i + 1) * (8 * (size.toNat / 8)) < p.body.length := by
    intro hi'
    have := fK_le (len := p.body.length) (size := size.toNat) (k := i) (by omega) (by omega)
    rw [Nat.succ_mul]; exact this
  refine ⟨hlo, ?_, hl, hpos, ?_⟩
  · unfold hiP
    rw [hlo]
    by_cases hc : i + 1 < (splitL p size).length
    · rw [if_pos hc, (hp.more hc).2, Nat.add_one_mul i (8 * (size.toNat / 8))]
    · rw [if_neg hc]
      rw [if_neg hc] at hb
      rw [hb, List.length_drop]
      have : i * (8 * (size.toNat / 8)) ≤ p.body.length := by
        rcases Nat.eq_zero_or_pos i with h0 | h0
        · rw [h0]; omega
        · have := fK_le (len := p.body.length) (size := size.toNat) (k := i - 1) (by omega) (by omega)
          have e : i * (8 * (size.toNat / 8)) = (i - 1) * (8 * (size.toNat / 8)) + 8 * (size.toNat / 8) := by
            rw [← Nat.succ_mul]; congr 1; omega
          omega
      omega
  · by_cases hc : i + 1 < (splitL p size).length
    · rw [(hp.more hc).1]; simp [hc]
    · rw [hp.last (by omega), hm]; simp [hc]
theorem piece_one (h : splitE p size = 0) (h0 : p.pos = 0) (hm : p.more = false) (h2 : 2 ≤ (splitL p size).length) {i : Nat} (hi : i < (splitL p size).length) : OneP (piece p size i) := by
  have ha := at8 h h0 hm hi
  have hp := piece_of h hi
  obtain ⟨h8, h4, he, hf⟩ := of_splitE h
  have hlen := (pkErr_ok he).2
  have e : hiP (piece p size i) = loP (piece p size i) + (piece p size i).body.length := rfl
  have h1 := ha.lo
  have h3 := ha.hi
  have hs : 0 < 8 * (size.toNat / 8) := by omega
  by_cases hc : i + 1 < (splitL p size).length
  · rw [if_pos hc, Nat.succ_mul] at h3
    have := ha.len hc
    rw [Nat.succ_mul] at this
    exact ⟨ha.pos, by omega, fun _ => by rw [(hp.more hc).2]; omega, by omega⟩
  · rw [if_neg hc] at h3
    have hl := (at8 h h0 hm (i := i - 1) (by omega)).len (by omega)
    rw [show i - 1 + 1 = i by omega] at hl
    refine ⟨ha.pos, by omega, fun hh => ?_, by omega⟩
    rw [ha.more] at hh; simp [hc] at hh
theorem piece_fit (h : splitE p size = 0) (h0 : p.pos = 0) (hm : p.more = false) {i j : Nat} (hi : i < (splitL p size).length) (hj : j < (splitL p size).length) (hne : i < j) : FitP (piece p size i) (piece p size j) := by
  have a := at8 h h0 hm hi
  have b := at8 h h0 hm hj
  have hci : i + 1 < (splitL p size).length := by omega
  have a3 := a.hi
  rw [if_pos hci] at a3
  have am := a.more
  have bm := b.more
  simp only [hci, decide_true] at am
  have hle : (i + 1) * (8 * (size.toNat / 8)) ≤ j * (8 * (size.toNat / 8)) := Nat.mul_le_mul_right _ hne
  refine ⟨.inl (by rw [a3, b.lo]; exact hle), fun hc => (by rw [am] at hc; cases hc), fun hc => ⟨am, ?_⟩⟩
  have b3 := b.hi
  by_cases hcj : j + 1 < (splitL p size).length
  · rw [bm] at hc; simp [hcj] at hc
  · rw [if_neg hcj] at b3
    rw [a3, b3]
    exact Nat.le_of_lt (a.len hci)
/-- Some of the pieces, each once, go together. -/
theorem pieces_good (h : splitE p size = 0) (h0 : p.pos = 0) (hm : p.more = false) (h2 : 2 ≤ (splitL p size).length) {js : List Nat} (hj : ∀ j ∈ js, j < (splitL p size).length) (hn : js.Nodup) : GoodP (js.map (piece p size)) := by
  refine ⟨fun x hx => ?_, ?_⟩
  · obtain ⟨j, hj', rfl⟩ := List.mem_map.1 hx
    exact piece_one h h0 hm h2 (hj j hj')
  · rw [List.pairwise_map]
    refine List.Pairwise.imp_of_mem ?_ hn
    intro a b ha hb hne
    rcases Nat.lt_or_gt_of_ne hne with hlt | hlt
    · exact piece_fit h h0 hm (hj a ha) (hj b hb) hlt
    · exact (piece_fit h h0 hm (hj b hb) (hj a ha) hlt).symm
theorem all_of_len {n : Nat} {js : List Nat} (hj : ∀ j ∈ js, j < n) (hn : js.Nodup) : js.length ≤ n ∧ (js.length = n ↔ ∀ j, j < n → j ∈ js) := by
  obtain ⟨a, b⟩ := room_le n js hn hj
  exact ⟨a, b, fun hc => by have := room_ge n js hc; omega⟩
theorem cover_piece (h : splitE p size = 0) (h0 : p.pos = 0) (hm : p.more = false) {i : Nat} (hi : i < p.body.length) : ∃ j, j < (splitL p size).length ∧ loP (piece p size j) ≤ i ∧ i < hiP (piece p size j) := by
  obtain ⟨h8, h4, he, hf⟩ := of_splitE h
  have hs : 0 < 8 * (size.toNat / 8) := by omega
  have hpos := split_pos h
  have hdm : i / (8 * (size.toNat / 8)) * (8 * (size.toNat / 8)) ≤ i := Nat.div_mul_le_self _ _
  by_cases hc : i / (8 * (size.toNat / 8)) + 1 < (splitL p size).length
  · refine ⟨i / (8 * (size.toNat / 8)), by omega, ?_, ?_⟩
    · rw [(at8 h h0 hm (show i / (8 * (size.toNat / 8)) < _ by omega)).lo]; exact hdm
    · rw [(at8 h h0 hm (show i / (8 * (size.toNat / 8)) < _ by omega)).hi, if_pos hc]
      rw [Nat.add_one_mul (i / (8 * (size.toNat / 8))) (8 * (size.toNat / 8))]
      have h1 := Nat.div_add_mod i (8 * (size.toNat / 8))
      have h2 := Nat.mod_lt i hs
      rw [Nat.mul_comm] at h1
      omega
  · refine ⟨(splitL p size).length - 1, by omega, ?_, ?_⟩
    · rw [(at8 h h0 hm (show (splitL p size).length - 1 < _ by omega)).lo]
      exact Nat.le_trans (Nat.mul_le_mul_right _ (by omega)) hdm
    · rw [(at8 h h0 hm (show (splitL p size).length - 1 < _ by omega)).hi, if_neg (by omega)]
      exact hi
/-- They are all there just if they have as many bytes as the last one's end asks for. -/
theorem pieces_done (h : splitE p size = 0) (h0 : p.pos = 0) (hm : p.more = false) (h2 : 2 ≤ (splitL p size).length) {js : List Nat} (hj : ∀ j ∈ js, j < (splitL p size).length) (hn : js.Nodup) (hne : js ≠ []) :
    (heldN (js.map (piece p size)) = finN (js.map (piece p size)) ↔ js.length = (splitL p size).length) ∧ (js.length = (splitL p size).length → finN (js.map (piece p size)) = p.body.length) := by
  have hg := pieces_good h h0 hm h2 hj hn
  have hlast := at8 h h0 hm (i := (splitL p size).length - 1) (by omega)
  have hlm : (piece p size ((splitL p size).length - 1)).more = false := by rw [hlast.more]; simp; omega
  have hlh := hlast.hi
  rw [if_neg (by omega)] at hlh
  have hiff := (all_of_len hj hn).2
  refine ⟨⟨fun e => ?_, fun e => ?_⟩, fun e => ?_⟩
  · rw [hiff]
    intro j hjn
    obtain ⟨j0, hj0⟩ : ∃ j0, j0 ∈ js := List.exists_mem_of_ne_nil _ hne
    rcases fin_spec (js.map (piece p size)) with ⟨e0, _⟩ | ⟨z, hz, hzm, ez⟩
    · have := heldN_pos hg (List.mem_map.2 ⟨j0, hj0, rfl⟩); omega
    · obtain ⟨jz, hjz, rfl⟩ := List.mem_map.1 hz
      have hzl : jz + 1 = (splitL p size).length := by
        have a := (at8 h h0 hm (hj jz hjz)).more
        rw [hzm] at a
        have a' : ¬ jz + 1 < (splitL p size).length := by simpa using a.symm
        have := hj jz hjz; omega
      have ejz : jz = (splitL p size).length - 1 := by omega
      have ef : finN (js.map (piece p size)) = p.body.length := by rw [ez, ejz]; exact hlh
      have a := at8 h h0 hm hjn
      have o := piece_one h h0 hm h2 hjn
      have hlt : loP (piece p size j) < finN (js.map (piece p size)) := by
        rw [ef]
        have e1 := a.hi
        have e2 : hiP (piece p size j) = loP (piece p size j) + (piece p size j).body.length := rfl
        have o2 := o.2.1
        by_cases hc : j + 1 < (splitL p size).length
        · rw [if_pos hc] at e1; have := a.len hc; omega
        · rw [if_neg hc] at e1; omega
      obtain ⟨x, hx, l1, l2⟩ := (hg.held hz hzm).2 e _ hlt
      obtain ⟨jx, hjx, rfl⟩ := List.mem_map.1 hx
      by_cases hej : jx = j
      · rw [← hej]; exact hjx
      · exfalso
        have o2 := o.2.1
        have e2 : hiP (piece p size j) = loP (piece p size j) + (piece p size j).body.length := rfl
        rcases Nat.lt_or_gt_of_ne hej with hlt' | hlt'
        · have := (piece_fit h h0 hm (hj jx hjx) hjn hlt').1; omega
        · have := (piece_fit h h0 hm hjn (hj jx hjx) hlt').1; omega
  · have hall := hiff.1 e
    have hz : piece p size ((splitL p size).length - 1) ∈ js.map (piece p size) := List.mem_map.2 ⟨_, hall _ (by omega), rfl⟩
    refine hg.full hz hlm (fun i hi => ?_)
    rw [hg.fin hz hlm, hlh] at hi
    obtain ⟨j, hjn, c1, c2⟩ := cover_piece h h0 hm hi
    exact ⟨_, List.mem_map.2 ⟨j, hall j hjn, rfl⟩, c1, c2⟩
  · have hall := hiff.1 e
    have hz : piece p size ((splitL p size).length - 1) ∈ js.map (piece p size) := List.mem_map.2 ⟨_, hall _ (by omega), rfl⟩
    rw [hg.fin hz hlm, hlh]
/-- What they make is the packet. -/
theorem pieces_made (h : splitE p size = 0) (h0 : p.pos = 0) (hm : p.more = false) (h2 : 2 ≤ (splitL p size).length) {js : List Nat} (hj : ∀ j ∈ js, j < (splitL p size).length) (hn : js.Nodup) (hlen : js.length = (splitL p size).length) {i : Nat} (hi : i < (splitL p size).length) :
    madeP (piece p size i) (js.map (piece p size)) = p := by
  have hne : js ≠ [] := fun e => by rw [e] at hlen; simp at hlen; omega
  have hg := pieces_good h h0 hm h2 hj hn
  have hf := (pieces_done h h0 hm h2 hj hn hne).2 hlen
  have hp := piece_of h hi
  have hall := (all_of_len hj hn).2.1 hlen
  have ht : ttlM (js.map (piece p size)) = p.ttl := by
    have hmem : piece p size i ∈ js.map (piece p size) := List.mem_map.2 ⟨i, hall i hi, rfl⟩
    rw [← ttlF_any hmem]
    rcases (ttlF_spec (js.map (piece p size)) (piece p size i).ttl).2.2 with e | ⟨y, hy, e⟩
    · rw [e]; exact hp.ttl
    · obtain ⟨j, hjj, rfl⟩ := List.mem_map.1 hy
      rw [e]; exact (piece_of h (hj j hjj)).ttl
  have hb : wholeN (js.map (piece p size)) (finN (js.map (piece p size))) = p.body := by
    rw [hf]
    refine List.ext_getElem (wholeN_len _ _) (fun k h1 h2' => ?_)
    have hk : k < p.body.length := h2'
    obtain ⟨j, hjn, c1, c2⟩ := cover_piece h h0 hm hk
    have hmem : piece p size j ∈ js.map (piece p size) := List.mem_map.2 ⟨j, hall j hjn, rfl⟩
    simp only [wholeN, List.getElem_map, List.getElem_range]
    rw [byteAt_of hg hmem c1 c2, (piece_of h hjn).body, (at8 h h0 hm hjn).lo]
    rw [(at8 h h0 hm hjn).lo] at c1
    have c3 := (at8 h h0 hm hjn).hi
    rw [c3] at c2
    by_cases hc : j + 1 < (splitL p size).length
    · rw [if_pos hc] at c2 ⊢
      rw [Nat.succ_mul] at c2
      simp only [List.getD, List.getElem?_take, List.getElem?_drop]
      rw [if_pos (by omega), show j * (8 * (size.toNat / 8)) + (k - j * (8 * (size.toNat / 8))) = k by omega]
      simp [hk]
    · rw [if_neg hc]
      simp only [List.getD, List.getElem?_drop]
      rw [show j * (8 * (size.toNat / 8)) + (k - j * (8 * (size.toNat / 8))) = k by omega]
      simp [hk]
  unfold madeP
  rw [ht, hb, hp.kind, hp.ident, hp.src, hp.dst]
  obtain ⟨a, b, c, d, e, f, g, hh⟩ := p
  simp only at h0 hm
  subst h0 hm
  rfl
theorem piece_is (h : splitE p size = 0) (h0 : p.pos = 0) (hm : p.more = false) (h2 : 2 ≤ (splitL p size).length) {i : Nat} (hi : i < (splitL p size).length) : ¬ ((piece p size i).pos = 0 ∧ (piece p size i).more = false) := by
  rintro ⟨a, b⟩
  have ha := at8 h h0 hm hi
  have hl := ha.lo
  obtain ⟨h8, h4, he, hf⟩ := of_splitE h
  unfold loP at hl
  rw [a] at hl
  rw [ha.more] at b
  have b' : ¬ i + 1 < (splitL p size).length := by simpa using b
  have : 1 * (8 * (size.toNat / 8)) ≤ i * (8 * (size.toNat / 8)) := Nat.mul_le_mul_right _ (by omega)
  omega
theorem piece_name (h : splitE p size = 0) {i : Nat} (hi : i < (splitL p size).length) : nmOf (piece p size i) = nmOf p := by
  have hp := piece_of h hi
  unfold nmOf; rw [hp.kind, hp.src, hp.dst, hp.ident]
def poB (t t0 : Int) (bad : Bool) (p : Pk) (all : List Pk) (none : Bool) : Po := { life := 60, now := t, l := if none then [] else [{ name := nmOf p, began := t0, bad := bad, all := all }] }
theorem tick_in {t t0 now : Int} {bad : Bool} {all : List Pk} {none : Bool} (h0 : 0 ≤ now) (h1 : now ≤ 1000000) (h2 : t ≤ now) (h3 : now - t0 < 60) : tickE (poB t t0 bad p all none) now = 0 ∧ tickS (poB t t0 bad p all none) now = poB now t0 bad p all none := by
  have e : tickE (poB t t0 bad p all none) now = 0 := by
    unfold tickE poB
    rw [if_neg (by omega), if_neg (by simp only; omega)]
  refine ⟨e, ?_⟩
  unfold tickS
  rw [if_pos e]
  unfold poB
  cases none
  · simp [oldB]; omega
  · simp
theorem get_in {t t0 : Int} {bad : Bool} {all : List Pk} {x : Pk} (hx : nmOf x = nmOf p) : getH (poB t t0 bad p all false).l (nmOf x) = some { name := nmOf p, began := t0, bad := bad, all := all } := by
  simp [getH, poB, hx]
theorem back_add (h : splitE p size = 0) (h0 : p.pos = 0) (hm : p.more = false) (h2 : 2 ≤ (splitL p size).length) {js : List Nat} (hj : ∀ j ∈ js, j < (splitL p size).length) (hn : js.Nodup) {i : Nat} (hi : i < (splitL p size).length) (hni : i ∉ js)
    {t t0 now : Int} (k0 : 0 ≤ now) (k1 : now ≤ 1000000) (k2 : t ≤ now) (k3 : now - t0 < 60) :
    addA (poB t t0 false p (js.map (piece p size)) (decide (js = []))) (piece p size i) now =
      if js.length + 1 = (splitL p size).length then (poB now t0 false p [] true, p, true, 0) else (poB now (if js = [] then now else t0) false p ((js ++ [i]).map (piece p size)) false, zeroK, false, 0) := by
  have hp := piece_of h hi
  have hnm := piece_name h hi
  obtain ⟨e1, e2⟩ := tick_in (p := p) (bad := false) (all := js.map (piece p size)) (none := decide (js = [])) k0 k1 k2 k3
  have hj' : ∀ j ∈ js ++ [i], j < (splitL p size).length := by
    intro j hjm
    rcases List.mem_append.1 hjm with h' | h'
    · exact hj j h'
    · rw [List.mem_singleton.1 h']; exact hi
  have hn' : (js ++ [i]).Nodup := by
    rw [List.nodup_append]
    refine ⟨hn, (by simp), fun a ha b hb e => ?_⟩
    rw [List.mem_singleton.1 hb] at e; exact hni (e ▸ ha)
  have hg := pieces_good h h0 hm h2 hj hn
  have hg' := pieces_good h h0 hm h2 hj' hn'
  have hw : wrongB (js.map (piece p size)) (piece p size i) = false := by
    refine wrongB_yes hg.one (piece_one h h0 hm h2 hi) (fun y hy => ?_)
    have := hg'.fit
    rw [List.map_append, List.pairwise_append] at this
    exact this.2.2 y hy _ (by simp)
  have hd := (pieces_done h h0 hm h2 hj' hn' (by simp)).1
  rw [List.length_append, List.length_singleton, List.map_append, List.map_cons, List.map_nil] at hd
  unfold addA
  rw [if_neg (by rw [hp.good]; simp), e1, e2, if_neg (by simp), if_neg (piece_is h h0 hm h2 hi)]
  have hfull : ¬ (getH (poB now t0 false p (js.map (piece p size)) (decide (js = []))).l (nmOf (piece p size i)) = none ∧ 8 ≤ (poB now t0 false p (js.map (piece p size)) (decide (js = []))).l.length) := by
    rintro ⟨_, h8⟩
    unfold poB at h8
    cases hdd : decide (js = []) <;> rw [hdd] at h8 <;> simp at h8
  rw [if_neg hfull]
  have hH : orNew (getH (poB now t0 false p (js.map (piece p size)) (decide (js = []))).l (nmOf (piece p size i))) (nmOf (piece p size i)) now = { name := nmOf p, began := if js = [] then now else t0, bad := false, all := js.map (piece p size) } := by
    by_cases hjs : js = []
    · subst hjs
      simp [orNew, getH, poB, hnm]
    · rw [decide_eq_false hjs, get_in hnm, if_neg hjs]; rfl
  rw [hH]
  unfold addH
  simp only [Bool.false_eq_true, if_false, hw]
  by_cases hl : js.length + 1 = (splitL p size).length
  · rw [if_pos (hd.2 hl), if_pos hl]
    have hmade := pieces_made h h0 hm h2 hj' hn' (by simp; omega) hi
    rw [List.map_append, List.map_cons, List.map_nil] at hmade
    rw [hmade]
    congr 1
    unfold poB delH
    cases decide (js = []) <;> simp
  · rw [if_neg (fun hc => hl (hd.1 hc)), if_neg hl, List.map_append, List.map_cons, List.map_nil]
    congr 1
    unfold poB
    by_cases hjs : js = []
    · subst hjs
      simp [setH, getH]
    · simp [setH, getH, hjs]
theorem back_twice (h : splitE p size = 0) (h0 : p.pos = 0) (hm : p.more = false) (h2 : 2 ≤ (splitL p size).length) {i : Nat} (hi : i < (splitL p size).length) {t t0 now : Int} (k0 : 0 ≤ now) (k1 : now ≤ 1000000) (k2 : t ≤ now) (k3 : now - t0 < 60) :
    addA (poB t t0 false p [piece p size i] false) (piece p size i) now = (poB now t0 true p [] false, zeroK, false, 3) := by
  have hp := piece_of h hi
  have hnm := piece_name h hi
  obtain ⟨e1, e2⟩ := tick_in (p := p) (bad := false) (all := [piece p size i]) (none := false) k0 k1 k2 k3
  have hw : wrongB [piece p size i] (piece p size i) = true := by
    rcases hc : wrongB [piece p size i] (piece p size i) with _ | _
    · exfalso
      have ho := piece_one h h0 hm h2 hi
      have := ((wrongB_no (fun y hy => by rw [List.mem_singleton.1 hy]; exact ho) ho.1 hc).2 _ (List.mem_singleton.2 rfl)).1
      have o2 := ho.2.1
      unfold hiP at this
      omega
    · rfl
  unfold addA
  rw [if_neg (by rw [hp.good]; simp), e1, e2, if_neg (by simp), if_neg (piece_is h h0 hm h2 hi), get_in hnm, if_neg (by simp)]
  unfold addH orNew
  simp only [Option.getD_some, Bool.false_eq_true, if_false, hw, if_true]
  congr 1
  unfold poB
  simp [setH, getH]
theorem back_bad (h : splitE p size = 0) (h0 : p.pos = 0) (hm : p.more = false) (h2 : 2 ≤ (splitL p size).length) {i : Nat} (hi : i < (splitL p size).length) {t t0 now : Int} (k0 : 0 ≤ now) (k1 : now ≤ 1000000) (k2 : t ≤ now) (k3 : now - t0 < 60) :
    addA (poB t t0 true p [] false) (piece p size i) now = (poB now t0 true p [] false, zeroK, false, 6) := by
  have hp := piece_of h hi
  have hnm := piece_name h hi
  obtain ⟨e1, e2⟩ := tick_in (p := p) (bad := true) (all := []) (none := false) k0 k1 k2 k3
  unfold addA
  rw [if_neg (by rw [hp.good]; simp), e1, e2, if_neg (by simp), if_neg (piece_is h h0 hm h2 hi), get_in hnm, if_neg (by simp)]
  rfl
end
end Go.Proofs.YtgodjaffmojhlaaDoor
