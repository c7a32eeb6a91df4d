/- Plain facts on texts as lists of bytes: 'mkB', digits ('digL'), an address as text ('showL'), a number of a text ('wholeL'). -/
import Derived.Test.YthnkjfgiclolaaaGreatDoorMgA
import Derived.Laws.Concat
import Derived.Laws.DeepStrings4
import Derived.WalkLawsBesides
import Derived.Outline
import Derived.Test.YthnkjfgiclolaaaGreatDoorShelf
import Derived.Deep.RegionWith
import Derived.Deep.DeepCutAuto
import Derived.Laws.AppendOwn
import Derived.Laws.OwnMore
import Derived.OneCell
namespace Go.Proofs.YthnkjfgiclolaaaGreatDoor
open Go.RowKit
set_option linter.unusedVariables false

def mkB (l : List UInt8) : ByteArray := ⟨l.toArray⟩
theorem mkB_size (l : List UInt8) : (mkB l).size = l.length := by simp [mkB, ByteArray.size]
theorem mkB_append (a b : List UInt8) : mkB a ++ mkB b = mkB (a ++ b) := by
  apply ByteArray.ext
  simp [mkB, ByteArray.data_append]
theorem mkB_data (s : ByteArray) : mkB s.data.toList = s := by
  apply ByteArray.ext; simp [mkB]
theorem mkB_toList (l : List UInt8) : (mkB l).data.toList = l := by simp [mkB]
theorem mkB_inj {a b : List UInt8} (h : mkB a = mkB b) : a = b := by
  have := congrArg (fun s => s.data.toList) h
  simpa [mkB] using this

def digF : Nat → Nat → List UInt8
  | 0, n => [48 + UInt8.ofNat n]
  | f + 1, n => if n < 10 then [48 + UInt8.ofNat n] else digF f (n / 10) ++ [48 + UInt8.ofNat (n % 10)]
theorem digF_eq : ∀ (f g n : Nat), n ≤ f → n ≤ g → digF f n = digF g n
  | 0, 0, n, _, _ => rfl
  | 0, g + 1, n, h, _ => by obtain rfl : n = 0 := by omega
                            simp [digF]
  | f + 1, 0, n, _, h => by obtain rfl : n = 0 := by omega
                            simp [digF]
  | f + 1, g + 1, n, h1, h2 => by
      unfold digF
      split
      · rfl
      · rw [digF_eq f g (n / 10) (by omega) (by omega)]
def digL (n : Nat) : List UInt8 := digF n n
theorem digL_lt {n : Nat} (h : n < 10) : digL n = [48 + UInt8.ofNat n] := by
  unfold digL; cases n with
  | zero => rfl
  | succ k => rw [digF, if_pos h]
theorem digL_ge {n : Nat} (h : ¬ n < 10) : digL n = digL (n / 10) ++ [48 + UInt8.ofNat (n % 10)] := by
  unfold digL; cases n with
  | zero => omega
  | succ k => rw [digF, if_neg h, digF_eq k ((k + 1) / 10) _ (by omega) (by omega)]
theorem digL_len (n : Nat) : (digL n).length ≤ n + 1 := by
  induction n using Nat.strongRecOn with
  | _ n ih =>
    by_cases h : n < 10
    · rw [digL_lt h]; simp
    · rw [digL_ge h]
      have := ih (n / 10) (by omega)
      simp; omega
theorem ret_str {a b : ByteArray} (h : a = b) : Ending.returned (.string a) = .returned (.string b) := by rw [h]

/-- An address as text. -/
def showL (a : Int) : List UInt8 := digL (a / 16777216 % 256).toNat ++ [46] ++ digL (a / 65536 % 256).toNat ++ [46] ++ digL (a / 256 % 256).toNat ++ [46] ++ digL (a % 256).toNat
/-- A prefix as text. -/
def showPrefL (a l : Int) : List UInt8 := if l = 0 then [97, 110, 121] else showL a ++ [47] ++ digL l.toNat
theorem digL_small {n : Nat} (h : n ≤ 255) : (digL n).length ≤ 256 := by have := digL_len n; omega

def numL : Int → List UInt8 → Int
  | n, [] => n
  | n, c :: r => if 48 ≤ (c.toNat : Int) ∧ (c.toNat : Int) ≤ 57 then numL (n * 10 + (c.toNat : Int) - 48) r else -1
def wholeL (l : List UInt8) (most : Int) : Int :=
  if l = [] ∨ most < (l.length : Int) ∨ (((l.headD 0).toNat : Int) = 48 ∧ 1 < l.length) then -1 else numL 0 l
theorem numL_drop (s : ByteArray) (k : Nat) (n : Int) (h : k < s.size) :
    numL n (s.data.toList.drop k) = if 48 ≤ (s[k].toNat : Int) ∧ (s[k].toNat : Int) ≤ 57 then numL (n * 10 + (s[k].toNat : Int) - 48) (s.data.toList.drop (k + 1)) else -1 := by
  have hk : k < s.data.toList.length := by simpa using h
  rw [List.drop_eq_getElem_cons hk]
  rfl
theorem numL_end (s : ByteArray) (k : Nat) (n : Int) (h : s.size ≤ k) : numL n (s.data.toList.drop k) = n := by
  have hk : s.data.toList.length ≤ k := by simpa using h
  rw [List.drop_eq_nil_of_le hk, numL]
theorem empty_of_size {s : ByteArray} (h : s.size = 0) : s.toList.isEmpty = true := by
  have e : s.data.toList.length = 0 := by simpa using h
  rw [ByteArray.toList_eq, List.length_eq_zero_iff.1 e]; rfl
theorem full_of_size {s : ByteArray} (h : 0 < s.size) : s.toList.isEmpty = false := by
  have e : 0 < s.data.toList.length := by simpa using h
  rw [ByteArray.toList_eq]
  cases hl : s.data.toList with
  | nil => rw [hl] at e; simp at e
  | cons c r => rfl
theorem size_list (s : ByteArray) : s.data.toList.length = s.size := by simp
theorem headD_get (l : List UInt8) (h : 0 < l.length) : l.headD 0 = l[0] := by
  cases l with
  | nil => simp at h
  | cons c r => rfl
theorem head_list {s : ByteArray} (h : 0 < s.size) : s.data.toList.headD 0 = s[0] := by
  rw [headD_get _ (by simpa using h)]; rfl
theorem ne_nil_of_size {s : ByteArray} (h : 0 < s.size) : s.data.toList ≠ [] := by
  intro e
  have hk : 0 < s.data.toList.length := by simpa using h
  rw [e] at hk; simp at hk

def p10 (k : Nat) : Int := ((10 ^ k : Nat) : Int)
theorem p10_succ (k : Nat) : p10 (k + 1) = p10 k * 10 := by
  unfold p10; rw [Nat.pow_succ]; simp
theorem p10_le {k : Nat} (h : k ≤ 18) : p10 k ≤ 1000000000000000000 := by
  unfold p10
  have := Nat.pow_le_pow_right (by omega : 10 > 0) h
  have e : (10 : Nat) ^ 18 = 1000000000000000000 := by decide
  rw [e] at this
  omega
theorem p10_le17 {k : Nat} (h : k ≤ 17) : p10 k ≤ 100000000000000000 := by
  unfold p10
  have := Nat.pow_le_pow_right (by omega : 10 > 0) h
  have e : (10 : Nat) ^ 17 = 100000000000000000 := by decide
  rw [e] at this
  omega
theorem ret_i64 {a b : Int} (h : a = b) : Ending.returned (.int .i64 a) = .returned (.int .i64 b) := by rw [h]

def p256 (k : Nat) : Int := ((256 ^ k : Nat) : Int)
theorem p256_succ (k : Nat) : p256 (k + 1) = p256 k * 256 := by
  unfold p256; rw [Nat.pow_succ]; simp
theorem p256_le {k : Nat} (h : k ≤ 4) : p256 k ≤ 4294967296 := by
  unfold p256
  have := Nat.pow_le_pow_right (by omega : 256 > 0) h
  have e : (256 : Nat) ^ 4 = 4294967296 := by decide
  rw [e] at this
  omega
end Go.Proofs.YthnkjfgiclolaaaGreatDoor

namespace Go.Proofs.YthnkjfgiclolaaaGreatDoor
open Go.RowKit
set_option linter.unusedVariables false

/-- Nothing but draws. -/
def Drew (w w' : World) : Prop := ∃ n, w' = w.drewN n
theorem Drew.refl (w : World) : Drew w w := ⟨0, rfl⟩
theorem Drew.trans {a b c : World} (h : Drew a b) (k : Drew b c) : Drew a c := by
  obtain ⟨n, rfl⟩ := h
  obtain ⟨m, rfl⟩ := k
  exact ⟨n + m, by simp [World.drewN, Nat.add_assoc]⟩
theorem Drew.below {a b : World} (h : Drew a b) (B : Nat) : Below B a b := by
  obtain ⟨n, rfl⟩ := h
  exact below_drewN (Below.refl _ _) n
theorem Drew.size {a b : World} (h : Drew a b) : b.heap.size = a.heap.size := by
  obtain ⟨n, rfl⟩ := h; rfl

/-- A text around the first c. -/
def splitC (c : UInt8) : List UInt8 → List UInt8 × List UInt8 × Bool
  | [] => ([], [], false)
  | x :: r => if x = c then ([], r, true) else (x :: (splitC c r).1, (splitC c r).2.1, (splitC c r).2.2)
theorem splitC_index (c : UInt8) : ∀ (s : List UInt8), (Lib.indexByte s c < 0 ∧ splitC c s = (s, [], false)) ∨ ∃ k : Nat, k < s.length ∧ Lib.indexByte s c = k ∧ splitC c s = (s.take k, s.drop (k + 1), true)
  | [] => .inl ⟨by unfold Lib.indexByte; decide, rfl⟩
  | x :: r => by
      unfold splitC Lib.indexByte
      by_cases h : x = c
      · rw [if_pos h, if_pos (by simpa using h)]
        exact .inr ⟨0, by simp, rfl, rfl⟩
      · rw [if_neg h, if_neg (by simpa using h)]
        rcases splitC_index c r with ⟨h1, h2⟩ | ⟨k, hk, h1, h2⟩
        · rw [h2]
          have : Lib.indexByte r c = -1 := by have := Lib.indexByte_ge r c; omega
          rw [this]
          exact .inl ⟨by decide, rfl⟩
        · rw [h2, h1, if_neg (by simp)]
          exact .inr ⟨k + 1, by simp; omega, by omega, rfl⟩
theorem splitC_len (c : UInt8) (s : List UInt8) : (splitC c s).1.length ≤ s.length ∧ (splitC c s).2.1.length ≤ s.length := by
  rcases splitC_index c s with ⟨_, h⟩ | ⟨k, hk, _, h⟩ <;> rw [h] <;> simp <;> omega
theorem ret_cut {a a' b b' : ByteArray} {t t' : Bool} (h : a = a') (h2 : b = b') (h3 : t = t') : Ending.returned (.tuple #[.string a, .string b, .bool t]) = .returned (.tuple #[.string a', .string b', .bool t']) := by rw [h, h2, h3]
theorem ext_take (s : ByteArray) (k : Nat) : s.extract 0 k = mkB (s.data.toList.take k) := by
  apply ByteArray.ext; apply Array.ext'; simp [mkB, ByteArray.data_extract]
theorem ext_drop (s : ByteArray) (k : Nat) : s.extract k s.size = mkB (s.data.toList.drop k) := by
  apply ByteArray.ext; apply Array.ext'
  simp [mkB, ByteArray.data_extract]
  rw [List.take_of_length_le (by simp)]

theorem scut_any (s : ByteArray) (c : UInt8) (w : World) (hs : s.size ≤ maxLen) :
    Calls Tryz.prog 97 #[.string s, .string ⟨#[c]⟩] w fun e w' => e = .returned (.tuple #[.string (mkB (splitC c s.data.toList).1), .string (mkB (splitC c s.data.toList).2.1), .bool (splitC c s.data.toList).2.2]) ∧ Drew w w' := by
  unfold maxLen at hs
  have hi := fun w => Tryz.stringslite_Index_one s c w
  rcases splitC_index c s.data.toList with ⟨h1, h2⟩ | ⟨k, hk, h1, h2⟩
  · rw [h2]
    have HS : Hid (mkB s.data.toList = s) := mkB_data s
    generalize Lib.indexByte s.data.toList c = i at hi h1
    clear h2
    go_enter Tryz.func97, Tryz.ntmps97
    go_wp2_with (go_at_call 119; refine (hi _).mono ?_; rintro e w' ⟨rfl, rfl⟩)
    exact bodyPost_ret (v := .tuple #[.string s, .string ⟨#[]⟩, .bool false]) (by simp [results, Tryz.results97, go_sem]) rfl ⟨ret_cut HS.out.symm rfl rfl, Drew.refl _⟩
  · rw [h2]
    have hk' : k < s.size := by simpa using hk
    have H1 : Hid (s.extract 0 k = mkB (s.data.toList.take k)) := ext_take s k
    have H2 : Hid (s.extract (k + 1) s.size = mkB (s.data.toList.drop (k + 1))) := ext_drop s (k + 1)
    rw [h1] at hi
    clear h1 h2 hk
    go_enter Tryz.func97, Tryz.ntmps97
    go_wp2_with (go_at_call 119; refine (hi _).mono ?_; rintro e w' ⟨rfl, rfl⟩)
    go_quiet (fail)
    go_wp2
    exact bodyPost_ret (v := .tuple #[.string (s.extract 0 k), .string (s.extract (k + 1) s.size), .bool true]) (by simp [results, Tryz.results97, go_sem]) rfl ⟨ret_cut H1.out H2.out rfl, _, rfl⟩

theorem strCut_any (s : ByteArray) (c : UInt8) (w : World) (hs : s.size ≤ maxLen) :
    Calls Tryz.prog 59 #[.string s, .string ⟨#[c]⟩] w fun e w' => e = .returned (.tuple #[.string (mkB (splitC c s.data.toList).1), .string (mkB (splitC c s.data.toList).2.1), .bool (splitC c s.data.toList).2.2]) ∧ Drew w w' := by
  have hc := fun w => scut_any s c w hs
  generalize splitC c s.data.toList = t at hc ⊢
  go_enter Tryz.func59, Tryz.ntmps59
  go_wp2_with (go_at_call 97; refine (hc _).mono ?_; rintro e w' ⟨rfl, hd⟩)
  exact bodyPost_ret (v := .tuple #[.string (mkB t.1), .string (mkB t.2.1), .bool t.2.2]) (by simp [results, Tryz.results59, go_sem]) rfl ⟨rfl, hd⟩

end Go.Proofs.YthnkjfgiclolaaaGreatDoor

namespace Go.Proofs.YthnkjfgiclolaaaGreatDoor
open Go.RowKit
set_option linter.unusedVariables false

/-- The value v is a slice of the call's own that holds the texts ss. -/
def OwnS (w : World) (base : Nat) (v : Value) (ss : List ByteArray) : Prop :=
  w.ownsRow base 9 1 v ss.length (ss.map Value.string)
theorem Tryz.infoStr : (Tryz.prog.info? 9).map (fun i => (i.zero, i.size, i.bytes)) = some (some (.string ⟨#[]⟩), 1, 16) := by kernel_rfl
theorem OwnS.nil (w : World) (base : Nat) : OwnS w base (.slice none 0 0) [] := World.ownsRow_nil _ _ _ _
theorem OwnS.alloc {w : World} {base : Nat} {v : Value} {ss : List ByteArray} (h : OwnS w base v ss) (o : Obj) : OwnS (w.alloc o) base v ss := World.ownsRow.alloc h o
theorem OwnS.shape {w : World} {base : Nat} {v : Value} {ss : List ByteArray} (h : OwnS w base v ss) (hz : 0 < ss.length) :
    ∃ g cap, v = .slice (some ⟨g, 0, none⟩) ss.length cap ∧ base ≤ g ∧ g < w.heap.size ∧ ss.length ≤ cap ∧ cap ≤ maxLen := by
  obtain ⟨_, h2⟩ := h
  rcases h2 with ⟨_, h0⟩ | ⟨g, cap, cur, rfl, hb, hh, hl, hm, _, _⟩
  · omega
  · refine ⟨g, cap, rfl, hb, ?_, hl, hm⟩
    rcases Nat.lt_or_ge g w.heap.size with h1 | h1
    · exact h1
    · simp [Array.getElem?_eq_none h1] at hh
theorem OwnS.cell {w : World} {base g cap n : Nat} {ss : List ByteArray} (h : OwnS w base (.slice (some ⟨g, 0, none⟩) n cap) ss) (hn : n = ss.length) (j : Nat) (hj : j < ss.length) :
    w.cell? ⟨g, j, none⟩ = some (.string ss[j]) := by
  subst hn
  rw [World.ownsRow.cellAt h j (by omega)]
  simp [hj]

theorem ownsRow_below {w w' : World} {base : Nat} {e : TypeId} {size : Nat} {v : Value} {n : Nat} {xs : List Value} (h : w.ownsRow base e size v n xs) (hb : Below w.heap.size w w') : w'.ownsRow base e size v n xs := by
  obtain ⟨h1, h2⟩ := h
  refine ⟨h1, ?_⟩
  rcases h2 with h2 | ⟨g, cap, cur, hv, hg, hh, hr⟩
  · exact .inl h2
  · refine .inr ⟨g, cap, cur, hv, hg, ?_, hr⟩
    have hlt : g < w.heap.size := by
      rcases Nat.lt_or_ge g w.heap.size with h1 | h1
      · exact h1
      · simp [Array.getElem?_eq_none h1] at hh
    rw [hb.block g hlt]; exact hh
theorem OwnS.below {w w' : World} {base : Nat} {v : Value} {ss : List ByteArray} (h : OwnS w base v ss) (hb : Below w.heap.size w w') : OwnS w' base v ss := ownsRow_below h hb

/-- 'append' of one text onto a row of the call's own. -/
theorem wpList_append_str {w : World} {ops : Array Oper} {rest : List Oper} {o : Oper} {a : Act} {Q : Exit → Act → World → Prop} (hgd : o.guard = none) (s x : Operand)
    (ho : o.op = .call { callee := .builtin .append, args := #[s, x], argTypes := #[58, 58] })
    (base : Nat) (v : Value) (ss : List ByteArray) (hs : a.eval s = v) (hown : OwnS w base v ss) (t : ByteArray) (hx : a.eval x = .slice (some ⟨w.heap.size, 0, none⟩) 1 1)
    (hlen : ss.length ≤ 4398046511104) (hbase : base ≤ w.heap.size)
    (h : ∀ v' w', OwnS w' base v' (ss ++ [t]) → (w.alloc (.cells #[.string t] 9)).grownBy w' v.ownBlock → wpList Tryz.prog ops Q rest (a.put o.dst v') w') :
    wpList Tryz.prog ops Q (o :: rest) a (w.alloc (.cells #[.string t] 9)) := by
  obtain ⟨i0, hi, hz0, hz1, hz2⟩ := info_parts Tryz.infoStr
  refine wpList_append_own _ hgd s x 58 ho base 9 i0 (.string ⟨#[]⟩) 1 16 Tryz.underlying58 hi hz0 hz1 hz2 rfl (by decide) v ss.length (ss.map Value.string) hs (OwnS.alloc hown _) ⟨w.heap.size, 0, none⟩ 1 1 [.string t] hx rfl ?_ ?_ (by unfold maxLen; omega) (by omega) (by simp; omega) ?_
  · intro j u hj
    match j, hj with
    | 0, hj => simp at hj; subst hj; simp [Addr.add]
  · intro u hu; simp at hu; subst hu; rfl
  · intro v' w' h1 h2 _
    refine h v' w' ?_ h2
    unfold OwnS
    rw [List.length_append, List.map_append]; exact h1

end Go.Proofs.YthnkjfgiclolaaaGreatDoor

namespace Go.Proofs.YthnkjfgiclolaaaGreatDoor
open Go.RowKit
set_option linter.unusedVariables false

/-- Two numbers lie at block b, and may be written. -/
def PairAt (w : World) (b : Nat) (x y : Int) : Prop :=
  w.cell? ⟨b, 0, none⟩ = some (.int .i64 x) ∧ w.cell? ⟨b, 1, none⟩ = some (.int .i64 y) ∧ w.frozen? ⟨b, 0, none⟩ = false ∧ w.frozen? ⟨b, 1, none⟩ = false
theorem PairAt.new (w : World) (x y : Int) (t : TypeId) : PairAt (w.alloc (.cells #[.int .i64 x, .int .i64 y] t)) w.heap.size x y := by
  refine ⟨?_, ?_, ?_, ?_⟩ <;> simp
theorem PairAt.lt {w : World} {b : Nat} {x y : Int} (h : PairAt w b x y) : b < w.heap.size := by
  rcases Nat.lt_or_ge b w.heap.size with h1 | h1
  · exact h1
  · have := h.1; simp [World.cell?, Array.getElem?_eq_none h1] at this
theorem PairAt.below {w w' : World} {b B : Nat} {x y : Int} (h : PairAt w b x y) (hB : b < B) (hb : Below B w w') : PairAt w' b x y := by
  refine ⟨?_, ?_, ?_, ?_⟩
  · rw [hb.cell (p := ⟨b, 0, none⟩) hB]; exact h.1
  · rw [hb.cell (p := ⟨b, 1, none⟩) hB]; exact h.2.1
  · rw [hb.frozen (p := ⟨b, 0, none⟩) hB]; exact h.2.2.1
  · rw [hb.frozen (p := ⟨b, 1, none⟩) hB]; exact h.2.2.2
theorem PairAt.alloc {w : World} {b : Nat} {x y : Int} (h : PairAt w b x y) (o : Obj) : PairAt (w.alloc o) b x y :=
  h.below h.lt ((Below.refl _ _).alloc (Nat.le_refl _) _)
theorem frozen_setCell (w : World) (a b : Addr) (v : Value) : (w.setCell a v).frozen? b = w.frozen? b := by simp
theorem PairAt.set0 {w : World} {b : Nat} {x y : Int} (h : PairAt w b x y) (z : Int) : PairAt (w.setCell ⟨b, 0, none⟩ (.int .i64 z)) b z y := by
  refine ⟨World.cell?_setCell_same w _ _ h.1, ?_, ?_, ?_⟩
  · rw [World.cell?_setCell_other w _ _ _ (by simp)]; exact h.2.1
  · rw [frozen_setCell]; exact h.2.2.1
  · rw [frozen_setCell]; exact h.2.2.2
theorem PairAt.set1 {w : World} {b : Nat} {x y : Int} (h : PairAt w b x y) (z : Int) : PairAt (w.setCell ⟨b, 1, none⟩ (.int .i64 z)) b x z := by
  refine ⟨?_, World.cell?_setCell_same w _ _ h.2.1, ?_, ?_⟩
  · rw [World.cell?_setCell_other w _ _ _ (by simp)]; exact h.1
  · rw [frozen_setCell]; exact h.2.2.1
  · rw [frozen_setCell]; exact h.2.2.2
theorem PairAt.other {w : World} {b : Nat} {x y : Int} (h : PairAt w b x y) {c off : Nat} (hc : c ≠ b) (v : Value) : PairAt (w.setCell ⟨c, off, none⟩ v) b x y := by
  refine ⟨?_, ?_, ?_, ?_⟩
  · rw [World.cell?_setCell_other w _ _ _ (fun h => hc (congrArg Addr.block h))]; exact h.1
  · rw [World.cell?_setCell_other w _ _ _ (fun h => hc (congrArg Addr.block h))]; exact h.2.1
  · rw [frozen_setCell]; exact h.2.2.1
  · rw [frozen_setCell]; exact h.2.2.2

theorem PairAt.keep {W w' : World} {B : Nat} {x y : Int} (hb : Below W.heap.size W w') (h : PairAt W B x y) : PairAt w' B x y := h.below h.lt hb
end Go.Proofs.YthnkjfgiclolaaaGreatDoor

namespace Go.Proofs.YthnkjfgiclolaaaGreatDoor
open Go.RowKit
set_option linter.unusedVariables false

def cutG (c : UInt8) : List UInt8 → List UInt8 → List (List UInt8)
  | cur, [] => [cur]
  | cur, x :: r => if x = c then cur :: cutG c [] r else cutG c (cur ++ [x]) r
def cutL (c : UInt8) (l : List UInt8) : List (List UInt8) := cutG c [] l
theorem cutG_len (c : UInt8) : ∀ (r cur : List UInt8), (cutG c cur r).length ≤ r.length + 1
  | [], cur => by simp [cutG]
  | x :: r, cur => by
      unfold cutG
      split
      · have := cutG_len c r []; simp; omega
      · have := cutG_len c r (cur ++ [x]); simp; omega
theorem extract_mkB (s : ByteArray) (a b : Nat) : s.extract a b = mkB ((s.data.toList.drop a).take (b - a)) := by
  apply ByteArray.ext
  apply Array.ext'
  simp [mkB, ByteArray.data_extract]
theorem take_next (l : List UInt8) (a k : Nat) (h : a ≤ k) (hk : k < l.length) : (l.drop a).take (k + 1 - a) = (l.drop a).take (k - a) ++ [l[k]] := by
  have e : k + 1 - a = (k - a) + 1 := by omega
  rw [e, List.take_succ_eq_append_getElem (by simp; omega)]
  congr 2
  simp [List.getElem_drop]
  congr 1; omega
theorem cut_hit (s : ByteArray) (c : UInt8) (a k : Nat) (ss : List ByteArray) (h : k < s.size) (hc : s[k] = c)
    (hT : ss ++ (cutG c ((s.data.toList.drop a).take (k - a)) (s.data.toList.drop k)).map mkB = (cutL c s.data.toList).map mkB) :
    (ss ++ [s.extract a k]) ++ (cutG c ((s.data.toList.drop (k + 1)).take (k + 1 - (k + 1))) (s.data.toList.drop (k + 1))).map mkB = (cutL c s.data.toList).map mkB := by
  have hk : k < s.data.toList.length := by simpa using h
  have e : s.data.toList[k] = s[k] := rfl
  rw [← hT, List.drop_eq_getElem_cons hk, e, hc, cutG, if_pos rfl, extract_mkB]
  simp
theorem cut_miss (s : ByteArray) (c : UInt8) (a k : Nat) (ss : List ByteArray) (h : k < s.size) (ha : a ≤ k) (hc : ¬ s[k] = c)
    (hT : ss ++ (cutG c ((s.data.toList.drop a).take (k - a)) (s.data.toList.drop k)).map mkB = (cutL c s.data.toList).map mkB) :
    ss ++ (cutG c ((s.data.toList.drop a).take (k + 1 - a)) (s.data.toList.drop (k + 1))).map mkB = (cutL c s.data.toList).map mkB := by
  have hk : k < s.data.toList.length := by simpa using h
  have e : s.data.toList[k] = s[k] := rfl
  rw [← hT, List.drop_eq_getElem_cons hk, e, cutG, if_neg hc, take_next _ _ _ ha hk]
  rfl
theorem cut_end (s : ByteArray) (c : UInt8) (a k : Nat) (ss : List ByteArray) (h : s.size ≤ k)
    (hT : ss ++ (cutG c ((s.data.toList.drop a).take (k - a)) (s.data.toList.drop k)).map mkB = (cutL c s.data.toList).map mkB) :
    ss ++ [s.extract a s.size] = (cutL c s.data.toList).map mkB := by
  have hk : s.data.toList.length ≤ k := by simpa using h
  rw [← hT, List.drop_eq_nil_of_le hk, cutG, extract_mkB]
  simp only [List.map_cons, List.map_nil]
  congr 3
  rw [List.take_of_length_le (by simp), List.take_of_length_le (by simp; omega)]
theorem byte_eq {x c : UInt8} (h : ((x.toNat : Int) == (c.toNat : Int)) = true) : x = c := by
  have : (x.toNat : Int) = (c.toNat : Int) := by simpa using h
  exact UInt8.toNat_inj.1 (by omega)
theorem byte_ne {x c : UInt8} (h : ((x.toNat : Int) == (c.toNat : Int)) = false) : ¬ x = c := by
  intro e; subst e; simp at h

end Go.Proofs.YthnkjfgiclolaaaGreatDoor
