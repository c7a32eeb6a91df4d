/- Plain facts on a text in pieces: 'cutL'. -/
import Derived.Test.YtjhofmmmlemfcaaDoorTxt
namespace Go.Proofs.YtjhofmmmlemfcaaDoor
open Go.RowKit
set_option linter.unusedVariables false

def cutG (c : UInt8) : List UInt8 → List UInt8 → List (List UInt8)
  | cur, [] => [cur]
  | cur, x :: r => if x = c then cur :: cutG c [] r else cutG c (cur ++ [x]) r
def cutL (c : UInt8) (l : List UInt8) : List (List UInt8) := cutG c [] l
theorem cutG_len (c : UInt8) : ∀ (r cur : List UInt8), (cutG c cur r).length ≤ r.length + 1
  | [], cur => by simp [cutG]
  | x :: r, cur => by
      unfold cutG
      split
      · have := cutG_len c r []; simp; omega
      · have := cutG_len c r (cur ++ [x]); simp; omega
theorem extract_mkB (s : ByteArray) (a b : Nat) : s.extract a b = mkB ((s.data.toList.drop a).take (b - a)) := by
  apply ByteArray.ext
  apply Array.ext'
  simp [mkB, ByteArray.data_extract]
theorem take_next (l : List UInt8) (a k : Nat) (h : a ≤ k) (hk : k < l.length) : (l.drop a).take (k + 1 - a) = (l.drop a).take (k - a) ++ [l[k]] := by
  have e : k + 1 - a = (k - a) + 1 := by omega
  rw [e, List.take_succ_eq_append_getElem (by simp; omega)]
  congr 2
  simp [List.getElem_drop]
  congr 1; omega
theorem cut_hit (s : ByteArray) (c : UInt8) (a k : Nat) (ss : List ByteArray) (h : k < s.size) (hc : s[k] = c)
    (hT : ss ++ (cutG c ((s.data.toList.drop a).take (k - a)) (s.data.toList.drop k)).map mkB = (cutL c s.data.toList).map mkB) :
    (ss ++ [s.extract a k]) ++ (cutG c ((s.data.toList.drop (k + 1)).take (k + 1 - (k + 1))) (s.data.toList.drop (k + 1))).map mkB = (cutL c s.data.toList).map mkB := by
  have hk : k < s.data.toList.length := by simpa using h
  have e : s.data.toList[k] = s[k] := rfl
  rw [← hT, List.drop_eq_getElem_cons hk, e, hc, cutG, if_pos rfl, extract_mkB]
  simp
theorem cut_miss (s : ByteArray) (c : UInt8) (a k : Nat) (ss : List ByteArray) (h : k < s.size) (ha : a ≤ k) (hc : ¬ s[k] = c)
    (hT : ss ++ (cutG c ((s.data.toList.drop a).take (k - a)) (s.data.toList.drop k)).map mkB = (cutL c s.data.toList).map mkB) :
    ss ++ (cutG c ((s.data.toList.drop a).take (k + 1 - a)) (s.data.toList.drop (k + 1))).map mkB = (cutL c s.data.toList).map mkB := by
  have hk : k < s.data.toList.length := by simpa using h
  have e : s.data.toList[k] = s[k] := rfl
  rw [← hT, List.drop_eq_getElem_cons hk, e, cutG, if_neg hc, take_next _ _ _ ha hk]
  rfl
theorem cut_end (s : ByteArray) (c : UInt8) (a k : Nat) (ss : List ByteArray) (h : s.size ≤ k)
    (hT : ss ++ (cutG c ((s.data.toList.drop a).take (k - a)) (s.data.toList.drop k)).map mkB = (cutL c s.data.toList).map mkB) :
    ss ++ [s.extract a s.size] = (cutL c s.data.toList).map mkB := by
  have hk : s.data.toList.length ≤ k := by simpa using h
  rw [← hT, List.drop_eq_nil_of_le hk, cutG, extract_mkB]
  simp only [List.map_cons, List.map_nil]
  congr 3
  rw [List.take_of_length_le (by simp), List.take_of_length_le (by simp; omega)]
theorem byte_eq {x c : UInt8} (h : ((x.toNat : Int) == (c.toNat : Int)) = true) : x = c := by
  have : (x.toNat : Int) = (c.toNat : Int) := by simpa using h
  exact UInt8.toNat_inj.1 (by omega)
theorem byte_ne {x c : UInt8} (h : ((x.toNat : Int) == (c.toNat : Int)) = false) : ¬ x = c := by
  intro e; subst e; simp at h

end Go.Proofs.YtjhofmmmlemfcaaDoor
