/- Plain facts on texts as lists of bytes: 'mkB', digits ('digL'), an address as text ('showL'), a number of a text ('wholeL'). -/
import Derived.Test.YtjhofmmmlemfcaaDoorNum
import Derived.Laws.Concat
import Derived.Laws.DeepStrings4
import Derived.WalkLawsBesides
import Derived.Outline
namespace Go.Proofs.YtjhofmmmlemfcaaDoor
open Go.RowKit
set_option linter.unusedVariables false

def mkB (l : List UInt8) : ByteArray := ⟨l.toArray⟩
theorem mkB_size (l : List UInt8) : (mkB l).size = l.length := by simp [mkB, ByteArray.size]
theorem mkB_append (a b : List UInt8) : mkB a ++ mkB b = mkB (a ++ b) := by
  apply ByteArray.ext
  simp [mkB, ByteArray.data_append]
theorem mkB_data (s : ByteArray) : mkB s.data.toList = s := by
  apply ByteArray.ext; simp [mkB]
theorem mkB_toList (l : List UInt8) : (mkB l).data.toList = l := by simp [mkB]
theorem mkB_inj {a b : List UInt8} (h : mkB a = mkB b) : a = b := by
  have := congrArg (fun s => s.data.toList) h
  simpa [mkB] using this

def digF : Nat → Nat → List UInt8
  | 0, n => [48 + UInt8.ofNat n]
  | f + 1, n => if n < 10 then [48 + UInt8.ofNat n] else digF f (n / 10) ++ [48 + UInt8.ofNat (n % 10)]
theorem digF_eq : ∀ (f g n : Nat), n ≤ f → n ≤ g → digF f n = digF g n
  | 0, 0, n, _, _ => rfl
  | 0, g + 1, n, h, _ => by obtain rfl : n = 0 := by omega
                            simp [digF]
  | f + 1, 0, n, _, h => by obtain rfl : n = 0 := by omega
                            simp [digF]
  | f + 1, g + 1, n, h1, h2 => by
      unfold digF
      split
      · rfl
      · rw [digF_eq f g (n / 10) (by omega) (by omega)]
def digL (n : Nat) : List UInt8 := digF n n
theorem digL_lt {n : Nat} (h : n < 10) : digL n = [48 + UInt8.ofNat n] := by
  unfold digL; cases n with
  | zero => rfl
  | succ k => rw [digF, if_pos h]
theorem digL_ge {n : Nat} (h : ¬ n < 10) : digL n = digL (n / 10) ++ [48 + UInt8.ofNat (n % 10)] := by
  unfold digL; cases n with
  | zero => omega
  | succ k => rw [digF, if_neg h, digF_eq k ((k + 1) / 10) _ (by omega) (by omega)]
theorem digL_len (n : Nat) : (digL n).length ≤ n + 1 := by
  induction n using Nat.strongRecOn with
  | _ n ih =>
    by_cases h : n < 10
    · rw [digL_lt h]; simp
    · rw [digL_ge h]
      have := ih (n / 10) (by omega)
      simp; omega
theorem ret_str {a b : ByteArray} (h : a = b) : Ending.returned (.string a) = .returned (.string b) := by rw [h]

/-- An address as text. -/
def showL (a : Int) : List UInt8 := digL (a / 16777216 % 256).toNat ++ [46] ++ digL (a / 65536 % 256).toNat ++ [46] ++ digL (a / 256 % 256).toNat ++ [46] ++ digL (a % 256).toNat
/-- A prefix as text. -/
def showPrefL (a l : Int) : List UInt8 := if l = 0 then [97, 110, 121] else showL a ++ [47] ++ digL l.toNat
theorem digL_small {n : Nat} (h : n ≤ 255) : (digL n).length ≤ 256 := by have := digL_len n; omega

def numL : Int → List UInt8 → Int
  | n, [] => n
  | n, c :: r => if 48 ≤ (c.toNat : Int) ∧ (c.toNat : Int) ≤ 57 then numL (n * 10 + (c.toNat : Int) - 48) r else -1
def wholeL (l : List UInt8) (most : Int) : Int :=
  if l = [] ∨ most < (l.length : Int) ∨ (((l.headD 0).toNat : Int) = 48 ∧ 1 < l.length) then -1 else numL 0 l
theorem numL_drop (s : ByteArray) (k : Nat) (n : Int) (h : k < s.size) :
    numL n (s.data.toList.drop k) = if 48 ≤ (s[k].toNat : Int) ∧ (s[k].toNat : Int) ≤ 57 then numL (n * 10 + (s[k].toNat : Int) - 48) (s.data.toList.drop (k + 1)) else -1 := by
  have hk : k < s.data.toList.length := by simpa using h
  rw [List.drop_eq_getElem_cons hk]
  rfl
theorem numL_end (s : ByteArray) (k : Nat) (n : Int) (h : s.size ≤ k) : numL n (s.data.toList.drop k) = n := by
  have hk : s.data.toList.length ≤ k := by simpa using h
  rw [List.drop_eq_nil_of_le hk, numL]
theorem empty_of_size {s : ByteArray} (h : s.size = 0) : s.toList.isEmpty = true := by
  have e : s.data.toList.length = 0 := by simpa using h
  rw [ByteArray.toList_eq, List.length_eq_zero_iff.1 e]; rfl
theorem full_of_size {s : ByteArray} (h : 0 < s.size) : s.toList.isEmpty = false := by
  have e : 0 < s.data.toList.length := by simpa using h
  rw [ByteArray.toList_eq]
  cases hl : s.data.toList with
  | nil => rw [hl] at e; simp at e
  | cons c r => rfl
theorem size_list (s : ByteArray) : s.data.toList.length = s.size := by simp
theorem headD_get (l : List UInt8) (h : 0 < l.length) : l.headD 0 = l[0] := by
  cases l with
  | nil => simp at h
  | cons c r => rfl
theorem head_list {s : ByteArray} (h : 0 < s.size) : s.data.toList.headD 0 = s[0] := by
  rw [headD_get _ (by simpa using h)]; rfl
theorem ne_nil_of_size {s : ByteArray} (h : 0 < s.size) : s.data.toList ≠ [] := by
  intro e
  have hk : 0 < s.data.toList.length := by simpa using h
  rw [e] at hk; simp at hk

def p10 (k : Nat) : Int := ((10 ^ k : Nat) : Int)
theorem p10_succ (k : Nat) : p10 (k + 1) = p10 k * 10 := by
  unfold p10; rw [Nat.pow_succ]; simp
theorem p10_le {k : Nat} (h : k ≤ 18) : p10 k ≤ 1000000000000000000 := by
  unfold p10
  have := Nat.pow_le_pow_right (by omega : 10 > 0) h
  have e : (10 : Nat) ^ 18 = 1000000000000000000 := by decide
  rw [e] at this
  omega
theorem p10_le17 {k : Nat} (h : k ≤ 17) : p10 k ≤ 100000000000000000 := by
  unfold p10
  have := Nat.pow_le_pow_right (by omega : 10 > 0) h
  have e : (10 : Nat) ^ 17 = 100000000000000000 := by decide
  rw [e] at this
  omega
theorem ret_i64 {a b : Int} (h : a = b) : Ending.returned (.int .i64 a) = .returned (.int .i64 b) := by rw [h]

def p256 (k : Nat) : Int := ((256 ^ k : Nat) : Int)
theorem p256_succ (k : Nat) : p256 (k + 1) = p256 k * 256 := by
  unfold p256; rw [Nat.pow_succ]; simp
theorem p256_le {k : Nat} (h : k ≤ 4) : p256 k ≤ 4294967296 := by
  unfold p256
  have := Nat.pow_le_pow_right (by omega : 256 > 0) h
  have e : (256 : Nat) ^ 4 = 4294967296 := by decide
  rw [e] at this
  omega
end Go.Proofs.YtjhofmmmlemfcaaDoor
