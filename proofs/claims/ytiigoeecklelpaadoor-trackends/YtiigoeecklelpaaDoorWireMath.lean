/- Packets as bytes: plain facts on numbers and lists. Where the numbers of a packet are within their bounds, its bytes read back as it; no condition is asked of a program. -/
import Derived.Test.YtiigoeecklelpaaDoorNorm
namespace Go.Proofs.YtiigoeecklelpaaDoor
set_option linter.unusedVariables false

/-- A packet: its numbers, and its body's bytes. -/
structure Pk where
  kind : Int
  ttl : Int
  ident : Int
  src : Int
  dst : Int
  pos : Int
  more : Bool
  body : List Int

def upB (n most : Int) : Bool := decide (0 ≤ n ∧ n ≤ most)
def pkIn (p : Pk) : Bool := upB p.kind 15 && upB p.ttl 255 && upB p.ident 65535 && upB p.src 4294967295 && upB p.dst 4294967295 && upB p.pos 32767
/-- What is wrong with a packet. -/
def pkErr (p : Pk) : Int := if pkIn p = false then 1 else if 4000 < p.body.length then 4 else 0
def plc (p : Pk) : Int := if p.more then p.pos + 32768 else p.pos
def headZ (p : Pk) (s : Int) : List Int :=
  [(80 + p.kind) % 256, p.ttl % 256, (18 + (p.body.length : Int)) / 256 % 256, (18 + (p.body.length : Int)) % 256, p.ident / 256 % 256, p.ident % 256, plc p / 256 % 256, plc p % 256, s / 256 % 256, s % 256,
   p.src / 256 / 256 / 256 % 256, p.src / 256 / 256 % 256, p.src / 256 % 256, p.src % 256, p.dst / 256 / 256 / 256 % 256, p.dst / 256 / 256 % 256, p.dst / 256 % 256, p.dst % 256]
def sumH (p : Pk) : Int := 65535 - tot 0 (headZ p 0)
def encL (p : Pk) : List Int := headZ p (sumH p) ++ p.body

/-- What bytes say of how many they are, and what is wrong with them. -/
def meas (zs : List Int) : Int × Int :=
  if zs.length < 18 then (0, 8) else if zs.getD 0 0 < 80 ∨ 95 < zs.getD 0 0 then (0, 2) else if ¬ tot 0 (zs.take 18) = 65535 then (0, 9) else
  if zs.getD 2 0 * 256 + zs.getD 3 0 < 18 then (0, 3) else if 4018 < zs.getD 2 0 * 256 + zs.getD 3 0 then (0, 4) else if (zs.length : Int) < zs.getD 2 0 * 256 + zs.getD 3 0 then (0, 8) else
  (zs.getD 2 0 * 256 + zs.getD 3 0, 0)
def rdPlc (zs : List Int) : Int := zs.getD 6 0 * 256 + zs.getD 7 0
/-- The packet that bytes begin with, if they do. -/
def readK (zs : List Int) (n : Nat) : Pk :=
  { kind := zs.getD 0 0 - 80, ttl := zs.getD 1 0, ident := zs.getD 4 0 * 256 + zs.getD 5 0,
    src := ((zs.getD 10 0 * 256 + zs.getD 11 0) * 256 + zs.getD 12 0) * 256 + zs.getD 13 0,
    dst := ((zs.getD 14 0 * 256 + zs.getD 15 0) * 256 + zs.getD 16 0) * 256 + zs.getD 17 0,
    pos := rdPlc zs % 32768, more := decide (32768 ≤ rdPlc zs), body := (zs.drop 18).take (n - 18) }
def zeroK : Pk := { kind := 0, ttl := 0, ident := 0, src := 0, dst := 0, pos := 0, more := false, body := [] }
def readF (zs : List Int) : Pk := if (meas zs).2 = 0 then readK zs (meas zs).1.toNat else zeroK
def stepE (zs : List Int) : Int := if ¬ (meas zs).2 = 0 then (meas zs).2 else if (meas zs).1 < (zs.length : Int) then 3 else if zs.getD 1 0 = 0 then 6 else 0
def stepS (zs : List Int) : Int := 65535 - addS (addS (65535 - (zs.getD 8 0 * 256 + zs.getD 9 0)) (65535 - (zs.getD 0 0 * 256 + zs.getD 1 0))) (zs.getD 0 0 * 256 + zs.getD 1 0 - 1)
def stepL (zs : List Int) : List Int := ((zs.set 1 (zs.getD 1 0 - 1)).set 8 (stepS zs / 256 % 256)).set 9 (stepS zs % 256)

theorem upB_yes {n m : Int} (h0 : 0 ≤ n) (h1 : n ≤ m) : upB n m = true := by simp [upB, h0, h1]
theorem of_upB {n m : Int} (h : upB n m = true) : 0 ≤ n ∧ n ≤ m := by simpa [upB] using h
theorem of_pkIn {p : Pk} (h : pkIn p = true) : (0 ≤ p.kind ∧ p.kind ≤ 15) ∧ (0 ≤ p.ttl ∧ p.ttl ≤ 255) ∧ (0 ≤ p.ident ∧ p.ident ≤ 65535) ∧ (0 ≤ p.src ∧ p.src ≤ 4294967295) ∧ (0 ≤ p.dst ∧ p.dst ≤ 4294967295) ∧ (0 ≤ p.pos ∧ p.pos ≤ 32767) := by
  simp only [pkIn, Bool.and_eq_true] at h
  obtain ⟨⟨⟨⟨⟨a, b⟩, c⟩, d⟩, e⟩, f⟩ := h
  exact ⟨of_upB a, of_upB b, of_upB c, of_upB d, of_upB e, of_upB f⟩
theorem pkErr_ok {p : Pk} (h : pkErr p = 0) : pkIn p = true ∧ p.body.length ≤ 4000 := by
  unfold pkErr at h
  split at h
  · simp at h
  · split at h
    · simp at h
    · refine ⟨by simpa using ‹¬ pkIn p = false›, by omega⟩
theorem plc_range {p : Pk} (h : pkIn p = true) : 0 ≤ plc p ∧ plc p ≤ 65535 := by
  have := (of_pkIn h).2.2.2.2.2
  unfold plc; split <;> omega
theorem byte_mod (x : Int) : 0 ≤ x % 256 ∧ x % 256 ≤ 255 := by omega
theorem headZ_byte (p : Pk) (s : Int) : ∀ x ∈ headZ p s, 0 ≤ x ∧ x ≤ 255 := by
  intro x hx
  simp only [headZ, List.mem_cons, List.not_mem_nil, or_false] at hx
  rcases hx with rfl | rfl | rfl | rfl | rfl | rfl | rfl | rfl | rfl | rfl | rfl | rfl | rfl | rfl | rfl | rfl | rfl | rfl <;> exact byte_mod _
theorem wsum_headZ (p : Pk) (s : Int) (h0 : 0 ≤ s) (h1 : s ≤ 65535) : wsum (headZ p s) = wsum (headZ p 0) + s := by
  simp only [headZ, wsum]; omega
theorem tot_headZ (p : Pk) (s : Int) : tot 0 (headZ p s) = norm (wsum (headZ p s)) := by
  rw [tot_norm _ 0 (headZ_byte p s) (by omega) (by omega), Int.zero_add]
theorem sumH_range (p : Pk) : 0 ≤ sumH p ∧ sumH p ≤ 65535 := by
  unfold sumH; rw [tot_headZ]; exact sum_range (wsum_nonneg _ (headZ_byte p 0))
theorem tot_sumH (p : Pk) : tot 0 (headZ p (sumH p)) = 65535 := by
  have hr := sumH_range p
  rw [tot_headZ, wsum_headZ p _ hr.1 hr.2]
  refine valid_sum (wsum_nonneg _ (headZ_byte p 0)) ?_
  unfold sumH; rw [tot_headZ]
theorem headZ_length (p : Pk) (s : Int) : (headZ p s).length = 18 := rfl
theorem encL_length (p : Pk) : (encL p).length = 18 + p.body.length := by unfold encL; rw [List.length_append, headZ_length]
theorem encL_byte (p : Pk) (h : ∀ x ∈ p.body, 0 ≤ x ∧ x ≤ 255) : ∀ x ∈ encL p, 0 ≤ x ∧ x ≤ 255 := by
  intro x hx
  rcases List.mem_append.1 hx with h' | h'
  · exact headZ_byte _ _ x h'
  · exact h x h'
theorem src_back (x : Int) (h0 : 0 ≤ x) (h1 : x ≤ 4294967295) : ((x / 256 / 256 / 256 % 256 * 256 + x / 256 / 256 % 256) * 256 + x / 256 % 256) * 256 + x % 256 = x := by omega
theorem take18 (p : Pk) (s : Int) (t : List Int) : (headZ p s ++ p.body ++ t).take 18 = headZ p s := by
  rw [List.append_assoc, List.take_append_of_le_length (by rw [headZ_length]; omega)]; exact List.take_of_length_le (by rw [headZ_length]; omega)
theorem drop18 (p : Pk) (s : Int) (t : List Int) : (headZ p s ++ p.body ++ t).drop 18 = p.body ++ t := rfl
/-- A head that is valid, with its body, and whatever stands behind, says how many bytes it is. -/
theorem meas_ok (p : Pk) (s : Int) (t : List Int) (h : pkErr p = 0) (hs : tot 0 (headZ p s) = 65535) : meas (headZ p s ++ p.body ++ t) = (18 + (p.body.length : Int), 0) := by
  obtain ⟨hp, hb⟩ := pkErr_ok h
  have hk := (of_pkIn hp).1
  have g0 : (headZ p s ++ p.body ++ t).getD 0 0 = (80 + p.kind) % 256 := rfl
  have g2 : (headZ p s ++ p.body ++ t).getD 2 0 = (18 + (p.body.length : Int)) / 256 % 256 := rfl
  have g3 : (headZ p s ++ p.body ++ t).getD 3 0 = (18 + (p.body.length : Int)) % 256 := rfl
  have hl : (headZ p s ++ p.body ++ t).length = 18 + p.body.length + t.length := by rw [List.length_append, List.length_append, headZ_length]
  have e : (18 + (p.body.length : Int)) / 256 % 256 * 256 + (18 + (p.body.length : Int)) % 256 = 18 + (p.body.length : Int) := by omega
  unfold meas
  rw [g0, g2, g3, hl, take18, hs, e, if_neg (by omega), if_neg (by omega), if_neg (by simp), if_neg (by omega), if_neg (by omega), if_neg (by omega)]
/-- and reads as the packet that it is of. -/
theorem readK_ok (p : Pk) (s : Int) (t : List Int) (h : pkErr p = 0) : readK (headZ p s ++ p.body ++ t) (18 + p.body.length) = p := by
  obtain ⟨hp, hb⟩ := pkErr_ok h
  obtain ⟨hk, ht, hi, hs, hd, ha⟩ := of_pkIn hp
  have hpl := plc_range hp
  have e0 : (headZ p s ++ p.body ++ t).getD 0 0 = (80 + p.kind) % 256 := rfl
  have e1 : (headZ p s ++ p.body ++ t).getD 1 0 = p.ttl % 256 := rfl
  have e4 : (headZ p s ++ p.body ++ t).getD 4 0 = p.ident / 256 % 256 := rfl
  have e5 : (headZ p s ++ p.body ++ t).getD 5 0 = p.ident % 256 := rfl
  have e6 : rdPlc (headZ p s ++ p.body ++ t) = plc p / 256 % 256 * 256 + plc p % 256 := rfl
  have e10 : (headZ p s ++ p.body ++ t).getD 10 0 = p.src / 256 / 256 / 256 % 256 := rfl
  have e11 : (headZ p s ++ p.body ++ t).getD 11 0 = p.src / 256 / 256 % 256 := rfl
  have e12 : (headZ p s ++ p.body ++ t).getD 12 0 = p.src / 256 % 256 := rfl
  have e13 : (headZ p s ++ p.body ++ t).getD 13 0 = p.src % 256 := rfl
  have e14 : (headZ p s ++ p.body ++ t).getD 14 0 = p.dst / 256 / 256 / 256 % 256 := rfl
  have e15 : (headZ p s ++ p.body ++ t).getD 15 0 = p.dst / 256 / 256 % 256 := rfl
  have e16 : (headZ p s ++ p.body ++ t).getD 16 0 = p.dst / 256 % 256 := rfl
  have e17 : (headZ p s ++ p.body ++ t).getD 17 0 = p.dst % 256 := rfl
  have ep : plc p / 256 % 256 * 256 + plc p % 256 = plc p := by omega
  have eb : ((headZ p s ++ p.body ++ t).drop 18).take (18 + p.body.length - 18) = p.body := by
    rw [drop18, show 18 + p.body.length - 18 = p.body.length by omega, List.take_left']; rfl
  have f1 : (80 + p.kind) % 256 - 80 = p.kind := by omega
  have f2 : p.ttl % 256 = p.ttl := by omega
  have f3 : p.ident / 256 % 256 * 256 + p.ident % 256 = p.ident := by omega
  have f4 : plc p % 32768 = p.pos := by unfold plc; split <;> omega
  have f5 : decide (32768 ≤ plc p) = p.more := by
    unfold plc
    rcases hm : p.more with _ | _
    · simp; omega
    · simp; omega
  unfold readK
  rw [e0, e1, e4, e5, e6, e10, e11, e12, e13, e14, e15, e16, e17, ep, eb, f1, f2, f3, f4, f5, src_back _ hs.1 hs.2, src_back _ hd.1 hd.2]
theorem readF_ok (p : Pk) (s : Int) (t : List Int) (h : pkErr p = 0) (hs : tot 0 (headZ p s) = 65535) : readF (headZ p s ++ p.body ++ t) = p := by
  unfold readF
  rw [meas_ok p s t h hs, if_pos rfl, show (18 + (p.body.length : Int), (0 : Int)).1.toNat = 18 + p.body.length by simp; omega, readK_ok p s t h]
/-- Cut off anywhere it is not whole. -/
theorem meas_cut (p : Pk) (k : Nat) (h : pkErr p = 0) (hk : k < 18 + p.body.length) : meas ((encL p).take k) = (0, 8) := by
  have hl : ((encL p).take k).length = k := by rw [List.length_take, encL_length]; omega
  by_cases h18 : k < 18
  · unfold meas; rw [hl, if_pos h18]
  · have e : (encL p).take k = headZ p (sumH p) ++ p.body.take (k - 18) := by
      unfold encL
      rw [List.take_append, headZ_length, List.take_of_length_le (by rw [headZ_length]; omega)]
    obtain ⟨hp, hb⟩ := pkErr_ok h
    have hk' := (of_pkIn hp).1
    rw [e]
    have g0 : (headZ p (sumH p) ++ p.body.take (k - 18)).getD 0 0 = (80 + p.kind) % 256 := rfl
    have g2 : (headZ p (sumH p) ++ p.body.take (k - 18)).getD 2 0 = (18 + (p.body.length : Int)) / 256 % 256 := rfl
    have g3 : (headZ p (sumH p) ++ p.body.take (k - 18)).getD 3 0 = (18 + (p.body.length : Int)) % 256 := rfl
    have gt : (headZ p (sumH p) ++ p.body.take (k - 18)).take 18 = headZ p (sumH p) := by
      rw [List.take_append_of_le_length (by rw [headZ_length]; omega)]; exact List.take_of_length_le (by rw [headZ_length]; omega)
    have gl : (headZ p (sumH p) ++ p.body.take (k - 18)).length = k := by rw [← e, hl]
    have e2 : (18 + (p.body.length : Int)) / 256 % 256 * 256 + (18 + (p.body.length : Int)) % 256 = 18 + (p.body.length : Int) := by omega
    unfold meas
    rw [g0, g2, g3, gt, gl, tot_sumH, e2, if_neg (by omega), if_neg (by omega), if_neg (by simp), if_neg (by omega), if_neg (by omega), if_pos (by omega)]
/-- With one byte of its head changed it is none. -/
theorem meas_spoilt (p : Pk) (k : Nat) (v : Int) (h : pkErr p = 0) (hk : k < 18) (h0 : 0 ≤ v) (h1 : v ≤ 255) (hne : ¬ (encL p).getD k 0 = v) : ¬ (meas ((encL p).set k v)).2 = 0 := by
  have hl : ((encL p).set k v).length = 18 + p.body.length := by rw [List.length_set, encL_length]
  have ht : ((encL p).set k v).take 18 = (headZ p (sumH p)).set k v := by
    rw [List.take_set]
    rfl
  have hg : (encL p).getD k 0 = (headZ p (sumH p)).getD k 0 := by
    unfold encL; simp [List.getD, List.getElem?_append, headZ_length, hk]
  rw [hg] at hne
  have hb := headZ_byte p (sumH p)
  have hkl : k < (headZ p (sumH p)).length := by rw [headZ_length]; exact hk
  have hbk := getD_byte hkl hb
  have hbs := byte_set (j := k) hb h0 h1
  have hT : ¬ tot 0 ((headZ p (sumH p)).set k v) = 65535 := by
    have hnn := wsum_nonneg _ hbs
    rw [wsum_set _ _ _ hkl] at hnn
    rw [tot_norm _ 0 hbs (by omega) (by omega), wsum_set _ _ _ hkl, Int.zero_add]
    have hv : norm (wsum (headZ p (sumH p))) = 65535 := by rw [← tot_headZ, tot_sumH]
    exact spoilt hv (by rcases place_cases k with h | h <;> rw [h] <;> omega) (by rcases place_cases k with h | h <;> rw [h] <;> omega) (by rcases place_cases k with h | h <;> rw [h] <;> omega) hnn
  unfold meas
  rw [hl, ht, if_neg (by omega)]
  split
  · simp
  · simp
/-- A step further. -/
theorem stepS_range (zs : List Int) (hb : ∀ x ∈ zs, 0 ≤ x ∧ x ≤ 255) (hl : 18 ≤ zs.length) (h1 : 0 < zs.getD 1 0) : 0 ≤ stepS zs ∧ stepS zs ≤ 65535 := by
  have b0 := getD_byte (by omega : 0 < zs.length) hb
  have b1 := getD_byte (by omega : 1 < zs.length) hb
  have b8 := getD_byte (by omega : 8 < zs.length) hb
  have b9 := getD_byte (by omega : 9 < zs.length) hb
  have r4 := addS_range (a := 65535 - (zs.getD 8 0 * 256 + zs.getD 9 0)) (b := 65535 - (zs.getD 0 0 * 256 + zs.getD 1 0)) (by omega) (by omega) (by omega) (by omega)
  have r5 := addS_range (a := addS (65535 - (zs.getD 8 0 * 256 + zs.getD 9 0)) (65535 - (zs.getD 0 0 * 256 + zs.getD 1 0))) (b := zs.getD 0 0 * 256 + zs.getD 1 0 - 1) r4.1 r4.2 (by omega) (by omega)
  unfold stepS; omega
theorem stepL_byte (zs : List Int) (hb : ∀ x ∈ zs, 0 ≤ x ∧ x ≤ 255) (hl : 18 ≤ zs.length) (h1 : 0 < zs.getD 1 0) : ∀ x ∈ stepL zs, 0 ≤ x ∧ x ≤ 255 := by
  have b1 := getD_byte (by omega : 1 < zs.length) hb
  unfold stepL
  exact byte_set (byte_set (byte_set hb (by omega) (by omega)) (byte_mod _).1 (byte_mod _).2) (byte_mod _).1 (byte_mod _).2
def lessT (p : Pk) : Pk := { p with ttl := p.ttl - 1 }
theorem lessT_ok {p : Pk} (h : pkErr p = 0) (ht : 0 < p.ttl) : pkErr (lessT p) = 0 := by
  obtain ⟨hp, hb⟩ := pkErr_ok h
  obtain ⟨hk, hT, hi, hs, hd, ha⟩ := of_pkIn hp
  have e : pkIn (lessT p) = true := by
    simp only [pkIn, lessT, Bool.and_eq_true]
    exact ⟨⟨⟨⟨⟨upB_yes hk.1 hk.2, upB_yes (by omega) (by omega)⟩, upB_yes hi.1 hi.2⟩, upB_yes hs.1 hs.2⟩, upB_yes hd.1 hd.2⟩, upB_yes ha.1 ha.2⟩
  unfold pkErr
  rw [e, if_neg (by simp), if_neg (by simp only [lessT]; omega)]
theorem stepL_enc (p : Pk) (h : pkErr p = 0) (ht : 0 < p.ttl) : stepL (encL p) = headZ (lessT p) (stepS (encL p)) ++ (lessT p).body ∧ tot 0 (headZ (lessT p) (stepS (encL p))) = 65535 := by
  obtain ⟨hp, hb⟩ := pkErr_ok h
  obtain ⟨hk, hT, hi, hs, hd, ha⟩ := of_pkIn hp
  have hr := sumH_range p
  have g0 : (encL p).getD 0 0 = (80 + p.kind) % 256 := rfl
  have g1 : (encL p).getD 1 0 = p.ttl % 256 := rfl
  have g8 : (encL p).getD 8 0 = sumH p / 256 % 256 := rfl
  have g9 : (encL p).getD 9 0 = sumH p % 256 := rfl
  have es : sumH p / 256 % 256 * 256 + sumH p % 256 = sumH p := by omega
  have ek : (80 + p.kind) % 256 = 80 + p.kind := by omega
  have et : p.ttl % 256 = p.ttl := by omega
  have eS : stepS (encL p) = 65535 - addS (addS (65535 - sumH p) (65535 - ((80 + p.kind) * 256 + p.ttl))) ((80 + p.kind) * 256 + p.ttl - 1) := by
    unfold stepS; rw [g0, g1, g8, g9, es, ek, et]
  have r4 := addS_range (a := 65535 - sumH p) (b := 65535 - ((80 + p.kind) * 256 + p.ttl)) (by omega) (by omega) (by omega) (by omega)
  have r5 := addS_range (a := addS (65535 - sumH p) (65535 - ((80 + p.kind) * 256 + p.ttl))) (b := (80 + p.kind) * 256 + p.ttl - 1) r4.1 r4.2 (by omega) (by omega)
  have hS : 0 ≤ stepS (encL p) ∧ stepS (encL p) ≤ 65535 := by rw [eS]; omega
  constructor
  · have e1 : stepL (encL p) = ((encL p).set 1 (p.ttl - 1) |>.set 8 (stepS (encL p) / 256 % 256)).set 9 (stepS (encL p) % 256) := by
      unfold stepL; rw [g1, et]
    rw [e1]
    generalize stepS (encL p) = m
    have et' : p.ttl - 1 = (p.ttl - 1) % 256 := by omega
    rw [et']
    rfl
  · rw [tot_headZ, wsum_headZ _ _ hS.1 hS.2]
    have hz : wsum (headZ (lessT p) 0) = wsum (headZ p 0) + (((80 + p.kind) * 256 + p.ttl - 1) - ((80 + p.kind) * 256 + p.ttl)) := by
      simp only [headZ, wsum, lessT]
      have : plc { kind := p.kind, ttl := p.ttl - 1, ident := p.ident, src := p.src, dst := p.dst, pos := p.pos, more := p.more, body := p.body } = plc p := rfl
      rw [this]
      omega
    have hn := wsum_nonneg _ (headZ_byte p 0)
    have hn' := wsum_nonneg _ (headZ_byte (lessT p) 0)
    have hbig : 0 < wsum (headZ (lessT p) 0) := by
      have hn2 := wsum_nonneg ((headZ (lessT p) 0).drop 2) (fun x hx => headZ_byte _ _ x (List.mem_of_mem_drop hx))
      have e2 : wsum (headZ (lessT p) 0) = (80 + p.kind) % 256 * 256 + (p.ttl - 1) % 256 + wsum ((headZ (lessT p) 0).drop 2) := rfl
      rw [e2]; omega
    rw [hz] at hn' hbig ⊢
    have hm := mended (s := wsum (headZ p 0)) (n := sumH p) (old := (80 + p.kind) * 256 + p.ttl) (now := (80 + p.kind) * 256 + p.ttl - 1) (d := ((80 + p.kind) * 256 + p.ttl - 1) - ((80 + p.kind) * 256 + p.ttl)) hn (by unfold sumH; rw [tot_headZ]) rfl (by omega) (by omega) (by omega) (by omega) hn'
    rw [← eS] at hm
    rcases hm with hm | ⟨hm1, hm2⟩
    · exact hm
    · exfalso
      rw [hm1, Int.add_zero] at hm2
      unfold norm at hm2
      split at hm2 <;> omega
theorem encL_app (p : Pk) : encL p = headZ p (sumH p) ++ p.body ++ [] := by unfold encL; simp
theorem meas_enc (p : Pk) (t : List Int) (h : pkErr p = 0) : meas (encL p ++ t) = (18 + (p.body.length : Int), 0) := meas_ok p _ t h (tot_sumH p)
theorem readF_enc (p : Pk) (t : List Int) (h : pkErr p = 0) : readF (encL p ++ t) = p := readF_ok p _ t h (tot_sumH p)
theorem stepE_enc (p : Pk) (h : pkErr p = 0) (ht : 0 < p.ttl) : stepE (encL p) = 0 := by
  have hp := (of_pkIn (pkErr_ok h).1).2.1
  have e := meas_enc p [] h
  rw [List.append_nil] at e
  unfold stepE
  rw [e, if_neg (by simp), if_neg (by rw [encL_length]; simp), if_neg]
  show ¬ p.ttl % 256 = 0
  omega
theorem meas_step (p : Pk) (h : pkErr p = 0) (ht : 0 < p.ttl) : meas (stepL (encL p)) = (18 + (p.body.length : Int), 0) ∧ readF (stepL (encL p)) = lessT p := by
  obtain ⟨e, hs⟩ := stepL_enc p h ht
  rw [e, ← List.append_nil (headZ (lessT p) (stepS (encL p)) ++ (lessT p).body)]
  exact ⟨meas_ok (lessT p) _ [] (lessT_ok h ht) hs, readF_ok (lessT p) _ [] (lessT_ok h ht) hs⟩
end Go.Proofs.YtiigoeecklelpaaDoor
