/- Segments as bytes, keys of packets, numbers that go round: plain facts on numbers and lists. Where the numbers of a segment are within their bounds, its bytes read back as it, and with one byte changed they do not; no condition is asked of a program. -/
import Derived.Test.YtiigoeecklelpaaDoorNorm
import Derived.Test.YtiigoeecklelpaaDoorKyV
import Derived.Test.YtiigoeecklelpaaDoorWireMath
namespace Go.Proofs.YtiigoeecklelpaaDoor
set_option linter.unusedVariables false

/-- A segment: its numbers, and its body's bytes. -/
structure Sg where
  frm : Int
  too : Int
  seq : Int
  ack : Int
  win : Int
  flg : Int
  body : List Int

def b1L (n : Int) : List Int := [n % 256]
def b2L (n : Int) : List Int := [n / 256 % 256, n % 256]
def b4L (n : Int) : List Int := [n / 16777216 % 256, n / 65536 % 256, n / 256 % 256, n % 256]
def isK (k : Int) : Bool := decide (1 ≤ k ∧ k ≤ 3)
def hdN (k : Int) : Nat := if k = 1 then 17 else if k = 2 then 6 else if k = 3 then 8 else 0
def frmB (k n : Int) : Bool := if k = 3 then upB n 1 else upB n 65535
def seqM (k : Int) : Int := if k = 3 then 65535 else 4294967295
def fitB (k : Int) (s : Sg) : Bool := frmB k s.frm && upB s.too 65535 && upB s.win 65535 && upB s.seq (seqM k) && upB s.ack 4294967295 && upB s.flg 15
def lackB (k : Int) (s : Sg) : Bool := decide ((k = 2 ∧ ¬ s.seq = 0) ∨ (¬ k = 1 ∧ (¬ s.ack = 0 ∨ ¬ s.win = 0 ∨ ¬ s.flg = 0)))
/-- What is wrong with a segment. -/
def sgErr (k : Int) (s : Sg) (src dst : Int) : Int :=
  if (isK k && upB src 4294967295 && upB dst 4294967295 && fitB k s) = false then 1 else if lackB k s = true then 3 else if 4000 < s.body.length + hdN k then 4 else 0
def front1 (s : Sg) : List Int := b2L s.frm ++ b2L s.too ++ b4L s.seq ++ b4L s.ack ++ b1L s.flg ++ b2L s.win
def front2 (s : Sg) : List Int := b2L s.frm ++ b2L s.too
def front3 (s : Sg) : List Int := b1L s.frm ++ b2L s.too ++ b2L s.seq ++ b1L 0
/-- The bytes ahead of the sum. -/
def frontL (k : Int) (s : Sg) : List Int := if k = 1 then front1 s else if k = 2 then front2 s else front3 s
/-- What is summed. -/
def psL (k : Int) (F B : List Int) (src dst : Int) : List Int := b4L src ++ b4L dst ++ b2L k ++ F ++ b2L 0 ++ B
def psum (k : Int) (F B : List Int) (src dst : Int) : Int := 65535 - tot 0 (psL k F B src dst)
def segL (k : Int) (s : Sg) (src dst : Int) : List Int := frontL k s ++ b2L (psum k (frontL k s) s.body src dst) ++ s.body
def g2 (zs : List Int) (o : Nat) : Int := zs.getD o 0 * 256 + zs.getD (o + 1) 0
def g4 (zs : List Int) (o : Nat) : Int := ((zs.getD o 0 * 256 + zs.getD (o + 1) 0) * 256 + zs.getD (o + 2) 0) * 256 + zs.getD (o + 3) 0
/-- What is wrong with bytes that are to be a segment. -/
def rdErr (k : Int) (zs : List Int) (src dst : Int) : Int :=
  if (isK k && upB src 4294967295 && upB dst 4294967295) = false then 1 else
  if zs.length < hdN k then 8 else if 4000 < zs.length then 4 else
  if ¬ g2 zs (hdN k - 2) = psum k (zs.take (hdN k - 2)) (zs.drop (hdN k)) src dst then 9 else
  if (k = 3 ∧ 1 < zs.getD 0 0) ∨ (k = 1 ∧ 15 < zs.getD 12 0) then 1 else if k = 3 ∧ ¬ zs.getD 5 0 = 0 then 3 else 0
def zeroS : Sg := { frm := 0, too := 0, seq := 0, ack := 0, win := 0, flg := 0, body := [] }
/-- The fields of bytes that are a segment. -/
def fldS (k : Int) (zs : List Int) : Sg :=
  if k = 1 then { frm := g2 zs 0, too := g2 zs 2, seq := g4 zs 4, ack := g4 zs 8, win := g2 zs 13, flg := zs.getD 12 0, body := zs.drop 17 } else
  if k = 2 then { frm := g2 zs 0, too := g2 zs 2, seq := 0, ack := 0, win := 0, flg := 0, body := zs.drop 6 } else
  { frm := zs.getD 0 0, too := g2 zs 1, seq := g2 zs 3, ack := 0, win := 0, flg := 0, body := zs.drop 8 }
def rdS (k : Int) (zs : List Int) (src dst : Int) : Sg := if rdErr k zs src dst = 0 then fldS k zs else zeroS
/-- The key of a packet, and what is wrong with it. -/
def kyE (p : Pk) : Int := if ¬ pkErr p = 0 then pkErr p else if ¬ p.pos = 0 ∨ p.more = true then 3 else rdErr p.kind p.body p.src p.dst
def zeroY : Ky := { kind := 0, src := 0, frm := 0, dst := 0, too := 0 }
def mkY (p : Pk) (s : Sg) : Ky := { kind := p.kind, src := p.src, frm := if p.kind = 3 then s.too else s.frm, dst := p.dst, too := s.too }
def kyS (p : Pk) : Sg := if kyE p = 0 then fldS p.kind p.body else zeroS
def kyK (p : Pk) : Ky := if kyE p = 0 then mkY p (fldS p.kind p.body) else zeroY
def turnK (k : Ky) : Ky := { kind := k.kind, src := k.dst, frm := k.too, dst := k.src, too := k.frm }
def firstK (k : Ky) : Ky := if k.dst < k.src ∨ (k.dst = k.src ∧ k.too < k.frm) then turnK k else k
def nearB (a b most : Int) : Bool := upB most 1073741824 && decide ((a - b + most) % 4294967296 ≤ 2 * most)

theorem isK_of {k : Int} (h : isK k = true) : k = 1 ∨ k = 2 ∨ k = 3 := by
  have : 1 ≤ k ∧ k ≤ 3 := by simpa [isK] using h
  omega
theorem isK_no {k : Int} (h : isK k = false) : ¬ (1 ≤ k ∧ k ≤ 3) := by simpa [isK] using h
theorem b1L_byte (n : Int) : ∀ x ∈ b1L n, 0 ≤ x ∧ x ≤ 255 := by
  intro x hx; simp only [b1L, List.mem_cons, List.not_mem_nil, or_false] at hx; omega
theorem b2L_byte (n : Int) : ∀ x ∈ b2L n, 0 ≤ x ∧ x ≤ 255 := by
  intro x hx; simp only [b2L, List.mem_cons, List.not_mem_nil, or_false] at hx; omega
theorem b4L_byte (n : Int) : ∀ x ∈ b4L n, 0 ≤ x ∧ x ≤ 255 := by
  intro x hx; simp only [b4L, List.mem_cons, List.not_mem_nil, or_false] at hx; omega
theorem byte_app {a b : List Int} (ha : ∀ x ∈ a, 0 ≤ x ∧ x ≤ 255) (hb : ∀ x ∈ b, 0 ≤ x ∧ x ≤ 255) : ∀ x ∈ a ++ b, 0 ≤ x ∧ x ≤ 255 := by
  intro x hx
  rcases List.mem_append.1 hx with h | h
  · exact ha x h
  · exact hb x h
theorem frontL_byte (k : Int) (s : Sg) : ∀ x ∈ frontL k s, 0 ≤ x ∧ x ≤ 255 := by
  unfold frontL
  split
  · exact byte_app (byte_app (byte_app (byte_app (byte_app (b2L_byte _) (b2L_byte _)) (b4L_byte _)) (b4L_byte _)) (b1L_byte _)) (b2L_byte _)
  · split
    · exact byte_app (b2L_byte _) (b2L_byte _)
    · exact byte_app (byte_app (byte_app (b1L_byte _) (b2L_byte _)) (b2L_byte _)) (b1L_byte _)
theorem psL_byte {k : Int} {F B : List Int} {src dst : Int} (hF : ∀ x ∈ F, 0 ≤ x ∧ x ≤ 255) (hB : ∀ x ∈ B, 0 ≤ x ∧ x ≤ 255) : ∀ x ∈ psL k F B src dst, 0 ≤ x ∧ x ≤ 255 :=
  byte_app (byte_app (byte_app (byte_app (byte_app (b4L_byte _) (b4L_byte _)) (b2L_byte _)) hF) (b2L_byte _)) hB
theorem psum_range {k : Int} {F B : List Int} {src dst : Int} (hF : ∀ x ∈ F, 0 ≤ x ∧ x ≤ 255) (hB : ∀ x ∈ B, 0 ≤ x ∧ x ≤ 255) : 0 ≤ psum k F B src dst ∧ psum k F B src dst ≤ 65535 := by
  have := tot_range (psL k F B src dst) 0 (psL_byte hF hB) (by omega) (by omega)
  unfold psum; omega
theorem frontL_length {k : Int} (s : Sg) (h : isK k = true) : (frontL k s).length + 2 = hdN k := by
  rcases isK_of h with rfl | rfl | rfl <;> rfl
theorem segL_length {k : Int} (s : Sg) (src dst : Int) (h : isK k = true) : (segL k s src dst).length = hdN k + s.body.length := by
  unfold segL
  have e := frontL_length s h
  simp only [List.length_append, b2L, List.length_cons, List.length_nil]
  omega
theorem segL_byte (k : Int) (s : Sg) (src dst : Int) (hB : ∀ x ∈ s.body, 0 ≤ x ∧ x ≤ 255) : ∀ x ∈ segL k s src dst, 0 ≤ x ∧ x ≤ 255 :=
  byte_app (byte_app (frontL_byte k s) (b2L_byte _)) hB
theorem sgErr_ok {k : Int} {s : Sg} {src dst : Int} (h : sgErr k s src dst = 0) :
    isK k = true ∧ upB src 4294967295 = true ∧ upB dst 4294967295 = true ∧ fitB k s = true ∧ lackB k s = false ∧ s.body.length + hdN k ≤ 4000 := by
  unfold sgErr at h
  split at h
  · simp at h
  split at h
  · simp at h
  split at h
  · simp at h
  · rename_i h1 h2 h3
    have e : (isK k && upB src 4294967295 && upB dst 4294967295 && fitB k s) = true := by
      revert h1
      cases (isK k && upB src 4294967295 && upB dst 4294967295 && fitB k s) <;> simp
    simp only [Bool.and_eq_true] at e
    exact ⟨e.1.1.1, e.1.1.2, e.1.2, e.2, by simpa using h2, by omega⟩
theorem fitB_of {k : Int} {s : Sg} (h : fitB k s = true) : frmB k s.frm = true ∧ (0 ≤ s.too ∧ s.too ≤ 65535) ∧ (0 ≤ s.win ∧ s.win ≤ 65535) ∧ (0 ≤ s.seq ∧ s.seq ≤ seqM k) ∧ (0 ≤ s.ack ∧ s.ack ≤ 4294967295) ∧ (0 ≤ s.flg ∧ s.flg ≤ 15) := by
  simp only [fitB, Bool.and_eq_true] at h
  obtain ⟨⟨⟨⟨⟨a, b⟩, c⟩, d⟩, e⟩, f⟩ := h
  exact ⟨a, of_upB b, of_upB c, of_upB d, of_upB e, of_upB f⟩
theorem frmB_of {k n : Int} (h : frmB k n = true) : 0 ≤ n ∧ n ≤ 65535 ∧ (k = 3 → n ≤ 1) := by
  unfold frmB at h
  split at h
  · have := of_upB h; omega
  · have := of_upB h; omega
theorem seqM_le (k : Int) : seqM k ≤ 4294967295 ∧ (k = 3 → seqM k ≤ 65535) := by
  unfold seqM; split <;> simp_all
theorem take_front (F B : List Int) (S : Int) : (F ++ b2L S ++ B).take F.length = F := by
  rw [List.append_assoc, List.take_left']; rfl
theorem drop_front (F B : List Int) (S : Int) : (F ++ b2L S ++ B).drop (F.length + 2) = B := by
  rw [List.drop_left']; simp [b2L]
theorem g2_front (F B : List Int) (S : Int) (h0 : 0 ≤ S) (h1 : S ≤ 65535) : g2 (F ++ b2L S ++ B) F.length = S := by
  unfold g2
  have e1 : (F ++ b2L S ++ B).getD F.length 0 = S / 256 % 256 := by simp [List.getD, b2L]
  have e2 : (F ++ b2L S ++ B).getD (F.length + 1) 0 = S % 256 := by
    rw [List.append_assoc]; simp [List.getD, b2L]
  rw [e1, e2]; omega
theorem hdN_ge {k : Int} (h : isK k = true) : 6 ≤ hdN k ∧ hdN k ≤ 17 := by
  rcases isK_of h with rfl | rfl | rfl <;> decide
/-- Of bytes of that form the sum is looked at. -/
theorem sum_seen {k : Int} (F B : List Int) (S src dst : Int) (hk : isK k = true) (hl : F.length + 2 = hdN k) (h0 : 0 ≤ S) (h1 : S ≤ 65535) :
    (g2 (F ++ b2L S ++ B) (hdN k - 2) = psum k ((F ++ b2L S ++ B).take (hdN k - 2)) ((F ++ b2L S ++ B).drop (hdN k)) src dst) ↔ S = psum k F B src dst := by
  rw [← hl, show F.length + 2 - 2 = F.length by omega, take_front, drop_front, g2_front F B S h0 h1]
theorem rd_range {k src dst : Int} (hk : isK k = true) (hs : upB src 4294967295 = true) (hd : upB dst 4294967295 = true) : ¬ (isK k && upB src 4294967295 && upB dst 4294967295) = false := by
  rw [hk, hs, hd]; simp
/-- With another sum it is told. -/
theorem rdErr_sum {k : Int} (F B : List Int) (S src dst : Int) (hk : isK k = true) (hs : upB src 4294967295 = true) (hd : upB dst 4294967295 = true) (hl : F.length + 2 = hdN k) (h0 : 0 ≤ S) (h1 : S ≤ 65535) (h4 : B.length + hdN k ≤ 4000)
    (hne : ¬ S = psum k F B src dst) : rdErr k (F ++ b2L S ++ B) src dst = 9 := by
  have e : (F ++ b2L S ++ B).length = hdN k + B.length := by simp [b2L]; omega
  unfold rdErr
  rw [if_neg (rd_range hk hs hd), e, if_neg (by omega), if_neg (by omega), if_pos (by rw [sum_seen F B S src dst hk hl h0 h1]; exact hne)]
theorem num4 (x : Int) (h0 : 0 ≤ x) (h1 : x ≤ 4294967295) : ((x / 16777216 % 256 * 256 + x / 65536 % 256) * 256 + x / 256 % 256) * 256 + x % 256 = x := by omega
theorem num2 (x : Int) (h0 : 0 ≤ x) (h1 : x ≤ 65535) : x / 256 % 256 * 256 + x % 256 = x := by omega
theorem num1 (x : Int) (h0 : 0 ≤ x) (h1 : x ≤ 255) : x % 256 = x := by omega
/-- The bytes of a segment read back as it. -/
theorem rdErr_ok {k : Int} {s : Sg} {src dst : Int} (h : sgErr k s src dst = 0) (hB : ∀ x ∈ s.body, 0 ≤ x ∧ x ≤ 255) : rdErr k (segL k s src dst) src dst = 0 ∧ fldS k (segL k s src dst) = s := by
  obtain ⟨hk, hs, hd, hf, hla, h4⟩ := sgErr_ok h
  obtain ⟨f1, f2, f3, f4, f5, f6⟩ := fitB_of hf
  have f1' := frmB_of f1
  have hm := seqM_le k
  have hla' : ¬ ((k = 2 ∧ ¬ s.seq = 0) ∨ (¬ k = 1 ∧ (¬ s.ack = 0 ∨ ¬ s.win = 0 ∨ ¬ s.flg = 0))) := by simpa [lackB] using hla
  have hr := psum_range (k := k) (src := src) (dst := dst) (frontL_byte k s) hB
  have e := segL_length s src dst hk
  have es := (sum_seen (frontL k s) s.body (psum k (frontL k s) s.body src dst) src dst hk (frontL_length s hk) hr.1 hr.2).2 rfl
  unfold rdErr
  rw [if_neg (rd_range hk hs hd), e, if_neg (by omega), if_neg (by omega), if_neg (by rw [Decidable.not_not]; exact es)]
  clear es e h hf hla h4 hs hd
  generalize psum k (frontL k s) s.body src dst = S at *
  obtain ⟨frm, too, seq, ack, win, flg, body⟩ := s
  simp only at f1' f2 f3 f4 f5 f6 hla' hB
  rcases isK_of hk with rfl | rfl | rfl
  · have hz : segL 1 ⟨frm, too, seq, ack, win, flg, body⟩ src dst = segL 1 ⟨frm, too, seq, ack, win, flg, body⟩ src dst := rfl
    unfold segL at hz ⊢
    have a0 : ∀ S : Int, (frontL 1 ⟨frm, too, seq, ack, win, flg, body⟩ ++ b2L S ++ body) = [frm / 256 % 256, frm % 256, too / 256 % 256, too % 256, seq / 16777216 % 256, seq / 65536 % 256, seq / 256 % 256, seq % 256, ack / 16777216 % 256, ack / 65536 % 256, ack / 256 % 256, ack % 256, flg % 256, win / 256 % 256, win % 256, S / 256 % 256, S % 256] ++ body := fun S => rfl
    simp only [a0]
    refine ⟨?_, ?_⟩
    · rw [if_neg, if_neg (by omega)]
      rintro (⟨h, _⟩ | ⟨_, h⟩)
      · omega
      · have : flg % 256 = flg := by omega
        simp only [List.cons_append, List.getD, List.getElem?_cons_succ, List.getElem?_cons_zero, Option.getD_some] at h
        omega
    · unfold fldS g2 g4
      rw [if_pos rfl]
      simp only [List.cons_append, List.nil_append, List.getD, List.getElem?_cons_succ, List.getElem?_cons_zero, Option.getD_some, List.drop_succ_cons, List.drop_zero]
      rw [num2 frm (by omega) (by omega), num2 too (by omega) (by omega), num4 seq (by omega) (by omega), num4 ack (by omega) (by omega), num2 win (by omega) (by omega), num1 flg (by omega) (by omega)]
  · unfold segL
    have a0 : ∀ S : Int, (frontL 2 ⟨frm, too, seq, ack, win, flg, body⟩ ++ b2L S ++ body) = [frm / 256 % 256, frm % 256, too / 256 % 256, too % 256, S / 256 % 256, S % 256] ++ body := fun S => rfl
    simp only [a0]
    refine ⟨?_, ?_⟩
    · rw [if_neg (by omega), if_neg (by omega)]
    · unfold fldS g2 g4
      rw [if_neg (by decide), if_pos rfl]
      simp only [List.cons_append, List.nil_append, List.getD, List.getElem?_cons_succ, List.getElem?_cons_zero, Option.getD_some, List.drop_succ_cons, List.drop_zero]
      rw [num2 frm (by omega) (by omega), num2 too (by omega) (by omega), show seq = 0 by omega, show ack = 0 by omega, show win = 0 by omega, show flg = 0 by omega]
  · unfold segL
    have a0 : ∀ S : Int, (frontL 3 ⟨frm, too, seq, ack, win, flg, body⟩ ++ b2L S ++ body) = [frm % 256, too / 256 % 256, too % 256, seq / 256 % 256, seq % 256, 0 % 256, S / 256 % 256, S % 256] ++ body := fun S => rfl
    simp only [a0]
    refine ⟨?_, ?_⟩
    · rw [if_neg, if_neg]
      · rintro ⟨_, h⟩
        exact h rfl
      · rintro (⟨_, h⟩ | ⟨h, _⟩)
        · have : frm % 256 = frm := by omega
          simp only [List.cons_append, List.getD, List.getElem?_cons_zero, Option.getD_some] at h
          omega
        · omega
    · unfold fldS g2 g4
      rw [if_neg (by decide), if_neg (by decide)]
      simp only [List.cons_append, List.nil_append, List.getD, List.getElem?_cons_succ, List.getElem?_cons_zero, Option.getD_some, List.drop_succ_cons, List.drop_zero]
      rw [num1 frm (by omega) (by omega), num2 too (by omega) (by omega), num2 seq (by omega) (by omega), show ack = 0 by omega, show win = 0 by omega, show flg = 0 by omega]
theorem norm_ne {s d : Int} (hs : 0 ≤ s) (hd : ¬ d = 0) (h1 : -65535 < d) (h2 : d < 65535) (h : 0 ≤ s + d) : ¬ norm (s + d) = norm s := by
  unfold norm
  split <;> split <;> omega
/-- One byte that changes changes the sum. -/
theorem tot_set_ne {l : List Int} {j : Nat} {v : Int} (hb : ∀ x ∈ l, 0 ≤ x ∧ x ≤ 255) (hj : j < l.length) (h0 : 0 ≤ v) (h1 : v ≤ 255) (hne : ¬ l.getD j 0 = v) : ¬ tot 0 (l.set j v) = tot 0 l := by
  have hbs := byte_set (j := j) hb h0 h1
  have hx := getD_byte hj hb
  have hnn := wsum_nonneg _ hbs
  have h0' := wsum_nonneg _ hb
  rw [tot_norm _ 0 hbs (by omega) (by omega), tot_norm _ 0 hb (by omega) (by omega), Int.zero_add, Int.zero_add]
  rw [wsum_set _ _ _ hj] at hnn ⊢
  exact norm_ne h0' (by rcases place_cases j with h | h <;> rw [h] <;> omega) (by rcases place_cases j with h | h <;> rw [h] <;> omega) (by rcases place_cases j with h | h <;> rw [h] <;> omega) hnn
theorem psL_length (k : Int) (F B : List Int) (src dst : Int) : (psL k F B src dst).length = 12 + F.length + B.length := by
  simp only [psL, List.length_append, b4L, b2L, List.length_cons, List.length_nil]; omega
theorem psL_setF (k : Int) (F B : List Int) (src dst : Int) (j : Nat) (v : Int) (h : j < F.length) : psL k (F.set j v) B src dst = (psL k F B src dst).set (10 + j) v ∧ (psL k F B src dst).getD (10 + j) 0 = F.getD j 0 := by
  have e : ∀ G : List Int, psL k G B src dst = (b4L src ++ b4L dst ++ b2L k) ++ (G ++ (b2L 0 ++ B)) := fun G => by simp [psL]
  have hp : (b4L src ++ b4L dst ++ b2L k).length = 10 := rfl
  rw [e, e]
  generalize b4L src ++ b4L dst ++ b2L k = P at *
  refine ⟨?_, ?_⟩
  · rw [List.set_append, if_neg (by omega), hp, show 10 + j - 10 = j by omega, List.set_append, if_pos h]
  · simp only [List.getD]
    rw [List.getElem?_append_right (by omega), hp, show 10 + j - 10 = j by omega, List.getElem?_append_left h]
theorem psL_setB (k : Int) (F B : List Int) (src dst : Int) (j : Nat) (v : Int) (h : j < B.length) : psL k F (B.set j v) src dst = (psL k F B src dst).set (12 + F.length + j) v ∧ (psL k F B src dst).getD (12 + F.length + j) 0 = B.getD j 0 := by
  have hp : (b4L src ++ b4L dst ++ b2L k ++ F ++ b2L 0).length = 12 + F.length := by simp [b4L, b2L]; omega
  unfold psL
  generalize b4L src ++ b4L dst ++ b2L k ++ F ++ b2L 0 = P at *
  refine ⟨?_, ?_⟩
  · rw [List.set_append, if_neg (by omega), hp, show 12 + F.length + j - (12 + F.length) = j by omega]
  · simp only [List.getD]
    rw [List.getElem?_append_right (by omega), hp, show 12 + F.length + j - (12 + F.length) = j by omega]
theorem b2L_set (S : Int) (v : Int) (h0 : 0 ≤ S) (h1 : S ≤ 65535) (hv0 : 0 ≤ v) (hv1 : v ≤ 255) (j : Nat) (hj : j < 2) (hne : ¬ (b2L S).getD j 0 = v) : ∃ S', (b2L S).set j v = b2L S' ∧ 0 ≤ S' ∧ S' ≤ 65535 ∧ ¬ S' = S := by
  have : j = 0 ∨ j = 1 := by omega
  rcases this with rfl | rfl
  · refine ⟨v * 256 + S % 256, ?_, by omega, by omega, ?_⟩
    · have e1 : (v * 256 + S % 256) / 256 % 256 = v := by omega
      have e2 : (v * 256 + S % 256) % 256 = S % 256 := by omega
      unfold b2L; rw [e1, e2]; rfl
    · intro h
      apply hne
      show S / 256 % 256 = v
      omega
  · refine ⟨S / 256 % 256 * 256 + v, ?_, by omega, by omega, ?_⟩
    · have e1 : (S / 256 % 256 * 256 + v) / 256 % 256 = S / 256 % 256 := by omega
      have e2 : (S / 256 % 256 * 256 + v) % 256 = v := by omega
      unfold b2L; rw [e1, e2]; rfl
    · intro h
      apply hne
      show S % 256 = v
      omega
/-- With one byte changed it is told. -/
theorem rdErr_flip {k : Int} {s : Sg} {src dst : Int} (h : sgErr k s src dst = 0) (hB : ∀ x ∈ s.body, 0 ≤ x ∧ x ≤ 255) (j : Nat) (v : Int) (hj : j < (segL k s src dst).length) (h0 : 0 ≤ v) (h1 : v ≤ 255) (hne : ¬ (segL k s src dst).getD j 0 = v) :
    rdErr k ((segL k s src dst).set j v) src dst = 9 := by
  obtain ⟨hk, hs, hd, hf, hla, h4⟩ := sgErr_ok h
  have hr := psum_range (k := k) (src := src) (dst := dst) (frontL_byte k s) hB
  have hl := frontL_length s hk
  have hF := frontL_byte k s
  rw [segL_length s src dst hk] at hj
  unfold segL at hne ⊢
  generalize frontL k s = F at *
  obtain ⟨S, hS⟩ : ∃ S, psum k F s.body src dst = S := ⟨_, rfl⟩
  rw [hS] at hne hr ⊢
  have l2 : (b2L S).length = 2 := rfl
  by_cases c1 : j < F.length
  · have e : (F ++ b2L S ++ s.body).set j v = F.set j v ++ b2L S ++ s.body := by
      rw [List.append_assoc, List.set_append, if_pos c1, ← List.append_assoc]
    have g : (F ++ b2L S ++ s.body).getD j 0 = F.getD j 0 := by
      simp only [List.getD]; rw [List.append_assoc, List.getElem?_append_left c1]
    rw [g] at hne
    rw [e]
    refine rdErr_sum _ _ S src dst hk hs hd (by rw [List.length_set]; exact hl) hr.1 hr.2 h4 ?_
    obtain ⟨p1, p2⟩ := psL_setF k F s.body src dst j v c1
    rw [← hS]
    unfold psum
    rw [p1]
    have := tot_set_ne (j := 10 + j) (v := v) (psL_byte (k := k) (src := src) (dst := dst) hF hB) (by rw [psL_length]; omega) h0 h1 (by rw [p2]; exact hne)
    omega
  · by_cases c2 : j < F.length + 2
    · have e : (F ++ b2L S ++ s.body).set j v = F ++ (b2L S).set (j - F.length) v ++ s.body := by
        rw [List.append_assoc, List.set_append, if_neg c1, List.set_append, if_pos (by rw [l2]; omega), ← List.append_assoc]
      have g : (F ++ b2L S ++ s.body).getD j 0 = (b2L S).getD (j - F.length) 0 := by
        simp only [List.getD]; rw [List.append_assoc, List.getElem?_append_right (by omega), List.getElem?_append_left (by rw [l2]; omega)]
      rw [g] at hne
      obtain ⟨S', q1, q2, q3, q4⟩ := b2L_set S v hr.1 hr.2 h0 h1 (j - F.length) (by omega) hne
      rw [e, q1]
      exact rdErr_sum F _ S' src dst hk hs hd hl q2 q3 h4 (by rw [hS]; exact q4)
    · have lp : (F ++ b2L S).length = F.length + 2 := by rw [List.length_append, l2]
      have e : (F ++ b2L S ++ s.body).set j v = F ++ b2L S ++ s.body.set (j - (F.length + 2)) v := by
        rw [List.set_append, if_neg (by rw [lp]; omega), lp]
      have g : (F ++ b2L S ++ s.body).getD j 0 = s.body.getD (j - (F.length + 2)) 0 := by
        simp only [List.getD]; rw [List.getElem?_append_right (by rw [lp]; omega), lp]
      rw [g] at hne
      rw [e]
      refine rdErr_sum F _ S src dst hk hs hd hl hr.1 hr.2 (by rw [List.length_set]; exact h4) ?_
      obtain ⟨p1, p2⟩ := psL_setB k F s.body src dst (j - (F.length + 2)) v (by omega)
      rw [← hS]
      unfold psum
      rw [p1]
      have := tot_set_ne (j := 12 + F.length + (j - (F.length + 2))) (v := v) (psL_byte (k := k) (src := src) (dst := dst) hF hB) (by rw [psL_length]; omega) h0 h1 (by rw [p2]; exact hne)
      omega
/-- With its source the next one it is told. -/
theorem rdErr_src {k : Int} {s : Sg} {src dst : Int} (h : sgErr k s src dst = 0) (hB : ∀ x ∈ s.body, 0 ≤ x ∧ x ≤ 255) (h1 : src < 4294967295) (h2 : ¬ src % 65536 = 65535) : rdErr k (segL k s src dst) (src + 1) dst = 9 := by
  obtain ⟨hk, hs, hd, hf, hla, h4⟩ := sgErr_ok h
  have hr := psum_range (k := k) (src := src) (dst := dst) (frontL_byte k s) hB
  have hs' := of_upB hs
  refine rdErr_sum (frontL k s) s.body _ (src + 1) dst hk (upB_yes (by omega) (by omega)) hd (frontL_length s hk) hr.1 hr.2 h4 ?_
  have hb1 := psL_byte (k := k) (src := src) (dst := dst) (frontL_byte k s) hB
  have hb2 := psL_byte (k := k) (src := src + 1) (dst := dst) (frontL_byte k s) hB
  unfold psum
  rw [tot_norm _ 0 hb1 (by omega) (by omega), tot_norm _ 0 hb2 (by omega) (by omega), Int.zero_add, Int.zero_add]
  have n1 := wsum_nonneg _ hb1
  have n2 := wsum_nonneg _ hb2
  have e : wsum (psL k (frontL k s) s.body (src + 1) dst) = wsum (psL k (frontL k s) s.body src dst) + 1 := by
    have q : ∀ x : Int, psL k (frontL k s) s.body x dst = x / 16777216 % 256 :: x / 65536 % 256 :: x / 256 % 256 :: x % 256 :: (b4L dst ++ b2L k ++ frontL k s ++ b2L 0 ++ s.body) := fun x => by simp [psL, b4L]
    rw [q, q]
    simp only [wsum]
    omega
  rw [e] at n2 ⊢
  have := norm_ne (d := 1) n1 (by omega) (by omega) (by omega) n2
  omega
/-- A segment's packet has its key. -/
def carry (k : Int) (zs : List Int) (src dst : Int) : Pk := { kind := k, ttl := 1, ident := 0, src := src, dst := dst, pos := 0, more := false, body := zs }
theorem kyE_ok {k : Int} {s : Sg} {src dst : Int} (h : sgErr k s src dst = 0) (hB : ∀ x ∈ s.body, 0 ≤ x ∧ x ≤ 255) : kyE (carry k (segL k s src dst) src dst) = 0 := by
  obtain ⟨hk, hs, hd, hf, hla, h4⟩ := sgErr_ok h
  have e : pkErr (carry k (segL k s src dst) src dst) = 0 := by
    unfold pkErr
    rw [if_neg, if_neg]
    · show ¬ 4000 < (segL k s src dst).length
      rw [segL_length s src dst hk]; omega
    · have hk' : 1 ≤ k ∧ k ≤ 3 := by simpa [isK] using hk
      simp only [pkIn, carry, Bool.and_eq_false_iff]
      rw [upB_yes (n := k) (m := 15) (by omega) (by omega), upB_yes (n := 1) (m := 255) (by omega) (by omega), upB_yes (n := 0) (m := 65535) (by omega) (by omega), hs, hd, upB_yes (n := 0) (m := 32767) (by omega) (by omega)]
      simp
  unfold kyE
  rw [if_neg (by rw [Decidable.not_not]; exact e), if_neg (by simp [carry])]
  exact (rdErr_ok h hB).1
theorem kyS_ok {k : Int} {s : Sg} {src dst : Int} (h : sgErr k s src dst = 0) (hB : ∀ x ∈ s.body, 0 ≤ x ∧ x ≤ 255) : kyS (carry k (segL k s src dst) src dst) = s ∧ kyK (carry k (segL k s src dst) src dst) = { kind := k, src := src, frm := if k = 3 then s.too else s.frm, dst := dst, too := s.too } := by
  unfold kyS kyK
  rw [if_pos (kyE_ok h hB), if_pos (kyE_ok h hB)]
  have e : fldS (carry k (segL k s src dst) src dst).kind (carry k (segL k s src dst) src dst).body = s := (rdErr_ok h hB).2
  rw [e]
  exact ⟨rfl, rfl⟩
theorem turn_turn (k : Ky) : turnK (turnK k) = k := rfl
theorem first_turn (k : Ky) : firstK (turnK k) = firstK k := by
  obtain ⟨kind, src, frm, dst, too⟩ := k
  unfold firstK turnK
  simp only
  by_cases h1 : dst < src ∨ (dst = src ∧ too < frm)
  · rw [if_pos h1, if_neg (by omega)]
  · rw [if_neg h1]
    by_cases h2 : src < dst ∨ (src = dst ∧ frm < too)
    · rw [if_pos h2]
    · rw [if_neg h2]
      obtain ⟨rfl, rfl⟩ : src = dst ∧ frm = too := by omega
      rfl
end Go.Proofs.YtiigoeecklelpaaDoor
