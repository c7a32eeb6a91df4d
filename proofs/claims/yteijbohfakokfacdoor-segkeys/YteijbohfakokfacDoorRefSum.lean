/- What the reference's SegSum returns (package portref1): the sum of a segment whose head, and whose body, are so. -/
import Derived.Test.YteijbohfakokfacDoorRefBytes
import Derived.Test.YteijbohfakokfacDoorSegPut
namespace Go.Proofs.YteijbohfakokfacDoor
open Go.RowKit
set_option linter.unusedVariables false

theorem beL1 (n : Int) : beL 1 n = b1L n := by
  show [n / pw (8 * ((0 : Nat) : Int)) % 256] = _
  rw [show pw (8 * ((0 : Nat) : Int)) = 1 by decide, Int.ediv_one]; rfl
theorem beL2 (n : Int) : beL 2 n = b2L n := by
  show [n / pw (8 * ((1 : Nat) : Int)) % 256, n / pw (8 * ((0 : Nat) : Int)) % 256] = _
  rw [show pw (8 * ((1 : Nat) : Int)) = 256 by decide, show pw (8 * ((0 : Nat) : Int)) = 1 by decide, Int.ediv_one]; rfl
theorem beL4 (n : Int) : beL 4 n = b4L n := by
  show [n / pw (8 * ((3 : Nat) : Int)) % 256, n / pw (8 * ((2 : Nat) : Int)) % 256, n / pw (8 * ((1 : Nat) : Int)) % 256, n / pw (8 * ((0 : Nat) : Int)) % 256] = _
  rw [show pw (8 * ((3 : Nat) : Int)) = 16777216 by decide, show pw (8 * ((2 : Nat) : Int)) = 65536 by decide, show pw (8 * ((1 : Nat) : Int)) = 256 by decide, show pw (8 * ((0 : Nat) : Int)) = 1 by decide, Int.ediv_one]; rfl
theorem Grows.ref1 {w wi : World} {B : Nat} {v : Value} {L : List Int} (h : Grows w B wi v L) (n : Int) (h0 : 0 ≤ n) (h1 : n ≤ 4294967295) (hy : L.length ≤ 100000) :
    Calls Tryd.prog 41 #[v, .int .i64 n, .int .i64 1] wi fun e w' => ∃ v', e = .returned v' ∧ Grows w B w' v' (L ++ b1L n) := by
  have h2 := refBytes_any v L n 1 B wi h.1 h0 h1 (by omega) hy h.2.2
  rw [beL1] at h2
  refine h2.mono ?_
  rintro e w' ⟨v', rfl, ho, hg⟩
  exact ⟨v', rfl, h.step ho hg⟩
theorem Grows.ref2 {w wi : World} {B : Nat} {v : Value} {L : List Int} (h : Grows w B wi v L) (n : Int) (h0 : 0 ≤ n) (h1 : n ≤ 4294967295) (hy : L.length ≤ 100000) :
    Calls Tryd.prog 41 #[v, .int .i64 n, .int .i64 2] wi fun e w' => ∃ v', e = .returned v' ∧ Grows w B w' v' (L ++ b2L n) := by
  have h2 := refBytes_any v L n 2 B wi h.1 h0 h1 (by omega) hy h.2.2
  rw [beL2] at h2
  refine h2.mono ?_
  rintro e w' ⟨v', rfl, ho, hg⟩
  exact ⟨v', rfl, h.step ho hg⟩
theorem Grows.ref4 {w wi : World} {B : Nat} {v : Value} {L : List Int} (h : Grows w B wi v L) (n : Int) (h0 : 0 ≤ n) (h1 : n ≤ 4294967295) (hy : L.length ≤ 100000) :
    Calls Tryd.prog 41 #[v, .int .i64 n, .int .i64 4] wi fun e w' => ∃ v', e = .returned v' ∧ Grows w B w' v' (L ++ b4L n) := by
  have h2 := refBytes_any v L n 4 B wi h.1 h0 h1 (by omega) hy h.2.2
  rw [beL4] at h2
  refine h2.mono ?_
  rintro e w' ⟨v', rfl, ho, hg⟩
  exact ⟨v', rfl, h.step ho hg⟩
set_option maxRecDepth 100000 in
set_option maxHeartbeats 8000000 in
theorem refSegSum_any (k src dst : Int) (vf vb : Value) (F B : List Int) (w : World) (hf : Bytes w vf F) (hb : Bytes w vb B) (hF : F.length ≤ 5000) (hB : B.length ≤ 5000) (hk : isK k = true) (hs : upB src 4294967295 = true) (hd : upB dst 4294967295 = true) :
    Calls Tryd.prog 21 #[.int .i64 k, vf, vb, .int .i64 src, .int .i64 dst] w fun e w' => e = .returned (.int .i64 (psum k F B src dst)) ∧ Below w.heap.size w w' := by
  have HF : Hid (Bytes w vf F) := hf
  have HB : Hid (Bytes w vb B) := hb
  have hs' := of_upB hs
  have hd' := of_upB hd
  have hk' : 1 ≤ k ∧ k ≤ 3 := by simpa [isK] using hk
  have s0 := Grows.nil w w.heap.size (Nat.le_refl _)
  have h0 := s0.ref4 src hs'.1 hs'.2 (by simp)
  clear hf hb hk hs hd
  go_enter Tryd.func21, Tryd.ntmps21
  go_wp2_with fail
  refine h0.mono ?_
  rintro e w1 ⟨v1, rfl, s1⟩
  have h1 := s1.ref4 dst hd'.1 hd'.2 (by simp [b4L])
  clear h0 s0
  go_wp2_with fail
  refine h1.mono ?_
  rintro e w2 ⟨v2, rfl, s2⟩
  have h2 := s2.ref2 k (by omega) (by omega) (by simp [b4L])
  clear h1 s1
  go_wp2_with fail
  refine h2.mono ?_
  rintro e w3 ⟨v3, rfl, s3⟩
  clear h2 s2
  go_upto_region 5 with (at_builtin; refine wpList_append_bytes rfl (.tmp 20) (.tmp 21) rfl w.heap.size _ _ rfl s3.1 _ F rfl (HF.out.below (Nat.le_refl _) s3.2.1) (by simp [b4L, b2L]; omega) s3.2.2 ?_; intro v4 w4 o4 g4)
  have s4 := s3.app o4 g4
  have h4 := s4.ref2 0 (by omega) (by omega) (by simp [b4L, b2L]; omega)
  clear o4 g4 s3
  go_wp2_with fail
  refine h4.mono ?_
  rintro e w5 ⟨v5, rfl, s5⟩
  clear h4 s4
  go_upto_region 7 with (at_builtin; refine wpList_append_bytes rfl (.tmp 25) (.tmp 26) rfl w.heap.size _ _ rfl s5.1 _ B rfl (HB.out.below (Nat.le_refl _) s5.2.1) (by simp [b4L, b2L]; omega) s5.2.2 ?_; intro v6 w6 o6 g6)
  have s6 := s5.app o6 g6
  rw [show [] ++ b4L src ++ b4L dst ++ b2L k ++ F ++ b2L 0 ++ B = psL k F B src dst from rfl] at s6
  have ht := refTotal_bytes (s6.1.bytes (by rw [psL_length]; omega))
  have hr := tot_range (psL k F B src dst) 0 s6.1.2 (by omega) (by omega)
  have HP : Hid (65535 - tot 0 (psL k F B src dst) = psum k F B src dst) := rfl
  have bw := s6.2.1
  generalize tot 0 (psL k F B src dst) = T at ht hr HP
  clear o6 g6 s5 s6
  go_wp2_with (go_at_call 42; refine ht.mono ?_; rintro e w6 ⟨rfl, rfl⟩)
  go_ret
  exact ⟨ret_int HP.out, bw⟩
end Go.Proofs.YteijbohfakokfacDoor
