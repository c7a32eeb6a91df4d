/- What the program's Print returns (package addr), for every number; the library's strconv.Itoa and strings.Join by their contracts. Condition: the library's table of powers of ten holds what its text lays. -/
import Derived.Test.YtkjjalaelehjeabDoorOwnS
import Derived.Test.YtkjjalaelehjeabDoorAddrNum
import Derived.Test.YtkjjalaelehjeabDoorShelf
import Derived.Laws.BitsLemmas
namespace Go.Proofs.YtkjjalaelehjeabDoor
open Go.RowKit
set_option linter.unusedVariables false

/-- The library's table of powers of ten. -/
def Tab (w : World) : Prop := Lib.TabIs Tryd.prog w "internal/strconv.uint64pow10" .u64 Lib.pow10Tab
theorem Tab.below {w w' : World} (h : Tab w) (hb : Below w.heap.size w w') : Tab w' := by
  unfold Tab Lib.TabIs World.var? at h ⊢
  cases hg : Tryd.prog.globalNamed "internal/strconv.uint64pow10" with
  | none => rw [hg] at h; exact h
  | some g =>
    rw [hg] at h
    simp only [Option.bind_some] at h ⊢
    have hlt : g < w.heap.size := by
      rcases Nat.lt_or_ge g w.heap.size with h1 | h1
      · exact h1
      · rw [Array.getElem?_eq_none h1] at h; simp at h
    rw [hb.block g hlt]; exact h
theorem below_grown {B : Nat} {w : World} (k : Nat) (os : Array Obj) (hB : B ≤ w.heap.size) : Below B w (Go.Sort.grow (w.drewN k) os) := by
  refine ⟨rfl, rfl, rfl, ?_, ?_⟩
  · simp [Go.Sort.grow, World.drewN]
  · intro j hj
    simp [Go.Sort.grow, World.drewN, Array.getElem?_append, Nat.lt_of_lt_of_le hj hB]
theorem digL_dec (n : Nat) : Lib.decDigits n = digL n := by
  induction n using Nat.strongRecOn with
  | _ n ih =>
    unfold Lib.decDigits
    by_cases h : n < 10
    · rw [dif_pos h, digL_lt h, UInt8.ofNat_add]; rfl
    · rw [dif_neg h, digL_ge h, ih (n / 10) (by omega), UInt8.ofNat_add]; rfl
theorem itoa_any (n : Int) (w : World) (h0 : 0 ≤ n) (h1 : n ≤ 4611686018427387904) (ht : Tab w) :
    Calls Tryd.prog 22 #[.int .i64 n] w fun e w' => e = .returned (.string (mkB (digL n.toNat))) ∧ Below w.heap.size w w' := by
  refine (Tryd.strconv_Itoa n (by omega) (by omega) w ht).mono ?_
  rintro e w' ⟨rfl, k, os, rfl⟩
  refine ⟨?_, below_grown k os (Nat.le_refl _)⟩
  unfold Lib.itoa
  rw [if_neg (by omega), digL_dec]; rfl

theorem print_bad (a : Int) (w : World) (h : isAddr a = false) :
    Calls Tryd.prog 14 #[.int .i64 a] w fun e w' => e = .returned (.tuple #[.string ⟨#[]⟩, .iface 46 (.int .i64 1)]) ∧ Below w.heap.size w w' := by
  go_enter Tryd.func14, Tryd.ntmps14
  go_wp2_with (go_at_call 16; refine (isAddr_any _ _).mono ?_; rintro e w' ⟨rfl, rfl⟩)
  exact bodyPost_ret (v := .tuple #[.string ⟨#[]⟩, .iface 46 (.int .i64 1)]) (by simp [results, Tryd.results14, go_sem]) rfl ⟨rfl, Below.refl _ _⟩

theorem itoa_and (x : Int) (w : World) (h0 : 0 ≤ x) (h1 : x ≤ 4294967295) (ht : Tab w) :
    Calls Tryd.prog 22 #[.int .i64 (bits .and .i64 x 255)] w fun e w' => e = .returned (.string (mkB (digL (x % 256).toNat))) ∧ Below w.heap.size w w' := by
  have e := bits_mask .i64 63 (by decide) (fun n h0 h1 => by rw [IntKind.wrap_i64]; omega) 8 (by decide) x h0 (by omega)
  have e2 : ((2 : Int) ^ 8 - 1) = 255 := by decide
  have e3 : ((2 : Int) ^ 8) = 256 := by decide
  rw [e2, e3] at e
  rw [e]
  exact itoa_any _ w (by omega) (by omega) ht

set_option maxHeartbeats 4000000 in
theorem print_ok (a : Int) (w : World) (h : isAddr a = true) (ht : Tab w) :
    Calls Tryd.prog 14 #[.int .i64 a] w fun e w' => e = .returned (.tuple #[.string (mkB (showL a)), .nilIface]) ∧ Below w.heap.size w w' := by
  have hA := of_isAddr h
  go_enter Tryd.func14, Tryd.ntmps14
  go_wp2_with (go_at_call 16; refine (isAddr_any _ _).mono ?_; rintro e w ⟨rfl, rfl⟩)
  have o0 : OwnS w w.heap.size (.slice none 0 0) [] := OwnS.nil _ _
  have b0 : Below w.heap.size w w := Below.refl _ _
  have t0 := ht
  refine wp_loop_rounds 5 ?_
  rw [rounds_succ]
  go_wp2_with (first
    | (go_at_call 22; refine (itoa_and (a / 16777216) _ (by omega) (by omega) t0).mono ?_; rintro e wi0 ⟨rfl, bi0⟩)
    | (at_builtin; refine wpList_append_str rfl (.tmp 14) (.tmp 20) rfl w.heap.size _ [] rfl (o0.below bi0) (mkB (digL (a / 16777216 % 256).toNat)) rfl (by simp) ?hz0 ?_; (case hz0 => have := b0.size; have := bi0.size; omega); intro v1 w1 o1 grow1))
  have z0 : w.heap.size ≤ wi0.heap.size := by have := b0.size; have := bi0.size; omega
  have b1 : Below w.heap.size w w1 := (((b0.trans (bi0.mono b0.size)).alloc z0 _).grown grow1 (by simp; omega) (fun j hj => (World.ownsRow.lt (o0.below bi0) j hj).1))
  have t1 : Tab w1 := ht.below b1
  rw [rounds_succ]
  go_wp2_with (first
    | (go_at_call 22; refine (itoa_and (a / 65536) _ (by omega) (by omega) t1).mono ?_; rintro e wi1 ⟨rfl, bi1⟩)
    | (at_builtin; refine wpList_append_str rfl (.tmp 14) (.tmp 20) rfl w.heap.size _ [mkB (digL (a / 16777216 % 256).toNat)] rfl (o1.below bi1) (mkB (digL (a / 65536 % 256).toNat)) rfl (by simp) ?hz1 ?_; (case hz1 => have := b1.size; have := bi1.size; omega); intro v2 w2 o2 grow2))
  have z1 : w.heap.size ≤ wi1.heap.size := by have := b1.size; have := bi1.size; omega
  have b2 : Below w.heap.size w w2 := (((b1.trans (bi1.mono b1.size)).alloc z1 _).grown grow2 (by simp; omega) (fun j hj => (World.ownsRow.lt (o1.below bi1) j hj).1))
  have t2 : Tab w2 := ht.below b2
  rw [rounds_succ]
  go_wp2_with (first
    | (go_at_call 22; refine (itoa_and (a / 256) _ (by omega) (by omega) t2).mono ?_; rintro e wi2 ⟨rfl, bi2⟩)
    | (at_builtin; refine wpList_append_str rfl (.tmp 14) (.tmp 20) rfl w.heap.size _ [mkB (digL (a / 16777216 % 256).toNat), mkB (digL (a / 65536 % 256).toNat)] rfl (o2.below bi2) (mkB (digL (a / 256 % 256).toNat)) rfl (by simp) ?hz2 ?_; (case hz2 => have := b2.size; have := bi2.size; omega); intro v3 w3 o3 grow3))
  have z2 : w.heap.size ≤ wi2.heap.size := by have := b2.size; have := bi2.size; omega
  have b3 : Below w.heap.size w w3 := (((b2.trans (bi2.mono b2.size)).alloc z2 _).grown grow3 (by simp; omega) (fun j hj => (World.ownsRow.lt (o2.below bi2) j hj).1))
  have t3 : Tab w3 := ht.below b3
  rw [rounds_succ]
  go_wp2_with (first
    | (go_at_call 22; refine (itoa_and (a) _ (by omega) (by omega) t3).mono ?_; rintro e wi3 ⟨rfl, bi3⟩)
    | (at_builtin; refine wpList_append_str rfl (.tmp 14) (.tmp 20) rfl w.heap.size _ [mkB (digL (a / 16777216 % 256).toNat), mkB (digL (a / 65536 % 256).toNat), mkB (digL (a / 256 % 256).toNat)] rfl (o3.below bi3) (mkB (digL (a % 256).toNat)) rfl (by simp) ?hz3 ?_; (case hz3 => have := b3.size; have := bi3.size; omega); intro v4 w4 o4 grow4))
  have z3 : w.heap.size ≤ wi3.heap.size := by have := b3.size; have := bi3.size; omega
  have b4 : Below w.heap.size w w4 := (((b3.trans (bi3.mono b3.size)).alloc z3 _).grown grow4 (by simp; omega) (fun j hj => (World.ownsRow.lt (o3.below bi3) j hj).1))
  have t4 : Tab w4 := ht.below b4
  obtain ⟨g, cap, hv, hg0, hg1, hlc, hcm⟩ := o4.shape (by simp)
  subst hv
  have hcell := fun j hj => o4.cell rfl j hj
  have hj := Tryd.strings_Join g 0 cap [mkB (digL (a / 16777216 % 256).toNat), mkB (digL (a / 65536 % 256).toNat), mkB (digL (a / 256 % 256).toNat), mkB (digL (a % 256).toNat)] ⟨#[46]⟩ w4 (by
      intro j x hx
      have hlt : j < 4 := by
        rcases Nat.lt_or_ge j 4 with h | h
        · exact h
        · rw [List.getElem?_eq_none (by simpa using h)] at hx; simp at hx
      have e := hcell j (by simpa using hlt)
      rw [Nat.zero_add, e]
      rw [List.getElem?_eq_getElem (by simpa using hlt)] at hx
      exact congrArg (fun z => some (Value.string z)) (Option.some.inj hx)) hg1 (by simp) hlc (by
      have h3 := digL_small (n := (a / 16777216 % 256).toNat) (by omega)
      have h2 := digL_small (n := (a / 65536 % 256).toNat) (by omega)
      have h1 := digL_small (n := (a / 256 % 256).toNat) (by omega)
      have h0 := digL_small (n := (a % 256).toNat) (by omega)
      simp [Lib.join, List.intercalate, List.intersperse, mkB_toList]; omega)
  have hS : (⟨(Lib.join ([mkB (digL (a / 16777216 % 256).toNat), mkB (digL (a / 65536 % 256).toNat), mkB (digL (a / 256 % 256).toNat), mkB (digL (a % 256).toNat)].map (·.data.toList)) (⟨#[46]⟩ : ByteArray).data.toList).toArray⟩ : ByteArray) = mkB (showL a) := by
    show mkB _ = mkB _
    simp [Lib.join, List.intercalate, List.intersperse, mkB_toList, showL]
  rw [hS] at hj
  have hj' : Calls Tryd.prog 23 #[.slice (some ⟨g, 0, none⟩) 4 cap, .string ⟨#[46]⟩] w4 fun e w' => e = .returned (.string (mkB (showL a))) ∧ Below w4.heap.size w4 w' := hj
  clear hj hS hcell
  rw [rounds_succ]
  go_wp2_with (go_at_call 23; refine hj'.mono ?_; rintro e w5 ⟨rfl, b5⟩)
  exact bodyPost_ret (v := .tuple #[.string (mkB (showL a)), .nilIface]) (by simp [results, Tryd.results14, go_sem]) rfl ⟨rfl, b4.trans (b5.mono b4.size)⟩
end Go.Proofs.YtkjjalaelehjeabDoor
