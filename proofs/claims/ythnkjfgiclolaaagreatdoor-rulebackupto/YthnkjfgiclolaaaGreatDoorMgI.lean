/- What the program's Print returns (package addr), for every number; the library's strconv.Itoa and strings.Join by their contracts. Condition: the library's table of powers of ten holds what its text lays. -/
import Derived.Test.YthnkjfgiclolaaaGreatDoorMgF
import Derived.Test.YthnkjfgiclolaaaGreatDoorAddrNum
import Derived.Test.YthnkjfgiclolaaaGreatDoorShelf
import Derived.Laws.BitsLemmas
import Derived.Test.YthnkjfgiclolaaaGreatDoorMgH
namespace Go.Proofs.YthnkjfgiclolaaaGreatDoor
open Go.RowKit
set_option linter.unusedVariables false

/-- The library's table of powers of ten. -/
def Tab (w : World) : Prop := Lib.TabIs Tryz.prog w "internal/strconv.uint64pow10" .u64 Lib.pow10Tab
theorem Tab.below {w w' : World} (h : Tab w) (hb : Below w.heap.size w w') : Tab w' := by
  unfold Tab Lib.TabIs World.var? at h ⊢
  cases hg : Tryz.prog.globalNamed "internal/strconv.uint64pow10" with
  | none => rw [hg] at h; exact h
  | some g =>
    rw [hg] at h
    simp only [Option.bind_some] at h ⊢
    have hlt : g < w.heap.size := by
      rcases Nat.lt_or_ge g w.heap.size with h1 | h1
      · exact h1
      · rw [Array.getElem?_eq_none h1] at h; simp at h
    rw [hb.block g hlt]; exact h
theorem below_grown {B : Nat} {w : World} (k : Nat) (os : Array Obj) (hB : B ≤ w.heap.size) : Below B w (Go.Sort.grow (w.drewN k) os) := by
  refine ⟨rfl, rfl, rfl, ?_, ?_⟩
  · simp [Go.Sort.grow, World.drewN]
  · intro j hj
    simp [Go.Sort.grow, World.drewN, Array.getElem?_append, Nat.lt_of_lt_of_le hj hB]
theorem digL_dec (n : Nat) : Lib.decDigits n = digL n := by
  induction n using Nat.strongRecOn with
  | _ n ih =>
    unfold Lib.decDigits
    by_cases h : n < 10
    · rw [dif_pos h, digL_lt h, UInt8.ofNat_add]; rfl
    · rw [dif_neg h, digL_ge h, ih (n / 10) (by omega), UInt8.ofNat_add]; rfl
theorem itoa_any (n : Int) (w : World) (h0 : 0 ≤ n) (h1 : n ≤ 4611686018427387904) (ht : Tab w) :
    Calls Tryz.prog 89 #[.int .i64 n] w fun e w' => e = .returned (.string (mkB (digL n.toNat))) ∧ Below w.heap.size w w' := by
  refine (Tryz.strconv_Itoa n (by omega) (by omega) w ht).mono ?_
  rintro e w' ⟨rfl, k, os, rfl⟩
  refine ⟨?_, below_grown k os (Nat.le_refl _)⟩
  unfold Lib.itoa
  rw [if_neg (by omega), digL_dec]; rfl

theorem print_bad (a : Int) (w : World) (h : isAddr a = false) :
    Calls Tryz.prog 88 #[.int .i64 a] w fun e w' => e = .returned (.tuple #[.string ⟨#[]⟩, .iface 45 (.int .i64 1)]) ∧ Below w.heap.size w w' := by
  go_enter Tryz.func88, Tryz.ntmps88
  go_wp2_with (go_at_call 84; refine (isAddr_any _ _).mono ?_; rintro e w' ⟨rfl, rfl⟩)
  exact bodyPost_ret (v := .tuple #[.string ⟨#[]⟩, .iface 45 (.int .i64 1)]) (by simp [results, Tryz.results88, go_sem]) rfl ⟨rfl, Below.refl _ _⟩

theorem itoa_and (x : Int) (w : World) (h0 : 0 ≤ x) (h1 : x ≤ 4294967295) (ht : Tab w) :
    Calls Tryz.prog 89 #[.int .i64 (bits .and .i64 x 255)] w fun e w' => e = .returned (.string (mkB (digL (x % 256).toNat))) ∧ Below w.heap.size w w' := by
  have e := bits_mask .i64 63 (by decide) (fun n h0 h1 => by rw [IntKind.wrap_i64]; omega) 8 (by decide) x h0 (by omega)
  have e2 : ((2 : Int) ^ 8 - 1) = 255 := by decide
  have e3 : ((2 : Int) ^ 8) = 256 := by decide
  rw [e2, e3] at e
  rw [e]
  exact itoa_any _ w (by omega) (by omega) ht

set_option maxHeartbeats 4000000 in
theorem print_ok (a : Int) (w : World) (h : isAddr a = true) (ht : Tab w) :
    Calls Tryz.prog 88 #[.int .i64 a] w fun e w' => e = .returned (.tuple #[.string (mkB (showL a)), .nilIface]) ∧ Below w.heap.size w w' := by
  have hA := of_isAddr h
  go_enter Tryz.func88, Tryz.ntmps88
  go_wp2_with (go_at_call 84; refine (isAddr_any _ _).mono ?_; rintro e w ⟨rfl, rfl⟩)
  have o0 : OwnS w w.heap.size (.slice none 0 0) [] := OwnS.nil _ _
  have b0 : Below w.heap.size w w := Below.refl _ _
  have t0 := ht
  refine wp_loop_rounds 5 ?_
  rw [rounds_succ]
  go_wp2_with (first
    | (go_at_call 89; refine (itoa_and (a / 16777216) _ (by omega) (by omega) t0).mono ?_; rintro e wi0 ⟨rfl, bi0⟩)
    | (at_builtin; refine wpList_append_str rfl (.tmp 14) (.tmp 20) rfl w.heap.size _ [] rfl (o0.below bi0) (mkB (digL (a / 16777216 % 256).toNat)) rfl (by simp) ?hz0 ?_; (case hz0 => have := b0.size; have := bi0.size; omega); intro v1 w1 o1 grow1))
  have z0 : w.heap.size ≤ wi0.heap.size := by have := b0.size; have := bi0.size; omega
  have b1 : Below w.heap.size w w1 := (((b0.trans (bi0.mono b0.size)).alloc z0 _).grown grow1 (by simp; omega) (fun j hj => (World.ownsRow.lt (o0.below bi0) j hj).1))
  have t1 : Tab w1 := ht.below b1
  rw [rounds_succ]
  go_wp2_with (first
    | (go_at_call 89; refine (itoa_and (a / 65536) _ (by omega) (by omega) t1).mono ?_; rintro e wi1 ⟨rfl, bi1⟩)
    | (at_builtin; refine wpList_append_str rfl (.tmp 14) (.tmp 20) rfl w.heap.size _ [mkB (digL (a / 16777216 % 256).toNat)] rfl (o1.below bi1) (mkB (digL (a / 65536 % 256).toNat)) rfl (by simp) ?hz1 ?_; (case hz1 => have := b1.size; have := bi1.size; omega); intro v2 w2 o2 grow2))
  have z1 : w.heap.size ≤ wi1.heap.size := by have := b1.size; have := bi1.size; omega
  have b2 : Below w.heap.size w w2 := (((b1.trans (bi1.mono b1.size)).alloc z1 _).grown grow2 (by simp; omega) (fun j hj => (World.ownsRow.lt (o1.below bi1) j hj).1))
  have t2 : Tab w2 := ht.below b2
  rw [rounds_succ]
  go_wp2_with (first
    | (go_at_call 89; refine (itoa_and (a / 256) _ (by omega) (by omega) t2).mono ?_; rintro e wi2 ⟨rfl, bi2⟩)
    | (at_builtin; refine wpList_append_str rfl (.tmp 14) (.tmp 20) rfl w.heap.size _ [mkB (digL (a / 16777216 % 256).toNat), mkB (digL (a / 65536 % 256).toNat)] rfl (o2.below bi2) (mkB (digL (a / 256 % 256).toNat)) rfl (by simp) ?hz2 ?_; (case hz2 => have := b2.size; have := bi2.size; omega); intro v3 w3 o3 grow3))
  have z2 : w.heap.size ≤ wi2.heap.size := by have := b2.size; have := bi2.size; omega
  have b3 : Below w.heap.size w w3 := (((b2.trans (bi2.mono b2.size)).alloc z2 _).grown grow3 (by simp; omega) (fun j hj => (World.ownsRow.lt (o2.below bi2) j hj).1))
  have t3 : Tab w3 := ht.below b3
  rw [rounds_succ]
  go_wp2_with (first
    | (go_at_call 89; refine (itoa_and (a) _ (by omega) (by omega) t3).mono ?_; rintro e wi3 ⟨rfl, bi3⟩)
    | (at_builtin; refine wpList_append_str rfl (.tmp 14) (.tmp 20) rfl w.heap.size _ [mkB (digL (a / 16777216 % 256).toNat), mkB (digL (a / 65536 % 256).toNat), mkB (digL (a / 256 % 256).toNat)] rfl (o3.below bi3) (mkB (digL (a % 256).toNat)) rfl (by simp) ?hz3 ?_; (case hz3 => have := b3.size; have := bi3.size; omega); intro v4 w4 o4 grow4))
  have z3 : w.heap.size ≤ wi3.heap.size := by have := b3.size; have := bi3.size; omega
  have b4 : Below w.heap.size w w4 := (((b3.trans (bi3.mono b3.size)).alloc z3 _).grown grow4 (by simp; omega) (fun j hj => (World.ownsRow.lt (o3.below bi3) j hj).1))
  have t4 : Tab w4 := ht.below b4
  obtain ⟨g, cap, hv, hg0, hg1, hlc, hcm⟩ := o4.shape (by simp)
  subst hv
  have hcell := fun j hj => o4.cell rfl j hj
  have hj := Tryz.strings_Join g 0 cap [mkB (digL (a / 16777216 % 256).toNat), mkB (digL (a / 65536 % 256).toNat), mkB (digL (a / 256 % 256).toNat), mkB (digL (a % 256).toNat)] ⟨#[46]⟩ w4 (by
      intro j x hx
      have hlt : j < 4 := by
        rcases Nat.lt_or_ge j 4 with h | h
        · exact h
        · rw [List.getElem?_eq_none (by simpa using h)] at hx; simp at hx
      have e := hcell j (by simpa using hlt)
      rw [Nat.zero_add, e]
      rw [List.getElem?_eq_getElem (by simpa using hlt)] at hx
      exact congrArg (fun z => some (Value.string z)) (Option.some.inj hx)) hg1 (by simp) hlc (by
      have h3 := digL_small (n := (a / 16777216 % 256).toNat) (by omega)
      have h2 := digL_small (n := (a / 65536 % 256).toNat) (by omega)
      have h1 := digL_small (n := (a / 256 % 256).toNat) (by omega)
      have h0 := digL_small (n := (a % 256).toNat) (by omega)
      simp [Lib.join, List.intercalate, List.intersperse, mkB_toList]; omega)
  have hS : (⟨(Lib.join ([mkB (digL (a / 16777216 % 256).toNat), mkB (digL (a / 65536 % 256).toNat), mkB (digL (a / 256 % 256).toNat), mkB (digL (a % 256).toNat)].map (·.data.toList)) (⟨#[46]⟩ : ByteArray).data.toList).toArray⟩ : ByteArray) = mkB (showL a) := by
    show mkB _ = mkB _
    simp [Lib.join, List.intercalate, List.intersperse, mkB_toList, showL]
  rw [hS] at hj
  have hj' : Calls Tryz.prog 76 #[.slice (some ⟨g, 0, none⟩) 4 cap, .string ⟨#[46]⟩] w4 fun e w' => e = .returned (.string (mkB (showL a))) ∧ Below w4.heap.size w4 w' := hj
  clear hj hS hcell
  rw [rounds_succ]
  go_wp2_with (go_at_call 76; refine hj'.mono ?_; rintro e w5 ⟨rfl, b5⟩)
  exact bodyPost_ret (v := .tuple #[.string (mkB (showL a)), .nilIface]) (by simp [results, Tryz.results88, go_sem]) rfl ⟨rfl, b4.trans (b5.mono b4.size)⟩
end Go.Proofs.YthnkjfgiclolaaaGreatDoor

namespace Go.Proofs.YthnkjfgiclolaaaGreatDoor
open Go.RowKit
set_option linter.unusedVariables false

theorem splitC_none {c : UInt8} : ∀ {p : List UInt8}, (∀ x ∈ p, x ≠ c) → splitC c p = (p, [], false)
  | [], _ => rfl
  | x :: r, h => by
      unfold splitC
      rw [if_neg (h x (by simp)), splitC_none (fun y hy => h y (by simp [hy]))]
theorem splitC_at {c : UInt8} {r : List UInt8} : ∀ {p : List UInt8}, (∀ x ∈ p, x ≠ c) → splitC c (p ++ c :: r) = (p, r, true)
  | [], _ => by simp [splitC]
  | x :: t, h => by
      rw [List.cons_append]
      unfold splitC
      rw [if_neg (h x (by simp)), splitC_at (fun y hy => h y (by simp [hy]))]
theorem dig_all : ∀ n : Fin 256, (wholeL (digL n.val) 3 = (n.val : Int) ∧ (digL n.val).all (fun c => 48 ≤ c && c ≤ 57) = true) := by decide +kernel
theorem dig_whole {n : Nat} (h : n ≤ 255) : wholeL (digL n) 3 = (n : Int) := (dig_all ⟨n, by omega⟩).1
theorem dig_ne {n : Nat} (h : n ≤ 255) {c : UInt8} (hc : c < 48) : ∀ x ∈ digL n, x ≠ c := by
  intro x hx e
  have := List.all_eq_true.1 (dig_all ⟨n, by omega⟩).2 x hx
  subst e
  simp at this
  exact absurd this.1 (UInt8.not_le.2 hc)
theorem dig_num {n : Nat} (h : n ≤ 255) : numOK (wholeL (digL n) 3) 255 = true := by
  rw [dig_whole h]; unfold numOK; simp; omega
theorem parse_show {a : Int} (h0 : 0 ≤ a) (h1 : a ≤ 4294967295) : parseL 4 0 (showL a) = a := by
  have e : showL a = digL (a / 16777216 % 256).toNat ++ 46 :: (digL (a / 65536 % 256).toNat ++ 46 :: (digL (a / 256 % 256).toNat ++ 46 :: digL (a % 256).toNat)) := by simp [showL]
  have r3 : (a / 16777216 % 256).toNat ≤ 255 := by omega
  have r2 : (a / 65536 % 256).toNat ≤ 255 := by omega
  have r1 : (a / 256 % 256).toNat ≤ 255 := by omega
  have r0 : (a % 256).toNat ≤ 255 := by omega
  rw [e, parseL, splitC_at (dig_ne r3 (by decide)), if_pos ⟨dig_num r3, rfl⟩]
  rw [parseL, splitC_at (dig_ne r2 (by decide)), if_pos ⟨dig_num r2, rfl⟩]
  rw [parseL, splitC_at (dig_ne r1 (by decide)), if_pos ⟨dig_num r1, rfl⟩]
  rw [parseL, splitC_none (dig_ne r0 (by decide)), if_pos ⟨dig_num r0, rfl⟩, parseL]
  rw [dig_whole r3, dig_whole r2, dig_whole r1, dig_whole r0]
  omega
theorem show_ne {a : Int} {c : UInt8} (hc : c < 48) (hd : c ≠ 46) : ∀ x ∈ showL a, x ≠ c := by
  intro x hx
  simp only [showL, List.mem_append, List.mem_singleton] at hx
  rcases hx with (((((h | h) | h) | h) | h) | h) | h
  · exact dig_ne (by omega) hc x h
  · rw [h]; exact fun e => hd e.symm
  · exact dig_ne (by omega) hc x h
  · rw [h]; exact fun e => hd e.symm
  · exact dig_ne (by omega) hc x h
  · rw [h]; exact fun e => hd e.symm
  · exact dig_ne (by omega) hc x h
theorem show_any_ne {a : Int} : ¬ showL a = [97, 110, 121] := by
  intro e
  have : (46 : UInt8) ∈ showL a := by simp [showL]
  rw [e] at this
  revert this; decide
theorem read_show {a : Int} (h0 : 0 ≤ a) (h1 : a ≤ 4294967295) : readP (showL a) = (a, 32, true) := by
  unfold readP
  rw [if_neg show_any_ne, splitC_none (show_ne (c := 47) (by decide) (by decide)), parse_show h0 h1, if_neg (by omega), if_pos rfl]
theorem showL_short (a : Int) : (showL a).length ≤ 2000 := by
  have h1 := digL_small (n := (a / 16777216 % 256).toNat) (by omega)
  have h2 := digL_small (n := (a / 65536 % 256).toNat) (by omega)
  have h3 := digL_small (n := (a / 256 % 256).toNat) (by omega)
  have h4 := digL_small (n := (a % 256).toNat) (by omega)
  simp [showL]; omega
end Go.Proofs.YthnkjfgiclolaaaGreatDoor

namespace Go.Proofs.YthnkjfgiclolaaaGreatDoor
open Go.RowKit
set_option linter.unusedVariables false


theorem printPrefix_bad (a l : Int) (w : World) (h : prefE a l ≠ 0) :
    Calls Tryz.prog 47 #[.agg #[.int .i64 a, .int .i64 l]] w fun e w' => e = .returned (.tuple #[.string ⟨#[]⟩, .iface 45 (.int .i64 (prefE a l))]) ∧ Below w.heap.size w w' := by
  have hck := fun w => check_bad a l w h
  clear h
  go_enter Tryz.func47, Tryz.ntmps47
  go_wp2_with (go_at_call 36; refine (hck _).mono ?_; rintro e w1 ⟨rfl, hb1⟩; obtain ⟨c0, c1, b1, z1⟩ := boxed hb1)
  exact bodyPost_ret (v := .tuple #[.string ⟨#[]⟩, .iface 45 (.int .i64 (prefE a l))]) (by simp [results, Tryz.results47, go_sem]) rfl ⟨rfl, b1⟩

set_option maxHeartbeats 2000000 in
theorem printPrefix_ok (a l : Int) (w : World) (h : prefE a l = 0) (ht : Tab w) :
    Calls Tryz.prog 47 #[.agg #[.int .i64 a, .int .i64 l]] w fun e w' => e = .returned (.tuple #[.string (mkB (showPrefL a l)), .nilIface]) ∧ Below w.heap.size w w' := by
  have hck := fun w => check_ok a l w h
  obtain ⟨⟨h0, h1⟩, ⟨h2, h3⟩, _⟩ := prefE_zero h
  have hA := isAddr_yes h0 h1
  rcases hl : (l == 0) with _ | _
  · have HS : Hid (mkB (showL a) ++ mkB [47] ++ mkB (digL l.toNat) = mkB (showPrefL a l)) := by
      show _ = mkB (showPrefL a l)
      unfold showPrefL
      rw [if_neg (by simpa using hl)]
      simp only [mkB_append]
    have z1 : (mkB (showL a)).size ≤ 2000 := by rw [mkB_size]; exact showL_short a
    have z2 : (mkB (digL l.toNat)).size ≤ 2000 := by rw [mkB_size]; have := digL_small (n := l.toNat) (by omega); omega
    have hpr := fun w ht => print_ok a w hA ht
    have hit := fun w ht => itoa_any l w h2 (by omega) ht
    clear h
    go_enter Tryz.func47, Tryz.ntmps47
    go_wp2_with (first
      | (go_at_call 36; refine (hck _).mono ?_; rintro e w1 ⟨rfl, hb1⟩; obtain ⟨c0, c1, b1, zz1⟩ := boxed hb1)
      | (go_at_call 88; refine (hpr _ (ht.below b1)).mono ?_; rintro e w2 ⟨rfl, hb2⟩; have d0 := (hb2.cell (p := ⟨w.heap.size, 0, none⟩) zz1).trans c0; have d1 := (hb2.cell (p := ⟨w.heap.size, 1, none⟩) zz1).trans c1; have b2 := b1.trans (hb2.mono b1.size))
      | (go_at_call 89; refine (hit _ (ht.below b2)).mono ?_; rintro e w3 ⟨rfl, hb3⟩))
    exact bodyPost_ret (v := .tuple #[.string (mkB (showL a) ++ mkB [47] ++ mkB (digL l.toNat)), .nilIface]) (by simp [results, Tryz.results47, go_sem, mkB]) rfl ⟨by rw [HS.out], b2.trans (hb3.mono b2.size)⟩
  · have HS : Hid (mkB [97, 110, 121] = mkB (showPrefL a l)) := by
      show _ = mkB (showPrefL a l)
      unfold showPrefL
      rw [if_pos (by simpa using hl)]
    clear h
    go_enter Tryz.func47, Tryz.ntmps47
    go_wp2_with (go_at_call 36; refine (hck _).mono ?_; rintro e w1 ⟨rfl, hb1⟩; obtain ⟨c0, c1, b1, z1⟩ := boxed hb1)
    exact bodyPost_ret (v := .tuple #[.string (mkB [97, 110, 121]), .nilIface]) (by simp [results, Tryz.results47, go_sem, mkB]) rfl ⟨by rw [← HS.out], b1⟩
end Go.Proofs.YthnkjfgiclolaaaGreatDoor
