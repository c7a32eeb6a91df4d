/- What Check, fresh and measure of package wire return, for every input: Check's error, a copy of the bytes in a row of its own, how many bytes the packet has that bytes begin with. -/
import Derived.Test.YtkpbcdnkbokekaaDoorWirePut
namespace Go.Proofs.YtkpbcdnkbokekaaDoor
open Go.RowKit
set_option linter.unusedVariables false

/-- A packet as a value. -/
def pkV (p : Pk) (bv : Value) : Value := .agg #[.int .i64 p.kind, .int .i64 p.ttl, .int .i64 p.ident, .int .i64 p.src, .int .i64 p.dst, .int .i64 p.pos, .bool p.more, bv]
theorem len_body {w : World} {v : Value} {zs : List Int} (h : Bytes w v zs) : ∃ a c, v = .slice a zs.length c := by
  rcases h with ⟨rfl, a', c', h, _⟩ | ⟨b, off, len, cap, h, _, _, _, h5, _⟩
  · exact ⟨_, _, h⟩
  · exact ⟨_, _, by rw [h5]; exact h⟩

set_option maxHeartbeats 4000000 in
theorem check_raw (k t i s d o : Int) (m : Bool) (a : Option Addr) (l c : Nat) (w : World) (hl : l ≤ 9223372036854775807) :
    Calls Tryd.prog 21 #[.agg #[.int .i64 k, .int .i64 t, .int .i64 i, .int .i64 s, .int .i64 d, .int .i64 o, .bool m, .slice a l c]] w fun e w' =>
      e = .returned (if (upB k 15 && upB t 255 && upB i 65535 && upB s 4294967295 && upB d 4294967295 && upB o 32767) = false then .iface 52 (.int .i64 1) else if 4000 < l then .iface 52 (.int .i64 4) else .nilIface) ∧ Below w.heap.size w w' := by
  rcases h1 : upB k 15 with _ | _
  · rw [show (false && upB t 255 && upB i 65535 && upB s 4294967295 && upB d 4294967295 && upB o 32767) = false by simp, if_pos rfl]
    go_enter Tryd.func21, Tryd.ntmps21
    go_wp2_with (go_at_call 30; refine (upTo_any _ _ _).mono ?_; rintro e w' ⟨rfl, rfl⟩)
    go_ret
    exact ⟨rfl, (Below.refl _ _).alloc (Nat.le_refl _) _⟩
  rcases h2 : upB t 255 with _ | _
  · rw [show (true && false && upB i 65535 && upB s 4294967295 && upB d 4294967295 && upB o 32767) = false by simp, if_pos rfl]
    go_enter Tryd.func21, Tryd.ntmps21
    go_wp2_with (go_at_call 30; refine (upTo_any _ _ _).mono ?_; rintro e w' ⟨rfl, rfl⟩)
    go_ret
    exact ⟨rfl, (Below.refl _ _).alloc (Nat.le_refl _) _⟩
  rcases h3 : upB i 65535 with _ | _
  · rw [show (true && true && false && upB s 4294967295 && upB d 4294967295 && upB o 32767) = false by simp, if_pos rfl]
    go_enter Tryd.func21, Tryd.ntmps21
    go_wp2_with (go_at_call 30; refine (upTo_any _ _ _).mono ?_; rintro e w' ⟨rfl, rfl⟩)
    go_ret
    exact ⟨rfl, (Below.refl _ _).alloc (Nat.le_refl _) _⟩
  rcases h4 : upB s 4294967295 with _ | _
  · rw [show (true && true && true && false && upB d 4294967295 && upB o 32767) = false by simp, if_pos rfl]
    go_enter Tryd.func21, Tryd.ntmps21
    go_wp2_with (go_at_call 30; refine (upTo_any _ _ _).mono ?_; rintro e w' ⟨rfl, rfl⟩)
    go_ret
    exact ⟨rfl, (Below.refl _ _).alloc (Nat.le_refl _) _⟩
  rcases h5 : upB d 4294967295 with _ | _
  · rw [show (true && true && true && true && false && upB o 32767) = false by simp, if_pos rfl]
    go_enter Tryd.func21, Tryd.ntmps21
    go_wp2_with (go_at_call 30; refine (upTo_any _ _ _).mono ?_; rintro e w' ⟨rfl, rfl⟩)
    go_ret
    exact ⟨rfl, (Below.refl _ _).alloc (Nat.le_refl _) _⟩
  rcases h6 : upB o 32767 with _ | _
  · rw [show (true && true && true && true && true && false) = false by simp, if_pos rfl]
    go_enter Tryd.func21, Tryd.ntmps21
    go_wp2_with (go_at_call 30; refine (upTo_any _ _ _).mono ?_; rintro e w' ⟨rfl, rfl⟩)
    go_ret
    exact ⟨rfl, (Below.refl _ _).alloc (Nat.le_refl _) _⟩
  rw [show (true && true && true && true && true && true) = true by simp, if_neg (by simp)]
  by_cases h7 : 4000 < l
  · rw [if_pos h7]
    go_enter Tryd.func21, Tryd.ntmps21
    go_wp2_with (go_at_call 30; refine (upTo_any _ _ _).mono ?_; rintro e w' ⟨rfl, rfl⟩)
    go_ret
    exact ⟨rfl, (Below.refl _ _).alloc (Nat.le_refl _) _⟩
  · rw [if_neg h7]
    go_enter Tryd.func21, Tryd.ntmps21
    go_wp2_with (go_at_call 30; refine (upTo_any _ _ _).mono ?_; rintro e w' ⟨rfl, rfl⟩)
    go_ret
    exact ⟨rfl, (Below.refl _ _).alloc (Nat.le_refl _) _⟩
/-- An error: nil, or an Errno. -/
def errV (e : Int) : Value := if e = 0 then .nilIface else .iface 52 (.int .i64 e)
theorem check_any (p : Pk) (bv : Value) (w : World) (hb : Bytes w bv p.body) :
    Calls Tryd.prog 21 #[pkV p bv] w fun e w' => e = .returned (errV (pkErr p)) ∧ Below w.heap.size w w' := by
  have hl : p.body.length ≤ 9223372036854775807 := by
    rcases hb with ⟨h, _⟩ | ⟨b, off, len, cap, _, h1, h2, h3, h4, _⟩
    · rw [h]; simp
    · rw [h4]; omega
  obtain ⟨a, c, rfl⟩ := len_body hb
  refine (check_raw p.kind p.ttl p.ident p.src p.dst p.pos p.more a p.body.length c w hl).mono ?_
  rintro e w' ⟨rfl, hw⟩
  refine ⟨?_, hw⟩
  unfold errV pkErr pkIn
  congr 1
  by_cases h : (upB p.kind 15 && upB p.ttl 255 && upB p.ident 65535 && upB p.src 4294967295 && upB p.dst 4294967295 && upB p.pos 32767) = false
  · rw [if_pos h, if_pos h, if_neg (by decide)]
  · rw [if_neg h, if_neg h]
    by_cases h2 : 4000 < p.body.length
    · rw [if_pos h2, if_pos h2, if_neg (by decide)]
    · rw [if_neg h2, if_neg h2, if_pos rfl]
end Go.Proofs.YtkpbcdnkbokekaaDoor
