/- What Read of package sync returns, for any bytes: the note that they begin with, how many they are, or what is wrong. -/
import Derived.Test.YtbncegjnjlokmaaDoorSynPar
import Derived.Test.YtbncegjnjlokmaaDoorSynEnc
import Derived.Test.YtbncegjnjlokmaaDoorSynEq
import Derived.Test.YtbncegjnjlokmaaDoorSynLd
namespace Go.Proofs.YtbncegjnjlokmaaDoor
open Go.RowKit
set_option linter.unusedVariables false

theorem view_take {w : World} {b off len cap : Nat} {zs : List Int} (hr : Row w b off zs) (hz : zs.length = len) (hl : len ≤ cap) (hm : cap ≤ maxLen) (h62 : len < 2 ^ 62) (k : Nat) (hk : k ≤ len) :
    Bytes w (.slice (some ⟨b, off, none⟩) k cap) (zs.take k) := by
  have hp := hr.part 0 k (by omega)
  rw [Nat.add_zero, List.drop_zero] at hp
  exact .inr ⟨b, off, k, cap, rfl, by omega, hm, by omega, by simp; omega, hp⟩
set_option maxRecDepth 100000 in
set_option maxHeartbeats 16000000 in
theorem nread_b1 (b off len cap : Nat) (zs : List Int) (w : World) (hl : len ≤ cap) (hm : cap ≤ maxLen) (h62 : len < 2 ^ 62) (hlen : zs.length = len) (hrow : Row w b off zs) (hz0 : 0 < zs.length) (hL : Lives w) (hNO : NoteOfSays) (l : List Int) (u : Nat) (N : Nt) (hp : parL zs = (0, l, u)) (hN : noteL l = N) (he : ¬ ntE N = 0) :
    Calls Tryd.prog 12 #[.slice (some ⟨b, off, none⟩) len cap] w fun e w' => e = .returned (.tuple #[ntV zeroN, .int .i64 0, .iface 70 (.int .i64 2)]) ∧ Below w.heap.size w w' := by
  have n1 := NtAt.zero w
  have b1 : Below w.heap.size w (w.alloc (.cells #[.int .i64 0, .int .i64 0, .int .i64 0, .int .i64 0, .int .i64 0, .int .i64 0, .int .i64 0, .int .i64 0, .int .i64 0, .int .i64 0, .int .i64 0, .int .i64 0, .int .i64 0, .int .i64 0, .bool false, .bool false, .int .i64 0] 29)) := (Below.refl _ _).alloc (Nat.le_refl _) _
  obtain ⟨W1, hW1⟩ : ∃ W1, w.alloc (.cells #[.int .i64 0, .int .i64 0, .int .i64 0, .int .i64 0, .int .i64 0, .int .i64 0, .int .i64 0, .int .i64 0, .int .i64 0, .int .i64 0, .int .i64 0, .int .i64 0, .int .i64 0, .int .i64 0, .bool false, .bool false, .int .i64 0] 29) = W1 := ⟨_, rfl⟩
  rw [hW1] at n1 b1
  have cP := parse_any _ zs W1 (Bytes.below (.inr ⟨b, off, len, cap, rfl, hl, hm, h62, hlen, hrow⟩) (Nat.le_refl _) b1)
  have hpl := par_len zs
  have hpu := par_used zs
  rw [hp] at cP hpl hpu
  simp only [errV_0] at cP hpl hpu
  have hb := hrow.lt hz0
  rw [hlen] at hpu
  have cV : Hid (∀ W, Below w.heap.size w W → Bytes W (.slice (some ⟨b, off, none⟩) u cap) (zs.take u)) := fun W hW => view_take (hrow.below hb hW) hlen hl hm h62 u hpu
  have HLv : Hid (Lives w) := hL
  have HNO : Hid NoteOfSays := hNO
  have hul : (u : Int) ≤ (cap : Int) := by omega
  have hu0 : (0 : Int) ≤ (u : Int) := by omega
  have hg := Tryd.ntGuard
  clear hNO hL hrow hz0 hb hlen hp
  go_enter Tryd.func12, Tryd.ntmps12
  go_upto_region 1 with fail
  try rw [hW1]
  clear hW1
  go_upto_region 4 with (go_at_call 32; refine cP.mono ?_; rintro e w2 ⟨lv, rfl, own2, b2⟩)
  have n2 := n1.below n1.lt b2
  have b2' := b1.trans (b2.mono b1.size)
  have cO := HNO.out lv l _ w2 own2 hpl
  rw [hN] at cO
  unfold ntV at cO
  clear cP n1 b1 b2 own2 hpl hN HNO
  go_upto_region 5 with (first | (go_at_call 33; refine cO.mono ?_; rintro e w3 ⟨rfl, b3⟩; have n3 := n2.below n2.lt b3) | (refine wpList_store_nt rfl rfl (.tmp 2) (.tmp 19) rfl w.heap.size _ N rfl rfl n3 ?_; intro W5 n5 o5))
  have b3' := b2'.trans (b3.mono b2'.size)
  have b5 := o5.below (Nat.le_refl _) b3'
  have cE := encode_any N W5 (HLv.out.below b5)
  unfold ntV at cE
  clear cO n2 n3 b2' b3 b3' o5 HLv
  rw [if_neg he, errV_ne he] at cE
  generalize ntE N = z at cE
  clear he cV
  go_upto_region 6 with (first | (refine wpList_load_nt rfl (.tmp 2) rfl _ _ rfl n5 ?_) | (go_at_call 9; refine cE.mono ?_; rintro e w6 ⟨v6, rfl, own6, b6⟩))
  have n6 := n5.below n5.lt b6
  have b6' := b5.trans (b6.mono b5.size)
  clear cE n5 b5 b6 own6
  go_wp2_with (first | (refine wpList_store_nt rfl rfl (.tmp 2) (.tmp 35) rfl w.heap.size _ zeroN rfl rfl n6 ?_; intro W7 n7 o7))
  have b7 := o7.below (Nat.le_refl _) b6'
  exact bodyPost_ret (res_nt3 rfl _ w.heap.size _ rfl W7 n7) rfl ⟨rfl, b7⟩
set_option maxRecDepth 100000 in
set_option maxHeartbeats 16000000 in
theorem nread_b2 (b off len cap : Nat) (zs : List Int) (w : World) (hl : len ≤ cap) (hm : cap ≤ maxLen) (h62 : len < 2 ^ 62) (hlen : zs.length = len) (hrow : Row w b off zs) (hz0 : 0 < zs.length) (hL : Lives w) (hNO : NoteOfSays) (l : List Int) (u : Nat) (N : Nt) (hp : parL zs = (0, l, u)) (hN : noteL l = N) (he : ntE N = 0) (h2 : ¬ encN N = zs.take u) :
    Calls Tryd.prog 12 #[.slice (some ⟨b, off, none⟩) len cap] w fun e w' => e = .returned (.tuple #[ntV zeroN, .int .i64 0, .iface 70 (.int .i64 2)]) ∧ Below w.heap.size w w' := by
  have n1 := NtAt.zero w
  have b1 : Below w.heap.size w (w.alloc (.cells #[.int .i64 0, .int .i64 0, .int .i64 0, .int .i64 0, .int .i64 0, .int .i64 0, .int .i64 0, .int .i64 0, .int .i64 0, .int .i64 0, .int .i64 0, .int .i64 0, .int .i64 0, .int .i64 0, .bool false, .bool false, .int .i64 0] 29)) := (Below.refl _ _).alloc (Nat.le_refl _) _
  obtain ⟨W1, hW1⟩ : ∃ W1, w.alloc (.cells #[.int .i64 0, .int .i64 0, .int .i64 0, .int .i64 0, .int .i64 0, .int .i64 0, .int .i64 0, .int .i64 0, .int .i64 0, .int .i64 0, .int .i64 0, .int .i64 0, .int .i64 0, .int .i64 0, .bool false, .bool false, .int .i64 0] 29) = W1 := ⟨_, rfl⟩
  rw [hW1] at n1 b1
  have cP := parse_any _ zs W1 (Bytes.below (.inr ⟨b, off, len, cap, rfl, hl, hm, h62, hlen, hrow⟩) (Nat.le_refl _) b1)
  have hpl := par_len zs
  have hpu := par_used zs
  rw [hp] at cP hpl hpu
  simp only [errV_0] at cP hpl hpu
  have hb := hrow.lt hz0
  rw [hlen] at hpu
  have cV : Hid (∀ W, Below w.heap.size w W → Bytes W (.slice (some ⟨b, off, none⟩) u cap) (zs.take u)) := fun W hW => view_take (hrow.below hb hW) hlen hl hm h62 u hpu
  have HLv : Hid (Lives w) := hL
  have HNO : Hid NoteOfSays := hNO
  have hul : (u : Int) ≤ (cap : Int) := by omega
  have hu0 : (0 : Int) ≤ (u : Int) := by omega
  have hg := Tryd.ntGuard
  clear hNO hL hrow hz0 hb hlen hp
  go_enter Tryd.func12, Tryd.ntmps12
  go_upto_region 1 with fail
  try rw [hW1]
  clear hW1
  go_upto_region 4 with (go_at_call 32; refine cP.mono ?_; rintro e w2 ⟨lv, rfl, own2, b2⟩)
  have n2 := n1.below n1.lt b2
  have b2' := b1.trans (b2.mono b1.size)
  have cO := HNO.out lv l _ w2 own2 hpl
  rw [hN] at cO
  unfold ntV at cO
  clear cP n1 b1 b2 own2 hpl hN HNO
  go_upto_region 5 with (first | (go_at_call 33; refine cO.mono ?_; rintro e w3 ⟨rfl, b3⟩; have n3 := n2.below n2.lt b3) | (refine wpList_store_nt rfl rfl (.tmp 2) (.tmp 19) rfl w.heap.size _ N rfl rfl n3 ?_; intro W5 n5 o5))
  have b3' := b2'.trans (b3.mono b2'.size)
  have b5 := o5.below (Nat.le_refl _) b3'
  have cE := encode_any N W5 (HLv.out.below b5)
  unfold ntV at cE
  clear cO n2 n3 b2' b3 b3' o5 HLv
  rw [he, if_pos rfl, errV_0] at cE
  have hE160 := enc_len N
  clear he
  go_upto_region 6 with (first | (refine wpList_load_nt rfl (.tmp 2) rfl _ _ rfl n5 ?_) | (go_at_call 9; refine cE.mono ?_; rintro e w6 ⟨v6, rfl, own6, b6⟩))
  have n6 := n5.below n5.lt b6
  have b6' := b5.trans (b6.mono b5.size)
  have cB := eqB_any v6 _ _ _ w6 (own6.bytes (by omega)) (cV.out w6 b6')
  clear cE n5 b5 b6 own6 cV hE160
  rw [decide_eq_false h2] at cB
  clear h2
  go_wp2_with (first | (refine wpList_store_nt rfl rfl (.tmp 2) (.tmp 35) rfl w.heap.size _ zeroN rfl rfl n6 ?_; intro W7 n7 o7) | (refine wpList_load_nt rfl (.tmp 2) rfl _ _ rfl n6 ?_) | (go_at_call 34; refine cB.mono ?_; rintro e w8 ⟨rfl, rfl⟩))
  have b7 := o7.below (Nat.le_refl _) b6'
  exact bodyPost_ret (res_nt3 rfl _ w.heap.size _ rfl W7 n7) rfl ⟨rfl, b7⟩
set_option maxRecDepth 100000 in
set_option maxHeartbeats 16000000 in
theorem nread_ok (b off len cap : Nat) (zs : List Int) (w : World) (hl : len ≤ cap) (hm : cap ≤ maxLen) (h62 : len < 2 ^ 62) (hlen : zs.length = len) (hrow : Row w b off zs) (hz0 : 0 < zs.length) (hL : Lives w) (hNO : NoteOfSays) (l : List Int) (u : Nat) (N : Nt) (hp : parL zs = (0, l, u)) (hN : noteL l = N) (he : ntE N = 0) (h2 : encN N = zs.take u) :
    Calls Tryd.prog 12 #[.slice (some ⟨b, off, none⟩) len cap] w fun e w' => e = .returned (.tuple #[ntV N, .int .i64 (u : Int), .nilIface]) ∧ Below w.heap.size w w' := by
  have n1 := NtAt.zero w
  have b1 : Below w.heap.size w (w.alloc (.cells #[.int .i64 0, .int .i64 0, .int .i64 0, .int .i64 0, .int .i64 0, .int .i64 0, .int .i64 0, .int .i64 0, .int .i64 0, .int .i64 0, .int .i64 0, .int .i64 0, .int .i64 0, .int .i64 0, .bool false, .bool false, .int .i64 0] 29)) := (Below.refl _ _).alloc (Nat.le_refl _) _
  obtain ⟨W1, hW1⟩ : ∃ W1, w.alloc (.cells #[.int .i64 0, .int .i64 0, .int .i64 0, .int .i64 0, .int .i64 0, .int .i64 0, .int .i64 0, .int .i64 0, .int .i64 0, .int .i64 0, .int .i64 0, .int .i64 0, .int .i64 0, .int .i64 0, .bool false, .bool false, .int .i64 0] 29) = W1 := ⟨_, rfl⟩
  rw [hW1] at n1 b1
  have cP := parse_any _ zs W1 (Bytes.below (.inr ⟨b, off, len, cap, rfl, hl, hm, h62, hlen, hrow⟩) (Nat.le_refl _) b1)
  have hpl := par_len zs
  have hpu := par_used zs
  rw [hp] at cP hpl hpu
  simp only [errV_0] at cP hpl hpu
  have hb := hrow.lt hz0
  rw [hlen] at hpu
  have cV : Hid (∀ W, Below w.heap.size w W → Bytes W (.slice (some ⟨b, off, none⟩) u cap) (zs.take u)) := fun W hW => view_take (hrow.below hb hW) hlen hl hm h62 u hpu
  have HLv : Hid (Lives w) := hL
  have HNO : Hid NoteOfSays := hNO
  have hul : (u : Int) ≤ (cap : Int) := by omega
  have hu0 : (0 : Int) ≤ (u : Int) := by omega
  have hg := Tryd.ntGuard
  clear hNO hL hrow hz0 hb hlen hp
  go_enter Tryd.func12, Tryd.ntmps12
  go_upto_region 1 with fail
  try rw [hW1]
  clear hW1
  go_upto_region 4 with (go_at_call 32; refine cP.mono ?_; rintro e w2 ⟨lv, rfl, own2, b2⟩)
  have n2 := n1.below n1.lt b2
  have b2' := b1.trans (b2.mono b1.size)
  have cO := HNO.out lv l _ w2 own2 hpl
  rw [hN] at cO
  unfold ntV at cO
  clear cP n1 b1 b2 own2 hpl hN HNO
  go_upto_region 5 with (first | (go_at_call 33; refine cO.mono ?_; rintro e w3 ⟨rfl, b3⟩; have n3 := n2.below n2.lt b3) | (refine wpList_store_nt rfl rfl (.tmp 2) (.tmp 19) rfl w.heap.size _ N rfl rfl n3 ?_; intro W5 n5 o5))
  have b3' := b2'.trans (b3.mono b2'.size)
  have b5 := o5.below (Nat.le_refl _) b3'
  have cE := encode_any N W5 (HLv.out.below b5)
  unfold ntV at cE
  clear cO n2 n3 b2' b3 b3' o5 HLv
  rw [he, if_pos rfl, errV_0] at cE
  have hE160 := enc_len N
  clear he
  go_upto_region 6 with (first | (refine wpList_load_nt rfl (.tmp 2) rfl _ _ rfl n5 ?_) | (go_at_call 9; refine cE.mono ?_; rintro e w6 ⟨v6, rfl, own6, b6⟩))
  have n6 := n5.below n5.lt b6
  have b6' := b5.trans (b6.mono b5.size)
  have cB := eqB_any v6 _ _ _ w6 (own6.bytes (by omega)) (cV.out w6 b6')
  clear cE n5 b5 b6 own6 cV hE160
  rw [decide_eq_true h2] at cB
  clear h2
  go_wp2_with (first | (refine wpList_store_nt rfl rfl (.tmp 2) (.tmp 37) rfl w.heap.size _ N rfl rfl n6 ?_; intro W7 n7 o7) | (refine wpList_load_nt rfl (.tmp 2) rfl _ _ rfl n6 ?_) | (go_at_call 34; refine cB.mono ?_; rintro e w8 ⟨rfl, rfl⟩))
  have b7 := o7.below (Nat.le_refl _) b6'
  exact bodyPost_ret (res_nt3 rfl _ w.heap.size _ rfl W7 n7) rfl ⟨rfl, b7⟩
set_option maxRecDepth 100000 in
set_option maxHeartbeats 16000000 in
theorem nread_no (v : Value) (zs : List Int) (w : World) (h : Bytes w v zs) (hz : ¬ (parL zs).1 = 0) :
    Calls Tryd.prog 12 #[v] w fun e w' => e = .returned (.tuple #[ntV zeroN, .int .i64 0, errV (parL zs).1]) ∧ Below w.heap.size w w' := by
  have n1 := NtAt.zero w
  have b1 : Below w.heap.size w (w.alloc (.cells #[.int .i64 0, .int .i64 0, .int .i64 0, .int .i64 0, .int .i64 0, .int .i64 0, .int .i64 0, .int .i64 0, .int .i64 0, .int .i64 0, .int .i64 0, .int .i64 0, .int .i64 0, .int .i64 0, .bool false, .bool false, .int .i64 0] 29)) := (Below.refl _ _).alloc (Nat.le_refl _) _
  obtain ⟨W1, hW1⟩ : ∃ W1, w.alloc (.cells #[.int .i64 0, .int .i64 0, .int .i64 0, .int .i64 0, .int .i64 0, .int .i64 0, .int .i64 0, .int .i64 0, .int .i64 0, .int .i64 0, .int .i64 0, .int .i64 0, .int .i64 0, .int .i64 0, .bool false, .bool false, .int .i64 0] 29) = W1 := ⟨_, rfl⟩
  rw [hW1] at n1 b1
  have cP := parse_any v zs W1 (h.below (Nat.le_refl _) b1)
  rw [errV_ne hz]
  rw [errV_ne hz] at cP
  generalize (parL zs).1 = z at cP
  generalize (parL zs).2.1 = l at cP
  generalize (parL zs).2.2 = u at cP
  clear hz h
  go_enter Tryd.func12, Tryd.ntmps12
  go_upto_region 1 with fail
  try rw [hW1]
  clear hW1
  go_upto_region 3 with (go_at_call 32; refine cP.mono ?_; rintro e w6 ⟨lv, rfl, own6, b6⟩)
  have n6 := n1.below n1.lt b6
  have b6' := b1.trans (b6.mono b1.size)
  clear cP n1 b1 b6 own6
  go_wp2_with (refine wpList_store_nt rfl rfl (.tmp 2) (.tmp 16) rfl w.heap.size _ zeroN rfl rfl n6 ?_; intro W7 n7 o7)
  have b7 := o7.below (Nat.le_refl _) b6'
  exact bodyPost_ret (res_nt3 rfl _ w.heap.size _ rfl W7 n7) rfl ⟨rfl, b7⟩
theorem nread_any (v : Value) (zs : List Int) (w : World) (h : Bytes w v zs) (hL : Lives w) (hNO : NoteOfSays) :
    Calls Tryd.prog 12 #[v] w fun e w' => e = .returned (.tuple #[ntV (readR zs).2.1, .int .i64 ((readR zs).2.2 : Nat), errV (readR zs).1]) ∧ Below w.heap.size w w' := by
  by_cases hz : (parL zs).1 = 0
  · rcases h with ⟨rfl, _⟩ | ⟨b, off, len, cap, rfl, hl, hm, h62, hlen, hrow⟩
    · exfalso; simp [parL, rdL, rdG] at hz
    have hz0 : 0 < zs.length := by
      cases zs with
      | nil => simp [parL, rdL, rdG] at hz
      | cons x l => simp
    have hp : parL zs = (0, (parL zs).2.1, (parL zs).2.2) := by rw [← hz]
    by_cases he : ntE (noteL (parL zs).2.1) = 0
    · by_cases h2 : encN (noteL (parL zs).2.1) = zs.take (parL zs).2.2
      · have e : readR zs = (0, noteL (parL zs).2.1, (parL zs).2.2) := by unfold readR; rw [if_neg (fun e => e hz), if_pos ⟨he, h2⟩]
        rw [e]
        exact nread_ok b off len cap zs w hl hm h62 hlen hrow hz0 hL hNO _ _ _ hp rfl he h2
      · have e : readR zs = (2, zeroN, 0) := by unfold readR; rw [if_neg (fun e => e hz), if_neg (fun h => h2 h.2)]
        rw [e]
        exact nread_b2 b off len cap zs w hl hm h62 hlen hrow hz0 hL hNO _ _ _ hp rfl he h2
    · have e : readR zs = (2, zeroN, 0) := by unfold readR; rw [if_neg (fun e => e hz), if_neg (fun h => he h.1)]
      rw [e]
      exact nread_b1 b off len cap zs w hl hm h62 hlen hrow hz0 hL hNO _ _ _ hp rfl he
  · have e : readR zs = ((parL zs).1, zeroN, 0) := by unfold readR; rw [if_pos hz]
    rw [e]
    exact nread_no v zs w h hz
end Go.Proofs.YtbncegjnjlokmaaDoor
