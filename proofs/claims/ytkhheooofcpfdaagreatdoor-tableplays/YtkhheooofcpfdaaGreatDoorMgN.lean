/- What the reference's Step returns (package portref2), for every flow, segment, side and time. -/
import Derived.Test.YtkhheooofcpfdaaGreatDoorMgL
import Derived.Test.YtkhheooofcpfdaaGreatDoorMhG
import Derived.Test.YtkhheooofcpfdaaGreatDoorMhH
import Derived.Test.YtkhheooofcpfdaaGreatDoorMhF
import Derived.Test.YtkhheooofcpfdaaGreatDoorRefTr1
import Derived.Test.YtkhheooofcpfdaaGreatDoorMgT
import Derived.Deep.DeepCutAuto
import Derived.Deep.DeepMust
import Derived.Deep.RegionHeld3
namespace Go.Proofs.YtkhheooofcpfdaaGreatDoor
open Go.RowKit
set_option linter.unusedVariables false
theorem refStep_any (f:Fl) (s:Sg) (bv:Value) (side now:Int) (w:World) (hb:Bytes w bv s.body) :
  Calls Tryz.prog 34 #[flV f,segV s bv,.int .i64 side,.int .i64 now] w fun e w'=>e = .returned (.tuple #[flV (stpF f s side now),.int .i64 (stpE f s side now)])∧Below w.heap.size w w':=by
 obtain ⟨a,c,rfl⟩:=len_body hb
 by_cases hs:side=0∨side=1
 case neg =>
  have e:stpE f s side now=1:=by unfold stpE;rw [if_pos hs]
  rw [stpF_no e (by decide),e]
  exact rstep_side f s a _ c side now w hs
 have hs':¬ ¬ (side=0∨side=1):=fun h=>h hs
 by_cases hz:chkE f=0
 case neg =>
  have e:stpE f s side now=chkE f:=by unfold stpE;rw [if_neg hs',if_pos hz]
  rw [stpF_no e hz,e]
  exact rstep_chk f s a _ c side now w hs _ rfl hz
 have hz':¬ ¬ chkE f=0:=fun h=>h hz
 have said:∀ z,sdE (sideK f side) s side now=z→¬ z=0→stpE f s side now=z:=fun z h h0=>by unfold stpE;rw [if_neg hs',if_neg hz',if_pos (by rw [h];exact h0),h]
 cases ht:inR now 0 1000000
 ·have e:=said 1 (by unfold sdE;rw [if_pos ht]) (by decide)
  rw [stpF_no e (by decide),e]
  exact rstep_time f s a _ c side now w hs hb hz ht
 have ht':¬ inR now 0 1000000=false:=by rw [ht];decide
 by_cases hd:sgErr (sideK f side).kind s (sideK f side).src (sideK f side).dst=0
 case neg =>
  have e:=said _ (by unfold sdE;rw [if_neg ht',if_pos hd]) hd
  rw [stpF_no e hd,e]
  exact rstep_seg f s a _ c side now w hs hb hz ht _ rfl hd
 have hd':¬ ¬ sgErr (sideK f side).kind s (sideK f side).src (sideK f side).dst=0:=fun h=>h hd
 cases ho:ofB (sideK f side) s side
 ·have e:=said 3 (by unfold sdE;rw [if_neg ht',if_neg hd',if_pos ho]) (by decide)
  rw [stpF_no e (by decide),e]
  exact rstep_port f s a _ c side now w hs hb hz ht hd ho
 have hsd:sdE (sideK f side) s side now=0:=by unfold sdE;rw [if_neg ht',if_neg hd',if_neg (by rw [ho];decide)]
 have hsd':¬ ¬ sdE (sideK f side) s side now=0:=fun h=>h hsd
 by_cases hlt:f.unt≤now∨f.stp=1000000
 ·have e:stpE f s side now=6:=by unfold stpE;rw [if_neg hs',if_neg hz',if_neg hsd',if_pos hlt]
  rw [stpF_no e (by decide),e]
  exact rstep_late f s a _ c side now w hs hb hz ht hd ho hlt
 cases hy:sayB f s side
 ·have e:stpE f s side now=6:=by unfold stpE;rw [if_neg hs',if_neg hz',if_neg hsd',if_neg hlt,if_pos hy]
  rw [stpF_no e (by decide),e]
  have hk:f.key.kind=1:=Decidable.byContradiction fun h=>by unfold sayB at hy;rw [if_neg h] at hy;cases hy
  exact rstep_no f s a _ c side now w hs hb hz ht hd ho hlt hk (by unfold sayB at hy;rw [if_pos hk] at hy;exact hy)
 ·have e:stpE f s side now=0:=by unfold stpE;rw [if_neg hs',if_neg hz',if_neg hsd',if_neg hlt,if_neg (by rw [hy];decide)]
  rw [show stpF f s side now=chgF (sayF f s side) now by unfold stpF;rw [if_pos e],e]
  by_cases hk:f.key.kind=1
  ·exact rstep_str f s a _ c side now w hs hb hz ht hd ho hlt hk (by unfold sayB at hy;rw [if_pos hk] at hy;exact hy) (sayF_same f s side).1
  ·rcases hs with h0|h1
   ·rw [show sayF f s side=f by unfold sayF;rw [if_neg hk,if_neg (by omega)]]
    exact rstep_oth0 f s a _ c side now w (.inl h0) hb hz ht hd ho hlt hk h0
   ·rw [show sayF f s side = { f with st:=2 } by unfold sayF;rw [if_neg hk,if_pos h1]]
    exact rstep_oth1 f s a _ c side now w (.inr h1) hb hz ht hd ho hlt hk h1
end Go.Proofs.YtkhheooofcpfdaaGreatDoor
namespace Go.Proofs.YtkhheooofcpfdaaGreatDoor
open Go.RowKit
set_option linter.unusedVariables false
set_option maxRecDepth 100000 in
set_option maxHeartbeats 16000000 in
theorem rbeg_1 (k:Ky) (s:Sg) (a:Option Addr) (l c:Nat) (rule now:Int) (w:World) (hr:¬ (1≤k.kind∧k.kind≤3∧inR rule (-1) 200=true∧inR now 0 1000000=true)) :
  Calls Tryz.prog 26 #[keyV k,segV s (.slice a l c),.int .i64 rule,.int .i64 now] w fun e w'=>e = .returned (.tuple #[flV zeroF,.int .i64 1])∧Below w.heap.size w w':=by
 have h1:=Kb.start w k s (.slice a l c)
 obtain ⟨W1,hW1⟩:∃ W1,((w.alloc (.cells #[.int .i64 k.kind,.int .i64 k.src,.int .i64 k.frm,.int .i64 k.dst,.int .i64 k.too] 37)).alloc (.cells #[.int .i64 s.frm,.int .i64 s.too,.int .i64 s.seq,.int .i64 s.ack,.int .i64 s.win,.int .i64 s.flg,.slice a l c] 41)).alloc (.cells #[.int .i64 0,.int .i64 0,.int .i64 0,.int .i64 0,.int .i64 0,.int .i64 0,.int .i64 0,.int .i64 0,.int .i64 0,.int .i64 0,.int .i64 0,.int .i64 0,.bool false,.bool false,.int .i64 0] 45)=W1:=⟨_,rfl⟩
 rw [hW1] at h1
 have cn:=fun W=>refNumber_any rule W
 have ct:=fun W=>refTime_any now W
 rw [show flV zeroF = .agg #[.int .i64 0,.int .i64 0,.int .i64 0,.int .i64 0,.int .i64 0,.int .i64 0,.int .i64 0,.int .i64 0,.int .i64 0,.int .i64 0,.int .i64 0,.int .i64 0,.bool false,.bool false,.int .i64 0] from rfl]
 generalize inR rule (-1) 200=x at cn hr
 generalize inR now 0 1000000=y at ct hr
 have HR:=hidE hr
 clear hr
 unfold keyV segV
 go_enter Tryz.func26,Tryz.ntmps26
 go_upto_region 1 with fail
 try rw [hW1]
 clear hW1
 obtain ⟨k0,k1,k2,k3,k4⟩:=h1.ky.cells
 obtain ⟨s0,s1,s2,s3,s4,s5,s6⟩:=h1.sg.cells
 go_upto_region 3 with (first|(go_at_call 48;go_must (refine (cn _).mono ?_;rintro e w' ⟨rfl,hw'⟩;rw [hw'];clear hw' w'))|(go_at_call 47;go_must (refine (ct _).mono ?_;rintro e w' ⟨rfl,hw'⟩;rw [hw'];clear hw' w')))
 go_cut [34] (fun v wr=>v = .bool true∧wr=W1)
 case first =>
  by_cases h1':k.kind < 1
  ·clear HR
   go_wp2_with fail
   go_meet
   case rel=>exact ⟨rfl,rfl⟩
  by_cases h2':3 < k.kind
  ·clear HR
   go_wp2_with fail
   go_meet
   case rel=>exact ⟨rfl,rfl⟩
  rcases x with _|_
  ·clear HR
   go_wp2_with fail
   go_meet
   case rel=>exact ⟨rfl,rfl⟩
  rcases y with _|_
  ·clear HR
   go_wp2_with fail
   go_meet
   case rel=>exact ⟨rfl,rfl⟩
  exact absurd ⟨by omega,by omega,rfl,rfl⟩ HR.out
 case rest =>
 obtain ⟨rfl,hw⟩:=hcut
 subst hw
 clear k0 k1 k2 k3 k4 s0 s1 s2 s3 s4 s5 s6
 clear HR
 go_upto_region 4 with fail
 obtain ⟨y0,y1,y2,y3,y4,y5,y6,y7,y8,y9,y10,y11,y12,y13,y14⟩:=h1.rs.frees
 obtain ⟨d0,d1,d2,d3,d4,d5,d6,d7,d8,d9,d10,d11,d12,d13,d14⟩:=zero_cells h1.rs
 go_wp2_with fail
 obtain ⟨W9,hW9,g9,b9⟩:=h1.wipe
 rw [hW9]
 clear hW9 y0 y1 y2 y3 y4 y5 y6 y7 y8 y9 y10 y11 y12 y13 y14 d0 d1 d2 d3 d4 d5 d6 d7 d8 d9 d10 d11 d12 d13 d14
 obtain ⟨c0,c1,c2,c3,c4,c5,c6,c7,c8,c9,c10,c11,c12,c13,c14⟩:=zero_cells g9
 exact bodyPost_ret (v:=.tuple #[.agg #[.int .i64 0,.int .i64 0,.int .i64 0,.int .i64 0,.int .i64 0,.int .i64 0,.int .i64 0,.int .i64 0,.int .i64 0,.int .i64 0,.int .i64 0,.int .i64 0,.bool false,.bool false,.int .i64 0],.int .i64 1]) (by simp [results,Tryz.results26,go_sem,c0,c1,c2,c3,c4,c5,c6,c7,c8,c9,c10,c11,c12,c13,c14]) rfl ⟨rfl,b9⟩
set_option maxRecDepth 100000 in
set_option maxHeartbeats 16000000 in
theorem rbeg_seg (k:Ky) (s:Sg) (a:Option Addr) (l c:Nat) (rule now:Int) (w:World) (hk1:¬ k.kind < 1) (hk3:¬ 3 < k.kind) (hr:inR rule (-1) 200=true) (ht:inR now 0 1000000=true) (hb:Bytes w (.slice a l c) s.body) (z:Int) (hd:sgErr k.kind s k.src k.dst=z) (h0:¬ z=0) :
  Calls Tryz.prog 26 #[keyV k,segV s (.slice a l c),.int .i64 rule,.int .i64 now] w fun e w'=>e = .returned (.tuple #[flV zeroF,.int .i64 z])∧Below w.heap.size w w':=by
 have h1:=Kb.start w k s (.slice a l c)
 obtain ⟨W1,hW1⟩:∃ W1,((w.alloc (.cells #[.int .i64 k.kind,.int .i64 k.src,.int .i64 k.frm,.int .i64 k.dst,.int .i64 k.too] 37)).alloc (.cells #[.int .i64 s.frm,.int .i64 s.too,.int .i64 s.seq,.int .i64 s.ack,.int .i64 s.win,.int .i64 s.flg,.slice a l c] 41)).alloc (.cells #[.int .i64 0,.int .i64 0,.int .i64 0,.int .i64 0,.int .i64 0,.int .i64 0,.int .i64 0,.int .i64 0,.int .i64 0,.int .i64 0,.int .i64 0,.int .i64 0,.bool false,.bool false,.int .i64 0] 45)=W1:=⟨_,rfl⟩
 rw [hW1] at h1
 have cn:=fun W=>refNumber_any rule W
 have ct:=fun W=>refTime_any now W
 rw [show flV zeroF = .agg #[.int .i64 0,.int .i64 0,.int .i64 0,.int .i64 0,.int .i64 0,.int .i64 0,.int .i64 0,.int .i64 0,.int .i64 0,.int .i64 0,.int .i64 0,.int .i64 0,.bool false,.bool false,.int .i64 0] from rfl]
 rw [hr] at cn
 rw [ht] at ct
 have HSG:=hidE (fun W (hB:Below w.heap.size w W)=>refSegment_any k.kind s k.src k.dst (.slice a l c) W (hb.below (Nat.le_refl _) hB))
 rw [hd] at HSG
 have e0:(z != 0)=true:=by simpa using h0
 clear hr ht hb hd h0
 unfold keyV segV
 go_enter Tryz.func26,Tryz.ntmps26
 go_upto_region 1 with fail
 try rw [hW1]
 clear hW1
 obtain ⟨k0,k1,k2,k3,k4⟩:=h1.ky.cells
 obtain ⟨s0,s1,s2,s3,s4,s5,s6⟩:=h1.sg.cells
 go_upto_region 5 with (first|(go_at_call 48;go_must (refine (cn _).mono ?_;rintro e w' ⟨rfl,hw'⟩;rw [hw'];clear hw' w'))|(go_at_call 47;go_must (refine (ct _).mono ?_;rintro e w' ⟨rfl,hw'⟩;rw [hw'];clear hw' w')))
 have hsg:=HSG.out W1 h1.bel
 unfold segV at hsg
 go_upto_region 7 with (go_at_call 49;go_must (refine hsg.mono ?_;rintro e W2 ⟨rfl,b2⟩))
 have h2:=h1.step b2
 clear k0 k1 k2 k3 k4 s0 s1 s2 s3 s4 s5 s6
 clear h1 b2 hsg HSG cn ct
 obtain ⟨y0,y1,y2,y3,y4,y5,y6,y7,y8,y9,y10,y11,y12,y13,y14⟩:=h2.rs.frees
 obtain ⟨d0,d1,d2,d3,d4,d5,d6,d7,d8,d9,d10,d11,d12,d13,d14⟩:=zero_cells h2.rs
 go_wp2_with fail
 obtain ⟨W9,hW9,g9,b9⟩:=h2.wipe
 rw [hW9]
 clear hW9 y0 y1 y2 y3 y4 y5 y6 y7 y8 y9 y10 y11 y12 y13 y14 d0 d1 d2 d3 d4 d5 d6 d7 d8 d9 d10 d11 d12 d13 d14
 obtain ⟨c0,c1,c2,c3,c4,c5,c6,c7,c8,c9,c10,c11,c12,c13,c14⟩:=zero_cells g9
 exact bodyPost_ret (v:=.tuple #[.agg #[.int .i64 0,.int .i64 0,.int .i64 0,.int .i64 0,.int .i64 0,.int .i64 0,.int .i64 0,.int .i64 0,.int .i64 0,.int .i64 0,.int .i64 0,.int .i64 0,.bool false,.bool false,.int .i64 0],.int .i64 z]) (by simp [results,Tryz.results26,go_sem,c0,c1,c2,c3,c4,c5,c6,c7,c8,c9,c10,c11,c12,c13,c14]) rfl ⟨rfl,b9⟩
set_option maxRecDepth 100000 in
set_option maxHeartbeats 16000000 in
theorem rbeg_port (k:Ky) (s:Sg) (a:Option Addr) (l c:Nat) (rule now:Int) (w:World) (hk1:¬ k.kind < 1) (hk3:¬ 3 < k.kind) (hr:inR rule (-1) 200=true) (ht:inR now 0 1000000=true) (hb:Bytes w (.slice a l c) s.body) (hd:sgErr k.kind s k.src k.dst=0) (ho:ofB k s 0=false) :
  Calls Tryz.prog 26 #[keyV k,segV s (.slice a l c),.int .i64 rule,.int .i64 now] w fun e w'=>e = .returned (.tuple #[flV zeroF,.int .i64 3])∧Below w.heap.size w w':=by
 have h1:=Kb.start w k s (.slice a l c)
 obtain ⟨W1,hW1⟩:∃ W1,((w.alloc (.cells #[.int .i64 k.kind,.int .i64 k.src,.int .i64 k.frm,.int .i64 k.dst,.int .i64 k.too] 37)).alloc (.cells #[.int .i64 s.frm,.int .i64 s.too,.int .i64 s.seq,.int .i64 s.ack,.int .i64 s.win,.int .i64 s.flg,.slice a l c] 41)).alloc (.cells #[.int .i64 0,.int .i64 0,.int .i64 0,.int .i64 0,.int .i64 0,.int .i64 0,.int .i64 0,.int .i64 0,.int .i64 0,.int .i64 0,.int .i64 0,.int .i64 0,.bool false,.bool false,.int .i64 0] 45)=W1:=⟨_,rfl⟩
 rw [hW1] at h1
 have cn:=fun W=>refNumber_any rule W
 have ct:=fun W=>refTime_any now W
 rw [show flV zeroF = .agg #[.int .i64 0,.int .i64 0,.int .i64 0,.int .i64 0,.int .i64 0,.int .i64 0,.int .i64 0,.int .i64 0,.int .i64 0,.int .i64 0,.int .i64 0,.int .i64 0,.bool false,.bool false,.int .i64 0] from rfl]
 have hsa:=fun W=>refSaid_any k s (.slice a l c) 0 W (.inl rfl)
 rw [show (if (0:Int)=0 then k else turnK k)=k from rfl] at hsa
 rw [ho] at hsa
 unfold keyV segV at hsa
 rw [hr] at cn
 rw [ht] at ct
 have HSG:=hidE (fun W (hB:Below w.heap.size w W)=>refSegment_any k.kind s k.src k.dst (.slice a l c) W (hb.below (Nat.le_refl _) hB))
 rw [hd] at HSG
 clear hr ht hb hd ho
 unfold keyV segV
 go_enter Tryz.func26,Tryz.ntmps26
 go_upto_region 1 with fail
 try rw [hW1]
 clear hW1
 obtain ⟨k0,k1,k2,k3,k4⟩:=h1.ky.cells
 obtain ⟨s0,s1,s2,s3,s4,s5,s6⟩:=h1.sg.cells
 go_upto_region 5 with (first|(go_at_call 48;go_must (refine (cn _).mono ?_;rintro e w' ⟨rfl,hw'⟩;rw [hw'];clear hw' w'))|(go_at_call 47;go_must (refine (ct _).mono ?_;rintro e w' ⟨rfl,hw'⟩;rw [hw'];clear hw' w')))
 have hsg:=HSG.out W1 h1.bel
 unfold segV at hsg
 go_upto_region 8 with (go_at_call 49;go_must (refine hsg.mono ?_;rintro e W2 ⟨rfl,b2⟩))
 have h2:=h1.step b2
 clear k0 k1 k2 k3 k4 s0 s1 s2 s3 s4 s5 s6
 clear h1 b2 hsg HSG cn ct
 obtain ⟨k0,k1,k2,k3,k4⟩:=h2.ky.cells
 obtain ⟨s0,s1,s2,s3,s4,s5,s6⟩:=h2.sg.cells
 go_upto_region 10 with (go_at_call 50;go_must (refine (hsa _).mono ?_;rintro e W3 ⟨rfl,b3⟩))
 have h3:=h2.step b3
 clear k0 k1 k2 k3 k4 s0 s1 s2 s3 s4 s5 s6
 clear h2 b3 hsa
 obtain ⟨y0,y1,y2,y3,y4,y5,y6,y7,y8,y9,y10,y11,y12,y13,y14⟩:=h3.rs.frees
 obtain ⟨d0,d1,d2,d3,d4,d5,d6,d7,d8,d9,d10,d11,d12,d13,d14⟩:=zero_cells h3.rs
 go_wp2_with fail
 obtain ⟨W9,hW9,g9,b9⟩:=h3.wipe
 rw [hW9]
 clear hW9 y0 y1 y2 y3 y4 y5 y6 y7 y8 y9 y10 y11 y12 y13 y14 d0 d1 d2 d3 d4 d5 d6 d7 d8 d9 d10 d11 d12 d13 d14
 obtain ⟨c0,c1,c2,c3,c4,c5,c6,c7,c8,c9,c10,c11,c12,c13,c14⟩:=zero_cells g9
 exact bodyPost_ret (v:=.tuple #[.agg #[.int .i64 0,.int .i64 0,.int .i64 0,.int .i64 0,.int .i64 0,.int .i64 0,.int .i64 0,.int .i64 0,.int .i64 0,.int .i64 0,.int .i64 0,.int .i64 0,.bool false,.bool false,.int .i64 0],.int .i64 3]) (by simp [results,Tryz.results26,go_sem,c0,c1,c2,c3,c4,c5,c6,c7,c8,c9,c10,c11,c12,c13,c14]) rfl ⟨rfl,b9⟩
end Go.Proofs.YtkhheooofcpfdaaGreatDoor
