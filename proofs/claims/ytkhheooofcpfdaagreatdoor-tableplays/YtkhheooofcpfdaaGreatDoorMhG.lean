/- What the reference's Step returns (package portref2) where the segment is wrong. -/
import Derived.Test.YtkhheooofcpfdaaGreatDoorRefTr1
import Derived.Test.YtkhheooofcpfdaaGreatDoorMgV
import Derived.Deep.DeepCutAuto
import Derived.Deep.DeepMust
namespace Go.Proofs.YtkhheooofcpfdaaGreatDoor
open Go.RowKit
set_option linter.unusedVariables false
set_option maxRecDepth 100000 in
set_option maxHeartbeats 16000000 in
theorem rstep_seg (f:Fl) (s:Sg) (a:Option Addr) (l c:Nat) (side now:Int) (w:World) (hs:side=0∨side=1) (hb:Bytes w (.slice a l c) s.body) (hz:chkE f=0) (ht:inR now 0 1000000=true) (z:Int) (hd:sgErr (sideK f side).kind s (sideK f side).src (sideK f side).dst=z) (h0:¬ z=0) :
  Calls Tryz.prog 34 #[flV f,segV s (.slice a l c),.int .i64 side,.int .i64 now] w fun e w'=>e = .returned (.tuple #[flV zeroF,.int .i64 z])∧Below w.heap.size w w':=by
 have h1:=Fsz.start w f s (.slice a l c)
 unfold fszW at h1
 obtain ⟨W1,hW1⟩:∃ W1,((w.alloc (.cells #[.int .i64 f.key.kind,.int .i64 f.key.src,.int .i64 f.key.frm,.int .i64 f.key.dst,.int .i64 f.key.too,.int .i64 f.st,.int .i64 f.unt,.int .i64 f.stp,.int .i64 f.h0,.int .i64 f.h1,.int .i64 f.w0,.int .i64 f.w1,.bool f.d0,.bool f.d1,.int .i64 f.num] 45)).alloc (.cells #[.int .i64 s.frm,.int .i64 s.too,.int .i64 s.seq,.int .i64 s.ack,.int .i64 s.win,.int .i64 s.flg,.slice a l c] 41)).alloc (.cells #[.int .i64 0,.int .i64 0,.int .i64 0,.int .i64 0,.int .i64 0,.int .i64 0,.int .i64 0,.int .i64 0,.int .i64 0,.int .i64 0,.int .i64 0,.int .i64 0,.bool false,.bool false,.int .i64 0] 45)=W1:=⟨_,rfl⟩
 rw [hW1] at h1
 rw [show flV zeroF = .agg #[.int .i64 0,.int .i64 0,.int .i64 0,.int .i64 0,.int .i64 0,.int .i64 0,.int .i64 0,.int .i64 0,.int .i64 0,.int .i64 0,.int .i64 0,.int .i64 0,.bool false,.bool false,.int .i64 0] from rfl]
 have hck:=fun W=>refCheck_any f W
 rw [hz] at hck
 unfold flV at hck
 have HS:=hidE hs
 have HB:=hidE (fun W (hB:Below w.heap.size w W)=>hb.below (Nat.le_refl _) hB)
 have ct:=fun W=>refTime_any now W
 rw [ht] at ct
 have HSG:=hidE (fun W (hB:Below w.heap.size w W)=>refSegment_any (sideK f side).kind s (sideK f side).src (sideK f side).dst (.slice a l c) W (HB.out W hB))
 rw [hd] at HSG
 have e0:(z != 0)=true:=by simpa using h0
 clear hs hz hb ht hd h0
 unfold flV segV
 go_enter Tryz.func34,Tryz.ntmps34
 go_upto_region 1 with fail
 try rw [hW1]
 clear hW1
 go_upto_region 1 with fail
 go_cut [20] (fun v wr=>v = .bool false∧wr=W1)
 case first =>
  rcases HS.out with h|h
  ·have e1:(side != 0)=false:=by simp [h]
   clear h
   go_wp2_with fail
   go_meet
   case rel=>exact ⟨rfl,rfl⟩
  ·have e1:(side != 0)=true:=by simp [h]
   have e2:(side != 1)=false:=by simp [h]
   clear h
   go_wp2_with fail
   go_meet
   case rel=>exact ⟨rfl,rfl⟩
 case rest =>
 obtain ⟨rfl,hw⟩:=hcut
 subst hw
 go_upto_region 3 with fail
 obtain ⟨c0,c1,c2,c3,c4,c5,c6,c7,c8,c9,c10,c11,c12,c13,c14⟩:=h1.fl.cells
 obtain ⟨s0,s1,s2,s3,s4,s5,s6⟩:=h1.sg.cells
 go_upto_region 6 with (go_at_call 38;go_must (refine (hck _).mono ?_;rintro e W2 ⟨rfl,b2⟩))
 have h2:=h1.step b2
 clear c0 c1 c2 c3 c4 c5 c6 c7 c8 c9 c10 c11 c12 c13 c14 s0 s1 s2 s3 s4 s5 s6
 clear h1 b2 hck
 go_upto_region 9 with (go_at_call 47;go_must (refine (ct _).mono ?_;rintro e w' ⟨rfl,hw'⟩;rw [hw'];clear hw' w'))
 go_cut [34] (fun v wr=>v = .bool (side == 0)∧wr=W2)
 case first =>
  go_wp2_with fail
  go_meet
  case rel=>exact ⟨rfl,rfl⟩
 case rest =>
 obtain ⟨rfl,hw⟩:=hcut
 subst hw
 have h3:=h2
 obtain ⟨W3,hW3⟩:∃ X9,wc=X9:=⟨_,rfl⟩
 rw [hW3] at h3 ⊢
 clear hW3 h2 ct
 go_step
 go_cut [10] (fun v wr=>v = .int .i64 z∧Hid (Fsz w f s (.slice a l c) zeroF wr))
 case first =>
  obtain ⟨c0,c1,c2,c3,c4,c5,c6,c7,c8,c9,c10,c11,c12,c13,c14⟩:=h3.fl.cells
  obtain ⟨s0,s1,s2,s3,s4,s5,s6⟩:=h3.sg.cells
  have hsg:=HSG.out W3 h3.bel
  unfold segV at hsg
  rcases HS.out with h|h
  ·have e1:(side == 0)=true:=by simp [h]
   rw [show sideK f side=f.key by rw [h];rfl] at hsg
   clear h
   go_wp2_with (go_at_call 49;go_must (refine hsg.mono ?_;rintro e W4 ⟨rfl,b4⟩))
   have HF:=hidE (h3.step b4)
   go_meet
   case rel=>exact ⟨rfl,HF⟩
  ·have e1:(side == 0)=false:=by simp [h]
   rw [show sideK f side=turnK f.key by rw [h];rfl] at hsg
   unfold turnK at hsg
   simp only at hsg
   clear h
   go_wp2_with (go_at_call 49;go_must (refine hsg.mono ?_;rintro e W4 ⟨rfl,b4⟩))
   have HF:=hidE (h3.step b4)
   go_meet
   case rel=>exact ⟨rfl,HF⟩
 case rest =>
 obtain ⟨rfl,HF⟩:=hcut
 have h4:=HF.out
 obtain ⟨W4,hW4⟩:∃ X9,wc=X9:=⟨_,rfl⟩
 rw [hW4] at h4 ⊢
 clear hW4 HF h3 HSG
 go_upto_region 13 with fail
 obtain ⟨y0,y1,y2,y3,y4,y5,y6,y7,y8,y9,y10,y11,y12,y13,y14⟩:=h4.rs.frees
 obtain ⟨d0,d1,d2,d3,d4,d5,d6,d7,d8,d9,d10,d11,d12,d13,d14⟩:=zero_cells h4.rs
 go_wp2_with fail
 obtain ⟨W9,hW9,g9,b9⟩:=h4.wipe
 rw [hW9]
 clear hW9 y0 y1 y2 y3 y4 y5 y6 y7 y8 y9 y10 y11 y12 y13 y14 d0 d1 d2 d3 d4 d5 d6 d7 d8 d9 d10 d11 d12 d13 d14
 obtain ⟨c0,c1,c2,c3,c4,c5,c6,c7,c8,c9,c10,c11,c12,c13,c14⟩:=zero_cells g9
 exact bodyPost_ret (v:=.tuple #[.agg #[.int .i64 0,.int .i64 0,.int .i64 0,.int .i64 0,.int .i64 0,.int .i64 0,.int .i64 0,.int .i64 0,.int .i64 0,.int .i64 0,.int .i64 0,.int .i64 0,.bool false,.bool false,.int .i64 0],.int .i64 z]) (by simp [results,Tryz.results34,go_sem,c0,c1,c2,c3,c4,c5,c6,c7,c8,c9,c10,c11,c12,c13,c14]) rfl ⟨rfl,b9⟩
end Go.Proofs.YtkhheooofcpfdaaGreatDoor
namespace Go.Proofs.YtkhheooofcpfdaaGreatDoor
open Go.RowKit
set_option linter.unusedVariables false
set_option maxRecDepth 100000 in
set_option maxHeartbeats 16000000 in
theorem rstep_port (f:Fl) (s:Sg) (a:Option Addr) (l c:Nat) (side now:Int) (w:World) (hs:side=0∨side=1) (hb:Bytes w (.slice a l c) s.body) (hz:chkE f=0) (ht:inR now 0 1000000=true) (hd:sgErr (sideK f side).kind s (sideK f side).src (sideK f side).dst=0) (ho:ofB (sideK f side) s side=false) :
  Calls Tryz.prog 34 #[flV f,segV s (.slice a l c),.int .i64 side,.int .i64 now] w fun e w'=>e = .returned (.tuple #[flV zeroF,.int .i64 3])∧Below w.heap.size w w':=by
 have h1:=Fsz.start w f s (.slice a l c)
 unfold fszW at h1
 obtain ⟨W1,hW1⟩:∃ W1,((w.alloc (.cells #[.int .i64 f.key.kind,.int .i64 f.key.src,.int .i64 f.key.frm,.int .i64 f.key.dst,.int .i64 f.key.too,.int .i64 f.st,.int .i64 f.unt,.int .i64 f.stp,.int .i64 f.h0,.int .i64 f.h1,.int .i64 f.w0,.int .i64 f.w1,.bool f.d0,.bool f.d1,.int .i64 f.num] 45)).alloc (.cells #[.int .i64 s.frm,.int .i64 s.too,.int .i64 s.seq,.int .i64 s.ack,.int .i64 s.win,.int .i64 s.flg,.slice a l c] 41)).alloc (.cells #[.int .i64 0,.int .i64 0,.int .i64 0,.int .i64 0,.int .i64 0,.int .i64 0,.int .i64 0,.int .i64 0,.int .i64 0,.int .i64 0,.int .i64 0,.int .i64 0,.bool false,.bool false,.int .i64 0] 45)=W1:=⟨_,rfl⟩
 rw [hW1] at h1
 rw [show flV zeroF = .agg #[.int .i64 0,.int .i64 0,.int .i64 0,.int .i64 0,.int .i64 0,.int .i64 0,.int .i64 0,.int .i64 0,.int .i64 0,.int .i64 0,.int .i64 0,.int .i64 0,.bool false,.bool false,.int .i64 0] from rfl]
 have hsa:=fun W=>refSaid_any f.key s (.slice a l c) side W hs
 rw [show (if side=0 then f.key else turnK f.key)=sideK f side from rfl] at hsa
 rw [ho] at hsa
 unfold keyV segV at hsa
 have hck:=fun W=>refCheck_any f W
 rw [hz] at hck
 unfold flV at hck
 have HS:=hidE hs
 have HB:=hidE (fun W (hB:Below w.heap.size w W)=>hb.below (Nat.le_refl _) hB)
 have ct:=fun W=>refTime_any now W
 rw [ht] at ct
 have HSG:=hidE (fun W (hB:Below w.heap.size w W)=>refSegment_any (sideK f side).kind s (sideK f side).src (sideK f side).dst (.slice a l c) W (HB.out W hB))
 rw [hd] at HSG
 clear hs hz hb ht hd ho
 unfold flV segV
 go_enter Tryz.func34,Tryz.ntmps34
 go_upto_region 1 with fail
 try rw [hW1]
 clear hW1
 go_upto_region 1 with fail
 go_cut [20] (fun v wr=>v = .bool false∧wr=W1)
 case first =>
  rcases HS.out with h|h
  ·have e1:(side != 0)=false:=by simp [h]
   clear h
   go_wp2_with fail
   go_meet
   case rel=>exact ⟨rfl,rfl⟩
  ·have e1:(side != 0)=true:=by simp [h]
   have e2:(side != 1)=false:=by simp [h]
   clear h
   go_wp2_with fail
   go_meet
   case rel=>exact ⟨rfl,rfl⟩
 case rest =>
 obtain ⟨rfl,hw⟩:=hcut
 subst hw
 go_upto_region 3 with fail
 obtain ⟨c0,c1,c2,c3,c4,c5,c6,c7,c8,c9,c10,c11,c12,c13,c14⟩:=h1.fl.cells
 obtain ⟨s0,s1,s2,s3,s4,s5,s6⟩:=h1.sg.cells
 go_upto_region 6 with (go_at_call 38;go_must (refine (hck _).mono ?_;rintro e W2 ⟨rfl,b2⟩))
 have h2:=h1.step b2
 clear c0 c1 c2 c3 c4 c5 c6 c7 c8 c9 c10 c11 c12 c13 c14 s0 s1 s2 s3 s4 s5 s6
 clear h1 b2 hck
 go_upto_region 9 with (go_at_call 47;go_must (refine (ct _).mono ?_;rintro e w' ⟨rfl,hw'⟩;rw [hw'];clear hw' w'))
 go_cut [34] (fun v wr=>v = .bool (side == 0)∧wr=W2)
 case first =>
  go_wp2_with fail
  go_meet
  case rel=>exact ⟨rfl,rfl⟩
 case rest =>
 obtain ⟨rfl,hw⟩:=hcut
 subst hw
 have h3:=h2
 obtain ⟨W3,hW3⟩:∃ X9,wc=X9:=⟨_,rfl⟩
 rw [hW3] at h3 ⊢
 clear hW3 h2 ct
 go_step
 go_cut [10] (fun v wr=>v = .int .i64 0∧Hid (Fsz w f s (.slice a l c) zeroF wr))
 case first =>
  obtain ⟨c0,c1,c2,c3,c4,c5,c6,c7,c8,c9,c10,c11,c12,c13,c14⟩:=h3.fl.cells
  obtain ⟨s0,s1,s2,s3,s4,s5,s6⟩:=h3.sg.cells
  have hsg:=HSG.out W3 h3.bel
  unfold segV at hsg
  rcases HS.out with h|h
  ·have e1:(side == 0)=true:=by simp [h]
   rw [show sideK f side=f.key by rw [h];rfl] at hsg
   clear h
   go_wp2_with (go_at_call 49;go_must (refine hsg.mono ?_;rintro e W4 ⟨rfl,b4⟩))
   have HF:=hidE (h3.step b4)
   go_meet
   case rel=>exact ⟨rfl,HF⟩
  ·have e1:(side == 0)=false:=by simp [h]
   rw [show sideK f side=turnK f.key by rw [h];rfl] at hsg
   unfold turnK at hsg
   simp only at hsg
   clear h
   go_wp2_with (go_at_call 49;go_must (refine hsg.mono ?_;rintro e W4 ⟨rfl,b4⟩))
   have HF:=hidE (h3.step b4)
   go_meet
   case rel=>exact ⟨rfl,HF⟩
 case rest =>
 obtain ⟨rfl,HF⟩:=hcut
 have h4:=HF.out
 obtain ⟨W4,hW4⟩:∃ X9,wc=X9:=⟨_,rfl⟩
 rw [hW4] at h4 ⊢
 clear hW4 HF h3 HSG
 obtain ⟨c0,c1,c2,c3,c4,c5,c6,c7,c8,c9,c10,c11,c12,c13,c14⟩:=h4.fl.cells
 obtain ⟨s0,s1,s2,s3,s4,s5,s6⟩:=h4.sg.cells
 go_upto_region 16 with (go_at_call 50;go_must (refine (hsa _).mono ?_;rintro e W5 ⟨rfl,b5⟩))
 have h5:=h4.step b5
 clear c0 c1 c2 c3 c4 c5 c6 c7 c8 c9 c10 c11 c12 c13 c14 s0 s1 s2 s3 s4 s5 s6
 clear h4 b5 hsa
 obtain ⟨y0,y1,y2,y3,y4,y5,y6,y7,y8,y9,y10,y11,y12,y13,y14⟩:=h5.rs.frees
 obtain ⟨d0,d1,d2,d3,d4,d5,d6,d7,d8,d9,d10,d11,d12,d13,d14⟩:=zero_cells h5.rs
 go_wp2_with fail
 obtain ⟨W9,hW9,g9,b9⟩:=h5.wipe
 rw [hW9]
 clear hW9 y0 y1 y2 y3 y4 y5 y6 y7 y8 y9 y10 y11 y12 y13 y14 d0 d1 d2 d3 d4 d5 d6 d7 d8 d9 d10 d11 d12 d13 d14
 obtain ⟨c0,c1,c2,c3,c4,c5,c6,c7,c8,c9,c10,c11,c12,c13,c14⟩:=zero_cells g9
 exact bodyPost_ret (v:=.tuple #[.agg #[.int .i64 0,.int .i64 0,.int .i64 0,.int .i64 0,.int .i64 0,.int .i64 0,.int .i64 0,.int .i64 0,.int .i64 0,.int .i64 0,.int .i64 0,.int .i64 0,.bool false,.bool false,.int .i64 0],.int .i64 3]) (by simp [results,Tryz.results34,go_sem,c0,c1,c2,c3,c4,c5,c6,c7,c8,c9,c10,c11,c12,c13,c14]) rfl ⟨rfl,b9⟩
end Go.Proofs.YtkhheooofcpfdaaGreatDoor
namespace Go.Proofs.YtkhheooofcpfdaaGreatDoor
open Go.RowKit
set_option linter.unusedVariables false
set_option maxRecDepth 100000 in
set_option maxHeartbeats 16000000 in
theorem rstep_late (f:Fl) (s:Sg) (a:Option Addr) (l c:Nat) (side now:Int) (w:World) (hs:side=0∨side=1) (hb:Bytes w (.slice a l c) s.body) (hz:chkE f=0) (ht:inR now 0 1000000=true) (hd:sgErr (sideK f side).kind s (sideK f side).src (sideK f side).dst=0) (ho:ofB (sideK f side) s side=true) (hlt:f.unt≤now∨f.stp=1000000) :
  Calls Tryz.prog 34 #[flV f,segV s (.slice a l c),.int .i64 side,.int .i64 now] w fun e w'=>e = .returned (.tuple #[flV zeroF,.int .i64 6])∧Below w.heap.size w w':=by
 have h1:=Fsz.start w f s (.slice a l c)
 unfold fszW at h1
 obtain ⟨W1,hW1⟩:∃ W1,((w.alloc (.cells #[.int .i64 f.key.kind,.int .i64 f.key.src,.int .i64 f.key.frm,.int .i64 f.key.dst,.int .i64 f.key.too,.int .i64 f.st,.int .i64 f.unt,.int .i64 f.stp,.int .i64 f.h0,.int .i64 f.h1,.int .i64 f.w0,.int .i64 f.w1,.bool f.d0,.bool f.d1,.int .i64 f.num] 45)).alloc (.cells #[.int .i64 s.frm,.int .i64 s.too,.int .i64 s.seq,.int .i64 s.ack,.int .i64 s.win,.int .i64 s.flg,.slice a l c] 41)).alloc (.cells #[.int .i64 0,.int .i64 0,.int .i64 0,.int .i64 0,.int .i64 0,.int .i64 0,.int .i64 0,.int .i64 0,.int .i64 0,.int .i64 0,.int .i64 0,.int .i64 0,.bool false,.bool false,.int .i64 0] 45)=W1:=⟨_,rfl⟩
 rw [hW1] at h1
 rw [show flV zeroF = .agg #[.int .i64 0,.int .i64 0,.int .i64 0,.int .i64 0,.int .i64 0,.int .i64 0,.int .i64 0,.int .i64 0,.int .i64 0,.int .i64 0,.int .i64 0,.int .i64 0,.bool false,.bool false,.int .i64 0] from rfl]
 have hsa:=fun W=>refSaid_any f.key s (.slice a l c) side W hs
 rw [show (if side=0 then f.key else turnK f.key)=sideK f side from rfl] at hsa
 rw [ho] at hsa
 unfold keyV segV at hsa
 have hck:=fun W=>refCheck_any f W
 rw [hz] at hck
 unfold flV at hck
 have HS:=hidE hs
 have HB:=hidE (fun W (hB:Below w.heap.size w W)=>hb.below (Nat.le_refl _) hB)
 have ct:=fun W=>refTime_any now W
 rw [ht] at ct
 have HSG:=hidE (fun W (hB:Below w.heap.size w W)=>refSegment_any (sideK f side).kind s (sideK f side).src (sideK f side).dst (.slice a l c) W (HB.out W hB))
 rw [hd] at HSG
 have HLT:=hidE hlt
 clear hs hz hb ht hd ho hlt
 unfold flV segV
 go_enter Tryz.func34,Tryz.ntmps34
 go_upto_region 1 with fail
 try rw [hW1]
 clear hW1
 go_upto_region 1 with fail
 go_cut [20] (fun v wr=>v = .bool false∧wr=W1)
 case first =>
  rcases HS.out with h|h
  ·have e1:(side != 0)=false:=by simp [h]
   clear h
   go_wp2_with fail
   go_meet
   case rel=>exact ⟨rfl,rfl⟩
  ·have e1:(side != 0)=true:=by simp [h]
   have e2:(side != 1)=false:=by simp [h]
   clear h
   go_wp2_with fail
   go_meet
   case rel=>exact ⟨rfl,rfl⟩
 case rest =>
 obtain ⟨rfl,hw⟩:=hcut
 subst hw
 go_upto_region 3 with fail
 obtain ⟨c0,c1,c2,c3,c4,c5,c6,c7,c8,c9,c10,c11,c12,c13,c14⟩:=h1.fl.cells
 obtain ⟨s0,s1,s2,s3,s4,s5,s6⟩:=h1.sg.cells
 go_upto_region 6 with (go_at_call 38;go_must (refine (hck _).mono ?_;rintro e W2 ⟨rfl,b2⟩))
 have h2:=h1.step b2
 clear c0 c1 c2 c3 c4 c5 c6 c7 c8 c9 c10 c11 c12 c13 c14 s0 s1 s2 s3 s4 s5 s6
 clear h1 b2 hck
 go_upto_region 9 with (go_at_call 47;go_must (refine (ct _).mono ?_;rintro e w' ⟨rfl,hw'⟩;rw [hw'];clear hw' w'))
 go_cut [34] (fun v wr=>v = .bool (side == 0)∧wr=W2)
 case first =>
  go_wp2_with fail
  go_meet
  case rel=>exact ⟨rfl,rfl⟩
 case rest =>
 obtain ⟨rfl,hw⟩:=hcut
 subst hw
 have h3:=h2
 obtain ⟨W3,hW3⟩:∃ X9,wc=X9:=⟨_,rfl⟩
 rw [hW3] at h3 ⊢
 clear hW3 h2 ct
 go_step
 go_cut [10] (fun v wr=>v = .int .i64 0∧Hid (Fsz w f s (.slice a l c) zeroF wr))
 case first =>
  obtain ⟨c0,c1,c2,c3,c4,c5,c6,c7,c8,c9,c10,c11,c12,c13,c14⟩:=h3.fl.cells
  obtain ⟨s0,s1,s2,s3,s4,s5,s6⟩:=h3.sg.cells
  have hsg:=HSG.out W3 h3.bel
  unfold segV at hsg
  rcases HS.out with h|h
  ·have e1:(side == 0)=true:=by simp [h]
   rw [show sideK f side=f.key by rw [h];rfl] at hsg
   clear h
   go_wp2_with (go_at_call 49;go_must (refine hsg.mono ?_;rintro e W4 ⟨rfl,b4⟩))
   have HF:=hidE (h3.step b4)
   go_meet
   case rel=>exact ⟨rfl,HF⟩
  ·have e1:(side == 0)=false:=by simp [h]
   rw [show sideK f side=turnK f.key by rw [h];rfl] at hsg
   unfold turnK at hsg
   simp only at hsg
   clear h
   go_wp2_with (go_at_call 49;go_must (refine hsg.mono ?_;rintro e W4 ⟨rfl,b4⟩))
   have HF:=hidE (h3.step b4)
   go_meet
   case rel=>exact ⟨rfl,HF⟩
 case rest =>
 obtain ⟨rfl,HF⟩:=hcut
 have h4:=HF.out
 obtain ⟨W4,hW4⟩:∃ X9,wc=X9:=⟨_,rfl⟩
 rw [hW4] at h4 ⊢
 clear hW4 HF h3 HSG
 obtain ⟨c0,c1,c2,c3,c4,c5,c6,c7,c8,c9,c10,c11,c12,c13,c14⟩:=h4.fl.cells
 obtain ⟨s0,s1,s2,s3,s4,s5,s6⟩:=h4.sg.cells
 go_upto_region 17 with (go_at_call 50;go_must (refine (hsa _).mono ?_;rintro e W5 ⟨rfl,b5⟩))
 have h5:=h4.step b5
 clear c0 c1 c2 c3 c4 c5 c6 c7 c8 c9 c10 c11 c12 c13 c14 s0 s1 s2 s3 s4 s5 s6
 clear h4 b5 hsa
 obtain ⟨c0,c1,c2,c3,c4,c5,c6,c7,c8,c9,c10,c11,c12,c13,c14⟩:=h5.fl.cells
 obtain ⟨s0,s1,s2,s3,s4,s5,s6⟩:=h5.sg.cells
 go_cut [77] (fun v wr=>v = .bool true∧wr=W5)
 case first =>
  by_cases h1:f.unt≤now
  ·clear HLT
   go_wp2_with fail
   go_meet
   case rel=>exact ⟨rfl,rfl⟩
  ·have e1:(f.stp == 1000000)=true:=by rcases HLT.out with h|h;exact absurd h h1;simpa using h
   clear HLT
   go_wp2_with fail
   go_meet
   case rel=>exact ⟨rfl,rfl⟩
 case rest =>
 obtain ⟨rfl,hw⟩:=hcut
 subst hw
 clear c0 c1 c2 c3 c4 c5 c6 c7 c8 c9 c10 c11 c12 c13 c14 s0 s1 s2 s3 s4 s5 s6
 go_upto_region 18 with fail
 obtain ⟨y0,y1,y2,y3,y4,y5,y6,y7,y8,y9,y10,y11,y12,y13,y14⟩:=h5.rs.frees
 obtain ⟨d0,d1,d2,d3,d4,d5,d6,d7,d8,d9,d10,d11,d12,d13,d14⟩:=zero_cells h5.rs
 go_wp2_with fail
 obtain ⟨W9,hW9,g9,b9⟩:=h5.wipe
 rw [hW9]
 clear hW9 y0 y1 y2 y3 y4 y5 y6 y7 y8 y9 y10 y11 y12 y13 y14 d0 d1 d2 d3 d4 d5 d6 d7 d8 d9 d10 d11 d12 d13 d14
 obtain ⟨c0,c1,c2,c3,c4,c5,c6,c7,c8,c9,c10,c11,c12,c13,c14⟩:=zero_cells g9
 exact bodyPost_ret (v:=.tuple #[.agg #[.int .i64 0,.int .i64 0,.int .i64 0,.int .i64 0,.int .i64 0,.int .i64 0,.int .i64 0,.int .i64 0,.int .i64 0,.int .i64 0,.int .i64 0,.int .i64 0,.bool false,.bool false,.int .i64 0],.int .i64 6]) (by simp [results,Tryz.results34,go_sem,c0,c1,c2,c3,c4,c5,c6,c7,c8,c9,c10,c11,c12,c13,c14]) rfl ⟨rfl,b9⟩
end Go.Proofs.YtkhheooofcpfdaaGreatDoor
