/- What the reference's Step returns (package portref2) where the segment is not accepted. -/
import Derived.Test.YtkhheooofcpfdaaGreatDoorRefTr1
import Derived.Test.YtkhheooofcpfdaaGreatDoorMgV
import Derived.Test.YtkhheooofcpfdaaGreatDoorMhL
import Derived.Deep.DeepCutAuto
import Derived.Deep.DeepMust
namespace Go.Proofs.YtkhheooofcpfdaaGreatDoor
open Go.RowKit
set_option linter.unusedVariables false
set_option maxRecDepth 100000 in
set_option maxHeartbeats 16000000 in
theorem rstep_no (f:Fl) (s:Sg) (a:Option Addr) (l c:Nat) (side now:Int) (w:World) (hs:side=0∨side=1) (hb:Bytes w (.slice a l c) s.body) (hz:chkE f=0) (ht:inR now 0 1000000=true) (hd:sgErr (sideK f side).kind s (sideK f side).src (sideK f side).dst=0) (ho:ofB (sideK f side) s side=true) (hnl:¬ (f.unt≤now∨f.stp=1000000)) (hk:f.key.kind=1) (hy:strB f s side=false) :
  Calls Tryz.prog 34 #[flV f,segV s (.slice a l c),.int .i64 side,.int .i64 now] w fun e w'=>e = .returned (.tuple #[flV zeroF,.int .i64 6])∧Below w.heap.size w w':=by
 have h1:=Fsz.start w f s (.slice a l c)
 unfold fszW at h1
 obtain ⟨W1,hW1⟩:∃ W1,((w.alloc (.cells #[.int .i64 f.key.kind,.int .i64 f.key.src,.int .i64 f.key.frm,.int .i64 f.key.dst,.int .i64 f.key.too,.int .i64 f.st,.int .i64 f.unt,.int .i64 f.stp,.int .i64 f.h0,.int .i64 f.h1,.int .i64 f.w0,.int .i64 f.w1,.bool f.d0,.bool f.d1,.int .i64 f.num] 45)).alloc (.cells #[.int .i64 s.frm,.int .i64 s.too,.int .i64 s.seq,.int .i64 s.ack,.int .i64 s.win,.int .i64 s.flg,.slice a l c] 41)).alloc (.cells #[.int .i64 0,.int .i64 0,.int .i64 0,.int .i64 0,.int .i64 0,.int .i64 0,.int .i64 0,.int .i64 0,.int .i64 0,.int .i64 0,.int .i64 0,.int .i64 0,.bool false,.bool false,.int .i64 0] 45)=W1:=⟨_,rfl⟩
 rw [hW1] at h1
 rw [show flV zeroF = .agg #[.int .i64 0,.int .i64 0,.int .i64 0,.int .i64 0,.int .i64 0,.int .i64 0,.int .i64 0,.int .i64 0,.int .i64 0,.int .i64 0,.int .i64 0,.int .i64 0,.bool false,.bool false,.int .i64 0] from rfl]
 obtain ⟨f1,f2,f3,f4,f5,f6⟩:=fitB_of (sgErr_ok hd).2.2.2.1
 obtain ⟨hky,hfi,_,_⟩:=chkE_ok hz
 obtain ⟨g1,⟨g2,g3⟩,⟨g4,g5⟩,g6,g7,g8⟩:=fiB_of hfi
 have hl:s.body.length=l:=by obtain ⟨a',c',h⟩:=len_body hb;cases h;rfl
 have hl4:l≤4000:=by have:=(sgErr_ok hd).2.2.2.2.2;omega
 have hn:=of_inR ht
 have hst:=fun W=>refStream_any f s a l c side W hs f6.1 f6.2 f4.1 (Int.le_trans f4.2 (seqM_le _).1) hl hl4 g2 g4
 rw [hy,if_neg (by decide)] at hst
 unfold flV segV at hst
 have hsa:=fun W=>refSaid_any f.key s (.slice a l c) side W hs
 rw [show (if side=0 then f.key else turnK f.key)=sideK f side from rfl] at hsa
 rw [ho] at hsa
 unfold keyV segV at hsa
 have hck:=fun W=>refCheck_any f W
 rw [hz] at hck
 unfold flV at hck
 have HS:=hidE hs
 have HB:=hidE (fun W (hB:Below w.heap.size w W)=>hb.below (Nat.le_refl _) hB)
 have ct:=fun W=>refTime_any now W
 rw [ht] at ct
 have HSG:=hidE (fun W (hB:Below w.heap.size w W)=>refSegment_any (sideK f side).kind s (sideK f side).src (sideK f side).dst (.slice a l c) W (HB.out W hB))
 rw [hd] at HSG
 have e8:(f.stp == 1000000)=false:=by simpa using fun h=>hnl (.inr h)
 have e9:¬ f.unt≤now:=fun h=>hnl (.inl h)
 have e7:(f.key.kind == 1)=true:=by simpa using hk
 clear hs hz hb ht hd ho hnl hk hy hn f1 f2 f3 f4 f5 f6 hky hfi g1 g2 g3 g4 g5 g6 g7 g8 hl hl4
 unfold flV segV
 go_enter Tryz.func34,Tryz.ntmps34
 go_upto_region 1 with fail
 try rw [hW1]
 clear hW1
 go_upto_region 1 with fail
 go_cut [20] (fun v wr=>v = .bool false∧wr=W1)
 case first =>
  rcases HS.out with h|h
  ·have e1:(side != 0)=false:=by simp [h]
   clear h
   go_wp2_with fail
   go_meet
   case rel=>exact ⟨rfl,rfl⟩
  ·have e1:(side != 0)=true:=by simp [h]
   have e2:(side != 1)=false:=by simp [h]
   clear h
   go_wp2_with fail
   go_meet
   case rel=>exact ⟨rfl,rfl⟩
 case rest =>
 obtain ⟨rfl,hw⟩:=hcut
 subst hw
 go_upto_region 3 with fail
 obtain ⟨c0,c1,c2,c3,c4,c5,c6,c7,c8,c9,c10,c11,c12,c13,c14⟩:=h1.fl.cells
 obtain ⟨s0,s1,s2,s3,s4,s5,s6⟩:=h1.sg.cells
 go_upto_region 6 with (go_at_call 38;go_must (refine (hck _).mono ?_;rintro e W2 ⟨rfl,b2⟩))
 have h2:=h1.step b2
 clear c0 c1 c2 c3 c4 c5 c6 c7 c8 c9 c10 c11 c12 c13 c14 s0 s1 s2 s3 s4 s5 s6
 clear h1 b2 hck
 go_upto_region 9 with (go_at_call 47;go_must (refine (ct _).mono ?_;rintro e w' ⟨rfl,hw'⟩;rw [hw'];clear hw' w'))
 go_cut [34] (fun v wr=>v = .bool (side == 0)∧wr=W2)
 case first =>
  go_wp2_with fail
  go_meet
  case rel=>exact ⟨rfl,rfl⟩
 case rest =>
 obtain ⟨rfl,hw⟩:=hcut
 subst hw
 have h3:=h2
 obtain ⟨W3,hW3⟩:∃ X9,wc=X9:=⟨_,rfl⟩
 rw [hW3] at h3 ⊢
 clear hW3 h2 ct
 go_step
 go_cut [10] (fun v wr=>v = .int .i64 0∧Hid (Fsz w f s (.slice a l c) zeroF wr))
 case first =>
  obtain ⟨c0,c1,c2,c3,c4,c5,c6,c7,c8,c9,c10,c11,c12,c13,c14⟩:=h3.fl.cells
  obtain ⟨s0,s1,s2,s3,s4,s5,s6⟩:=h3.sg.cells
  have hsg:=HSG.out W3 h3.bel
  unfold segV at hsg
  rcases HS.out with h|h
  ·have e1:(side == 0)=true:=by simp [h]
   rw [show sideK f side=f.key by rw [h];rfl] at hsg
   clear h
   go_wp2_with (go_at_call 49;go_must (refine hsg.mono ?_;rintro e W4 ⟨rfl,b4⟩))
   have HF:=hidE (h3.step b4)
   go_meet
   case rel=>exact ⟨rfl,HF⟩
  ·have e1:(side == 0)=false:=by simp [h]
   rw [show sideK f side=turnK f.key by rw [h];rfl] at hsg
   unfold turnK at hsg
   simp only at hsg
   clear h
   go_wp2_with (go_at_call 49;go_must (refine hsg.mono ?_;rintro e W4 ⟨rfl,b4⟩))
   have HF:=hidE (h3.step b4)
   go_meet
   case rel=>exact ⟨rfl,HF⟩
 case rest =>
 obtain ⟨rfl,HF⟩:=hcut
 have h4:=HF.out
 obtain ⟨W4,hW4⟩:∃ X9,wc=X9:=⟨_,rfl⟩
 rw [hW4] at h4 ⊢
 clear hW4 HF h3 HSG
 obtain ⟨c0,c1,c2,c3,c4,c5,c6,c7,c8,c9,c10,c11,c12,c13,c14⟩:=h4.fl.cells
 obtain ⟨s0,s1,s2,s3,s4,s5,s6⟩:=h4.sg.cells
 go_upto_region 17 with (go_at_call 50;go_must (refine (hsa _).mono ?_;rintro e W5 ⟨rfl,b5⟩))
 have h5:=h4.step b5
 clear c0 c1 c2 c3 c4 c5 c6 c7 c8 c9 c10 c11 c12 c13 c14 s0 s1 s2 s3 s4 s5 s6
 clear h4 b5 hsa
 obtain ⟨c0,c1,c2,c3,c4,c5,c6,c7,c8,c9,c10,c11,c12,c13,c14⟩:=h5.fl.cells
 obtain ⟨s0,s1,s2,s3,s4,s5,s6⟩:=h5.sg.cells
 go_upto_region 21 with (go_at_call 60;go_must (refine (hst _).mono ?_;rintro e W6 ⟨rfl,b6⟩))
 have h6:=(h5.step b6).step ((Below.refl _ _).alloc (Nat.le_refl _) (.cells #[.int .i64 f.key.kind,.int .i64 f.key.src,.int .i64 f.key.frm,.int .i64 f.key.dst,.int .i64 f.key.too,.int .i64 f.st,.int .i64 f.unt,.int .i64 f.stp,.int .i64 f.h0,.int .i64 f.h1,.int .i64 f.w0,.int .i64 f.w1,.bool f.d0,.bool f.d1,.int .i64 f.num] 45))
 obtain ⟨W7,hW7⟩:∃ X9,W6.alloc (.cells #[.int .i64 f.key.kind,.int .i64 f.key.src,.int .i64 f.key.frm,.int .i64 f.key.dst,.int .i64 f.key.too,.int .i64 f.st,.int .i64 f.unt,.int .i64 f.stp,.int .i64 f.h0,.int .i64 f.h1,.int .i64 f.w0,.int .i64 f.w1,.bool f.d0,.bool f.d1,.int .i64 f.num] 45)=X9:=⟨_,rfl⟩
 rw [hW7] at h6 ⊢
 clear hW7 h5 b6 hst e7 e8 e9
 clear c0 c1 c2 c3 c4 c5 c6 c7 c8 c9 c10 c11 c12 c13 c14 s0 s1 s2 s3 s4 s5 s6
 go_upto_region 22 with fail
 obtain ⟨y0,y1,y2,y3,y4,y5,y6,y7,y8,y9,y10,y11,y12,y13,y14⟩:=h6.rs.frees
 obtain ⟨d0,d1,d2,d3,d4,d5,d6,d7,d8,d9,d10,d11,d12,d13,d14⟩:=zero_cells h6.rs
 go_wp2_with fail
 obtain ⟨W9,hW9,g9,b9⟩:=h6.wipe
 rw [hW9]
 clear hW9 y0 y1 y2 y3 y4 y5 y6 y7 y8 y9 y10 y11 y12 y13 y14 d0 d1 d2 d3 d4 d5 d6 d7 d8 d9 d10 d11 d12 d13 d14
 obtain ⟨c0,c1,c2,c3,c4,c5,c6,c7,c8,c9,c10,c11,c12,c13,c14⟩:=zero_cells g9
 exact bodyPost_ret (v:=.tuple #[.agg #[.int .i64 0,.int .i64 0,.int .i64 0,.int .i64 0,.int .i64 0,.int .i64 0,.int .i64 0,.int .i64 0,.int .i64 0,.int .i64 0,.int .i64 0,.int .i64 0,.bool false,.bool false,.int .i64 0],.int .i64 6]) (by simp [results,Tryz.results34,go_sem,c0,c1,c2,c3,c4,c5,c6,c7,c8,c9,c10,c11,c12,c13,c14]) rfl ⟨rfl,b9⟩
end Go.Proofs.YtkhheooofcpfdaaGreatDoor
namespace Go.Proofs.YtkhheooofcpfdaaGreatDoor
open Go.RowKit
set_option linter.unusedVariables false
theorem Fsz.putAll {w W:World} {f g:Fl} {s:Sg} {bv:Value} (h:Fsz w f s bv g W) (q:Fl):∃ W',(((((((((((((((W.setCell ⟨w.heap.size,0,none⟩ (.int .i64 q.key.kind)).setCell ⟨w.heap.size,1,none⟩ (.int .i64 q.key.src)).setCell ⟨w.heap.size,2,none⟩ (.int .i64 q.key.frm)).setCell ⟨w.heap.size,3,none⟩ (.int .i64 q.key.dst)).setCell ⟨w.heap.size,4,none⟩ (.int .i64 q.key.too)).setCell ⟨w.heap.size,5,none⟩ (.int .i64 q.st)).setCell ⟨w.heap.size,6,none⟩ (.int .i64 q.unt)).setCell ⟨w.heap.size,7,none⟩ (.int .i64 q.stp)).setCell ⟨w.heap.size,8,none⟩ (.int .i64 q.h0)).setCell ⟨w.heap.size,9,none⟩ (.int .i64 q.h1)).setCell ⟨w.heap.size,10,none⟩ (.int .i64 q.w0)).setCell ⟨w.heap.size,11,none⟩ (.int .i64 q.w1)).setCell ⟨w.heap.size,12,none⟩ (.bool q.d0)).setCell ⟨w.heap.size,13,none⟩ (.bool q.d1)).setCell ⟨w.heap.size,14,none⟩ (.int .i64 q.num))=W'∧Fsz w q s bv g W':=by
 obtain ⟨W',e,p,o⟩:=h.fl.store q
 exact ⟨W',e,h.put p o⟩
set_option maxRecDepth 100000 in
set_option maxHeartbeats 16000000 in
theorem rstep_str (f:Fl) (s:Sg) (a:Option Addr) (l c:Nat) (side now:Int) (w:World) (hs:side=0∨side=1) (hb:Bytes w (.slice a l c) s.body) (hz:chkE f=0) (ht:inR now 0 1000000=true) (hd:sgErr (sideK f side).kind s (sideK f side).src (sideK f side).dst=0) (ho:ofB (sideK f side) s side=true) (hnl:¬ (f.unt≤now∨f.stp=1000000)) (hk:f.key.kind=1) (hy:strB f s side=true) (hsm:(sayF f s side).stp=f.stp) :
  Calls Tryz.prog 34 #[flV f,segV s (.slice a l c),.int .i64 side,.int .i64 now] w fun e w'=>e = .returned (.tuple #[flV (chgF (sayF f s side) now),.int .i64 0])∧Below w.heap.size w w':=by
 have h1:=Fsz.start w f s (.slice a l c)
 unfold fszW at h1
 obtain ⟨W1,hW1⟩:∃ W1,((w.alloc (.cells #[.int .i64 f.key.kind,.int .i64 f.key.src,.int .i64 f.key.frm,.int .i64 f.key.dst,.int .i64 f.key.too,.int .i64 f.st,.int .i64 f.unt,.int .i64 f.stp,.int .i64 f.h0,.int .i64 f.h1,.int .i64 f.w0,.int .i64 f.w1,.bool f.d0,.bool f.d1,.int .i64 f.num] 45)).alloc (.cells #[.int .i64 s.frm,.int .i64 s.too,.int .i64 s.seq,.int .i64 s.ack,.int .i64 s.win,.int .i64 s.flg,.slice a l c] 41)).alloc (.cells #[.int .i64 0,.int .i64 0,.int .i64 0,.int .i64 0,.int .i64 0,.int .i64 0,.int .i64 0,.int .i64 0,.int .i64 0,.int .i64 0,.int .i64 0,.int .i64 0,.bool false,.bool false,.int .i64 0] 45)=W1:=⟨_,rfl⟩
 rw [hW1] at h1
 obtain ⟨f1,f2,f3,f4,f5,f6⟩:=fitB_of (sgErr_ok hd).2.2.2.1
 obtain ⟨hky,hfi,_,_⟩:=chkE_ok hz
 obtain ⟨g1,⟨g2,g3⟩,⟨g4,g5⟩,g6,g7,g8⟩:=fiB_of hfi
 have hl:s.body.length=l:=by obtain ⟨a',c',h⟩:=len_body hb;cases h;rfl
 have hl4:l≤4000:=by have:=(sgErr_ok hd).2.2.2.2.2;omega
 have hn:=of_inR ht
 have hst:=fun W=>refStream_any f s a l c side W hs f6.1 f6.2 f4.1 (Int.le_trans f4.2 (seqM_le _).1) hl hl4 g2 g4
 rw [hy,if_pos rfl] at hst
 have hsf:sayF f s side=strF f s side:=by unfold sayF;rw [if_pos hk]
 rw [hsf] at hsm ⊢
 have hstp:0≤(strF f s side).stp∧(strF f s side).stp≤1000000:=by rw [hsm];omega
 generalize strF f s side=g at hst hstp ⊢
 obtain ⟨V,HQQ⟩:∃ V,Hid (V=flV (chgF g now)):=⟨_,rfl⟩
 rw [← HQQ.out]
 unfold flV segV at hst
 obtain ⟨hst0,hst1⟩:=hstp
 have hn0:=hn.1
 have hn1:=hn.2
 have hsa:=fun W=>refSaid_any f.key s (.slice a l c) side W hs
 rw [show (if side=0 then f.key else turnK f.key)=sideK f side from rfl] at hsa
 rw [ho] at hsa
 unfold keyV segV at hsa
 have hck:=fun W=>refCheck_any f W
 rw [hz] at hck
 unfold flV at hck
 have HS:=hidE hs
 have HB:=hidE (fun W (hB:Below w.heap.size w W)=>hb.below (Nat.le_refl _) hB)
 have ct:=fun W=>refTime_any now W
 rw [ht] at ct
 have HSG:=hidE (fun W (hB:Below w.heap.size w W)=>refSegment_any (sideK f side).kind s (sideK f side).src (sideK f side).dst (.slice a l c) W (HB.out W hB))
 rw [hd] at HSG
 have e8:(f.stp == 1000000)=false:=by simpa using fun h=>hnl (.inr h)
 have e9:¬ f.unt≤now:=fun h=>hnl (.inl h)
 have e7:(f.key.kind == 1)=true:=by simpa using hk
 clear hs hz hb ht hd ho hnl hk hy hn hsf hsm f1 f2 f3 f4 f5 f6 hky hfi g1 g2 g3 g4 g5 g6 g7 g8 hl hl4
 unfold flV segV
 go_enter Tryz.func34,Tryz.ntmps34
 go_upto_region 1 with fail
 try rw [hW1]
 clear hW1
 go_upto_region 1 with fail
 go_cut [20] (fun v wr=>v = .bool false∧wr=W1)
 case first =>
  rcases HS.out with h|h
  ·have e1:(side != 0)=false:=by simp [h]
   clear h
   go_wp2_with fail
   go_meet
   case rel=>exact ⟨rfl,rfl⟩
  ·have e1:(side != 0)=true:=by simp [h]
   have e2:(side != 1)=false:=by simp [h]
   clear h
   go_wp2_with fail
   go_meet
   case rel=>exact ⟨rfl,rfl⟩
 case rest =>
 obtain ⟨rfl,hw⟩:=hcut
 subst hw
 go_upto_region 3 with fail
 obtain ⟨c0,c1,c2,c3,c4,c5,c6,c7,c8,c9,c10,c11,c12,c13,c14⟩:=h1.fl.cells
 obtain ⟨s0,s1,s2,s3,s4,s5,s6⟩:=h1.sg.cells
 go_upto_region 6 with (go_at_call 38;go_must (refine (hck _).mono ?_;rintro e W2 ⟨rfl,b2⟩))
 have h2:=h1.step b2
 clear c0 c1 c2 c3 c4 c5 c6 c7 c8 c9 c10 c11 c12 c13 c14 s0 s1 s2 s3 s4 s5 s6
 clear h1 b2 hck
 go_upto_region 9 with (go_at_call 47;go_must (refine (ct _).mono ?_;rintro e w' ⟨rfl,hw'⟩;rw [hw'];clear hw' w'))
 go_cut [34] (fun v wr=>v = .bool (side == 0)∧wr=W2)
 case first =>
  go_wp2_with fail
  go_meet
  case rel=>exact ⟨rfl,rfl⟩
 case rest =>
 obtain ⟨rfl,hw⟩:=hcut
 subst hw
 have h3:=h2
 obtain ⟨W3,hW3⟩:∃ X9,wc=X9:=⟨_,rfl⟩
 rw [hW3] at h3 ⊢
 clear hW3 h2 ct
 go_step
 go_cut [10] (fun v wr=>v = .int .i64 0∧Hid (Fsz w f s (.slice a l c) zeroF wr))
 case first =>
  obtain ⟨c0,c1,c2,c3,c4,c5,c6,c7,c8,c9,c10,c11,c12,c13,c14⟩:=h3.fl.cells
  obtain ⟨s0,s1,s2,s3,s4,s5,s6⟩:=h3.sg.cells
  have hsg:=HSG.out W3 h3.bel
  unfold segV at hsg
  rcases HS.out with h|h
  ·have e1:(side == 0)=true:=by simp [h]
   rw [show sideK f side=f.key by rw [h];rfl] at hsg
   clear h
   go_wp2_with (go_at_call 49;go_must (refine hsg.mono ?_;rintro e W4 ⟨rfl,b4⟩))
   have HF:=hidE (h3.step b4)
   go_meet
   case rel=>exact ⟨rfl,HF⟩
  ·have e1:(side == 0)=false:=by simp [h]
   rw [show sideK f side=turnK f.key by rw [h];rfl] at hsg
   unfold turnK at hsg
   simp only at hsg
   clear h
   go_wp2_with (go_at_call 49;go_must (refine hsg.mono ?_;rintro e W4 ⟨rfl,b4⟩))
   have HF:=hidE (h3.step b4)
   go_meet
   case rel=>exact ⟨rfl,HF⟩
 case rest =>
 obtain ⟨rfl,HF⟩:=hcut
 have h4:=HF.out
 obtain ⟨W4,hW4⟩:∃ X9,wc=X9:=⟨_,rfl⟩
 rw [hW4] at h4 ⊢
 clear hW4 HF h3 HSG
 obtain ⟨c0,c1,c2,c3,c4,c5,c6,c7,c8,c9,c10,c11,c12,c13,c14⟩:=h4.fl.cells
 obtain ⟨s0,s1,s2,s3,s4,s5,s6⟩:=h4.sg.cells
 go_upto_region 17 with (go_at_call 50;go_must (refine (hsa _).mono ?_;rintro e W5 ⟨rfl,b5⟩))
 have h5:=h4.step b5
 clear c0 c1 c2 c3 c4 c5 c6 c7 c8 c9 c10 c11 c12 c13 c14 s0 s1 s2 s3 s4 s5 s6
 clear h4 b5 hsa
 obtain ⟨c0,c1,c2,c3,c4,c5,c6,c7,c8,c9,c10,c11,c12,c13,c14⟩:=h5.fl.cells
 obtain ⟨s0,s1,s2,s3,s4,s5,s6⟩:=h5.sg.cells
 go_upto_region 21 with (go_at_call 60;go_must (refine (hst _).mono ?_;rintro e W6 ⟨rfl,b6⟩))
 have h6:=(h5.step b6).step ((Below.refl _ _).alloc (Nat.le_refl _) (.cells #[.int .i64 g.key.kind,.int .i64 g.key.src,.int .i64 g.key.frm,.int .i64 g.key.dst,.int .i64 g.key.too,.int .i64 g.st,.int .i64 g.unt,.int .i64 g.stp,.int .i64 g.h0,.int .i64 g.h1,.int .i64 g.w0,.int .i64 g.w1,.bool g.d0,.bool g.d1,.int .i64 g.num] 45))
 have p6:=FlAt.new W6 g
 obtain ⟨W7,hW7⟩:∃ X9,W6.alloc (.cells #[.int .i64 g.key.kind,.int .i64 g.key.src,.int .i64 g.key.frm,.int .i64 g.key.dst,.int .i64 g.key.too,.int .i64 g.st,.int .i64 g.unt,.int .i64 g.stp,.int .i64 g.h0,.int .i64 g.h1,.int .i64 g.w0,.int .i64 g.w1,.bool g.d0,.bool g.d1,.int .i64 g.num] 45)=X9:=⟨_,rfl⟩
 obtain ⟨G,hG⟩:∃ X9,W6.heap.size=X9:=⟨_,rfl⟩
 rw [hW7] at h6 p6 ⊢
 rw [hG] at p6 ⊢
 clear hW7 hG h5 b6 hst e7 e8 e9
 clear c0 c1 c2 c3 c4 c5 c6 c7 c8 c9 c10 c11 c12 c13 c14 s0 s1 s2 s3 s4 s5 s6
 obtain ⟨c0,c1,c2,c3,c4,c5,c6,c7,c8,c9,c10,c11,c12,c13,c14⟩:=p6.cells
 obtain ⟨d0,d1,d2,d3,d4,d5,d6,d7,d8,d9,d10,d11,d12,d13,d14⟩:=h6.fl.cells
 obtain ⟨y0,y1,y2,y3,y4,y5,y6,y7,y8,y9,y10,y11,y12,y13,y14⟩:=h6.fl.frees
 go_upto_region 26 with fail
 obtain ⟨W8,hW8,h8⟩:=h6.putAll g
 rw [hW8]
 clear hW8 h6 p6 c0 c1 c2 c3 c4 c5 c6 c7 c8 c9 c10 c11 c12 c13 c14 d0 d1 d2 d3 d4 d5 d6 d7 d8 d9 d10 d11 d12 d13 d14 y0 y1 y2 y3 y4 y5 y6 y7 y8 y9 y10 y11 y12 y13 y14
 have lr:=lifeI_range g.key.kind g.st
 have hlf:=fun W=>refLife_any g.key.kind g.st W
 have HC:=hidE (show chgF g now = { g with stp:=g.stp+1,unt:=now+lifeI g.key.kind g.st } from rfl)
 obtain ⟨q,hq⟩:∃ q,chgF g now=q:=⟨_,rfl⟩
 rw [hq] at HC HQQ
 generalize lifeI g.key.kind g.st=lf at lr hlf HC
 obtain ⟨hl0,hl1⟩:=lr
 clear hq
 obtain ⟨c0,c1,c2,c3,c4,c5,c6,c7,c8,c9,c10,c11,c12,c13,c14⟩:=h8.fl.cells
 obtain ⟨s0,s1,s2,s3,s4,s5,s6⟩:=h8.sg.cells
 have y7:=h8.fl.free 7
 go_upto_region 27 with fail
 obtain ⟨W20,hW20,h20⟩:=h8.put_stp (g.stp+1)
 rw [hW20]
 clear hW20 y7 h8
 clear c0 c1 c2 c3 c4 c5 c6 c7 c8 c9 c10 c11 c12 c13 c14 s0 s1 s2 s3 s4 s5 s6
 obtain ⟨c0,c1,c2,c3,c4,c5,c6,c7,c8,c9,c10,c11,c12,c13,c14⟩:=h20.fl.cells
 obtain ⟨s0,s1,s2,s3,s4,s5,s6⟩:=h20.sg.cells
 have y6:=h20.fl.free 6
 simp only at c0 c1 c2 c3 c4 c5 c6 c7 c8 c9 c10 c11 c12 c13 c14
 go_upto_region 28 with (go_at_call 51;go_must (refine (hlf _).mono ?_;rintro e w' ⟨rfl,hw'⟩;rw [hw'];clear hw' w'))
 obtain ⟨W21,hW21,h21⟩:=h20.put_unt (now+lf)
 rw [hW21]
 rw [← HC.out] at h21
 clear hW21 y6 h20 hlf
 clear c0 c1 c2 c3 c4 c5 c6 c7 c8 c9 c10 c11 c12 c13 c14 s0 s1 s2 s3 s4 s5 s6
 obtain ⟨c0,c1,c2,c3,c4,c5,c6,c7,c8,c9,c10,c11,c12,c13,c14⟩:=h21.fl.cells
 obtain ⟨y0,y1,y2,y3,y4,y5,y6,y7,y8,y9,y10,y11,y12,y13,y14⟩:=h21.rs.frees
 obtain ⟨d0,d1,d2,d3,d4,d5,d6,d7,d8,d9,d10,d11,d12,d13,d14⟩:=h21.rs.cells
 go_wp2_with fail
 obtain ⟨W9,hW9,g9,b9⟩:=h21.fin (q:=q)
 rw [hW9]
 clear hW9 c0 c1 c2 c3 c4 c5 c6 c7 c8 c9 c10 c11 c12 c13 c14 y0 y1 y2 y3 y4 y5 y6 y7 y8 y9 y10 y11 y12 y13 y14 d0 d1 d2 d3 d4 d5 d6 d7 d8 d9 d10 d11 d12 d13 d14
 obtain ⟨c0,c1,c2,c3,c4,c5,c6,c7,c8,c9,c10,c11,c12,c13,c14⟩:=g9.cells
 exact bodyPost_ret (v:=.tuple #[.agg #[.int .i64 q.key.kind,.int .i64 q.key.src,.int .i64 q.key.frm,.int .i64 q.key.dst,.int .i64 q.key.too,.int .i64 q.st,.int .i64 q.unt,.int .i64 q.stp,.int .i64 q.h0,.int .i64 q.h1,.int .i64 q.w0,.int .i64 q.w1,.bool q.d0,.bool q.d1,.int .i64 q.num],.int .i64 0]) (by simp [results,Tryz.results34,go_sem,c0,c1,c2,c3,c4,c5,c6,c7,c8,c9,c10,c11,c12,c13,c14]) rfl ⟨by rw [HQQ.out];rfl,b9⟩
end Go.Proofs.YtkhheooofcpfdaaGreatDoor
namespace Go.Proofs.YtkhheooofcpfdaaGreatDoor
open Go.RowKit
set_option linter.unusedVariables false
set_option maxRecDepth 100000 in
set_option maxHeartbeats 16000000 in
theorem rstep_oth0 (f:Fl) (s:Sg) (a:Option Addr) (l c:Nat) (side now:Int) (w:World) (hs:side=0∨side=1) (hb:Bytes w (.slice a l c) s.body) (hz:chkE f=0) (ht:inR now 0 1000000=true) (hd:sgErr (sideK f side).kind s (sideK f side).src (sideK f side).dst=0) (ho:ofB (sideK f side) s side=true) (hnl:¬ (f.unt≤now∨f.stp=1000000)) (hk:¬ f.key.kind=1) (hsd:side=0) :
  Calls Tryz.prog 34 #[flV f,segV s (.slice a l c),.int .i64 side,.int .i64 now] w fun e w'=>e = .returned (.tuple #[flV (chgF f now),.int .i64 0])∧Below w.heap.size w w':=by
 have h1:=Fsz.start w f s (.slice a l c)
 unfold fszW at h1
 obtain ⟨W1,hW1⟩:∃ W1,((w.alloc (.cells #[.int .i64 f.key.kind,.int .i64 f.key.src,.int .i64 f.key.frm,.int .i64 f.key.dst,.int .i64 f.key.too,.int .i64 f.st,.int .i64 f.unt,.int .i64 f.stp,.int .i64 f.h0,.int .i64 f.h1,.int .i64 f.w0,.int .i64 f.w1,.bool f.d0,.bool f.d1,.int .i64 f.num] 45)).alloc (.cells #[.int .i64 s.frm,.int .i64 s.too,.int .i64 s.seq,.int .i64 s.ack,.int .i64 s.win,.int .i64 s.flg,.slice a l c] 41)).alloc (.cells #[.int .i64 0,.int .i64 0,.int .i64 0,.int .i64 0,.int .i64 0,.int .i64 0,.int .i64 0,.int .i64 0,.int .i64 0,.int .i64 0,.int .i64 0,.int .i64 0,.bool false,.bool false,.int .i64 0] 45)=W1:=⟨_,rfl⟩
 rw [hW1] at h1
 obtain ⟨f1,f2,f3,f4,f5,f6⟩:=fitB_of (sgErr_ok hd).2.2.2.1
 obtain ⟨hky,hfi,_,_⟩:=chkE_ok hz
 obtain ⟨g1,⟨g2,g3⟩,⟨g4,g5⟩,g6,g7,g8⟩:=fiB_of hfi
 have hl:s.body.length=l:=by obtain ⟨a',c',h⟩:=len_body hb;cases h;rfl
 have hl4:l≤4000:=by have:=(sgErr_ok hd).2.2.2.2.2;omega
 have hn:=of_inR ht
 have hstp:0≤f.stp∧f.stp≤1000000:=by omega
 obtain ⟨V,HQQ⟩:∃ V,Hid (V=flV (chgF f now)):=⟨_,rfl⟩
 rw [← HQQ.out]
 obtain ⟨hst0,hst1⟩:=hstp
 have hn0:=hn.1
 have hn1:=hn.2
 have hsa:=fun W=>refSaid_any f.key s (.slice a l c) side W hs
 rw [show (if side=0 then f.key else turnK f.key)=sideK f side from rfl] at hsa
 rw [ho] at hsa
 unfold keyV segV at hsa
 have hck:=fun W=>refCheck_any f W
 rw [hz] at hck
 unfold flV at hck
 have HS:=hidE hs
 have HB:=hidE (fun W (hB:Below w.heap.size w W)=>hb.below (Nat.le_refl _) hB)
 have ct:=fun W=>refTime_any now W
 rw [ht] at ct
 have HSG:=hidE (fun W (hB:Below w.heap.size w W)=>refSegment_any (sideK f side).kind s (sideK f side).src (sideK f side).dst (.slice a l c) W (HB.out W hB))
 rw [hd] at HSG
 have e8:(f.stp == 1000000)=false:=by simpa using fun h=>hnl (.inr h)
 have e9:¬ f.unt≤now:=fun h=>hnl (.inl h)
 have e7:(f.key.kind == 1)=false:=by simpa using hk
 have HSD:=hidE hsd
 clear hs hz hb ht hd ho hnl hk hn hsd f1 f2 f3 f4 f5 f6 hky hfi g1 g2 g3 g4 g5 g6 g7 g8 hl hl4
 unfold flV segV
 go_enter Tryz.func34,Tryz.ntmps34
 go_upto_region 1 with fail
 try rw [hW1]
 clear hW1
 go_upto_region 1 with fail
 go_cut [20] (fun v wr=>v = .bool false∧wr=W1)
 case first =>
  rcases HS.out with h|h
  ·have e1:(side != 0)=false:=by simp [h]
   clear h
   go_wp2_with fail
   go_meet
   case rel=>exact ⟨rfl,rfl⟩
  ·have e1:(side != 0)=true:=by simp [h]
   have e2:(side != 1)=false:=by simp [h]
   clear h
   go_wp2_with fail
   go_meet
   case rel=>exact ⟨rfl,rfl⟩
 case rest =>
 obtain ⟨rfl,hw⟩:=hcut
 subst hw
 go_upto_region 3 with fail
 obtain ⟨c0,c1,c2,c3,c4,c5,c6,c7,c8,c9,c10,c11,c12,c13,c14⟩:=h1.fl.cells
 obtain ⟨s0,s1,s2,s3,s4,s5,s6⟩:=h1.sg.cells
 go_upto_region 6 with (go_at_call 38;go_must (refine (hck _).mono ?_;rintro e W2 ⟨rfl,b2⟩))
 have h2:=h1.step b2
 clear c0 c1 c2 c3 c4 c5 c6 c7 c8 c9 c10 c11 c12 c13 c14 s0 s1 s2 s3 s4 s5 s6
 clear h1 b2 hck
 go_upto_region 9 with (go_at_call 47;go_must (refine (ct _).mono ?_;rintro e w' ⟨rfl,hw'⟩;rw [hw'];clear hw' w'))
 go_cut [34] (fun v wr=>v = .bool (side == 0)∧wr=W2)
 case first =>
  go_wp2_with fail
  go_meet
  case rel=>exact ⟨rfl,rfl⟩
 case rest =>
 obtain ⟨rfl,hw⟩:=hcut
 subst hw
 have h3:=h2
 obtain ⟨W3,hW3⟩:∃ X9,wc=X9:=⟨_,rfl⟩
 rw [hW3] at h3 ⊢
 clear hW3 h2 ct
 go_step
 go_cut [10] (fun v wr=>v = .int .i64 0∧Hid (Fsz w f s (.slice a l c) zeroF wr))
 case first =>
  obtain ⟨c0,c1,c2,c3,c4,c5,c6,c7,c8,c9,c10,c11,c12,c13,c14⟩:=h3.fl.cells
  obtain ⟨s0,s1,s2,s3,s4,s5,s6⟩:=h3.sg.cells
  have hsg:=HSG.out W3 h3.bel
  unfold segV at hsg
  rcases HS.out with h|h
  ·have e1:(side == 0)=true:=by simp [h]
   rw [show sideK f side=f.key by rw [h];rfl] at hsg
   clear h
   go_wp2_with (go_at_call 49;go_must (refine hsg.mono ?_;rintro e W4 ⟨rfl,b4⟩))
   have HF:=hidE (h3.step b4)
   go_meet
   case rel=>exact ⟨rfl,HF⟩
  ·have e1:(side == 0)=false:=by simp [h]
   rw [show sideK f side=turnK f.key by rw [h];rfl] at hsg
   unfold turnK at hsg
   simp only at hsg
   clear h
   go_wp2_with (go_at_call 49;go_must (refine hsg.mono ?_;rintro e W4 ⟨rfl,b4⟩))
   have HF:=hidE (h3.step b4)
   go_meet
   case rel=>exact ⟨rfl,HF⟩
 case rest =>
 obtain ⟨rfl,HF⟩:=hcut
 have h4:=HF.out
 obtain ⟨W4,hW4⟩:∃ X9,wc=X9:=⟨_,rfl⟩
 rw [hW4] at h4 ⊢
 clear hW4 HF h3 HSG
 obtain ⟨c0,c1,c2,c3,c4,c5,c6,c7,c8,c9,c10,c11,c12,c13,c14⟩:=h4.fl.cells
 obtain ⟨s0,s1,s2,s3,s4,s5,s6⟩:=h4.sg.cells
 go_upto_region 17 with (go_at_call 50;go_must (refine (hsa _).mono ?_;rintro e W5 ⟨rfl,b5⟩))
 have h5:=h4.step b5
 clear c0 c1 c2 c3 c4 c5 c6 c7 c8 c9 c10 c11 c12 c13 c14 s0 s1 s2 s3 s4 s5 s6
 clear h4 b5 hsa
 obtain ⟨c0,c1,c2,c3,c4,c5,c6,c7,c8,c9,c10,c11,c12,c13,c14⟩:=h5.fl.cells
 obtain ⟨s0,s1,s2,s3,s4,s5,s6⟩:=h5.sg.cells
 have e6:(side == 1)=false:=by rw [HSD.out];rfl
 go_upto_region 26 with fail
 have h8:=h5
 clear h5 e6 e7 e8 e9
 clear c0 c1 c2 c3 c4 c5 c6 c7 c8 c9 c10 c11 c12 c13 c14 s0 s1 s2 s3 s4 s5 s6
 have lr:=lifeI_range f.key.kind f.st
 have hlf:=fun W=>refLife_any f.key.kind f.st W
 have HC:=hidE (show chgF f now = { f with stp:=f.stp+1,unt:=now+lifeI f.key.kind f.st } from rfl)
 obtain ⟨q,hq⟩:∃ q,chgF f now=q:=⟨_,rfl⟩
 rw [hq] at HC HQQ
 generalize lifeI f.key.kind f.st=lf at lr hlf HC
 obtain ⟨hl0,hl1⟩:=lr
 clear hq
 obtain ⟨c0,c1,c2,c3,c4,c5,c6,c7,c8,c9,c10,c11,c12,c13,c14⟩:=h8.fl.cells
 obtain ⟨s0,s1,s2,s3,s4,s5,s6⟩:=h8.sg.cells
 have y7:=h8.fl.free 7
 go_upto_region 27 with fail
 obtain ⟨W20,hW20,h20⟩:=h8.put_stp (f.stp+1)
 rw [hW20]
 clear hW20 y7 h8
 clear c0 c1 c2 c3 c4 c5 c6 c7 c8 c9 c10 c11 c12 c13 c14 s0 s1 s2 s3 s4 s5 s6
 obtain ⟨c0,c1,c2,c3,c4,c5,c6,c7,c8,c9,c10,c11,c12,c13,c14⟩:=h20.fl.cells
 obtain ⟨s0,s1,s2,s3,s4,s5,s6⟩:=h20.sg.cells
 have y6:=h20.fl.free 6
 simp only at c0 c1 c2 c3 c4 c5 c6 c7 c8 c9 c10 c11 c12 c13 c14
 go_upto_region 28 with (go_at_call 51;go_must (refine (hlf _).mono ?_;rintro e w' ⟨rfl,hw'⟩;rw [hw'];clear hw' w'))
 obtain ⟨W21,hW21,h21⟩:=h20.put_unt (now+lf)
 rw [hW21]
 rw [← HC.out] at h21
 clear hW21 y6 h20 hlf
 clear c0 c1 c2 c3 c4 c5 c6 c7 c8 c9 c10 c11 c12 c13 c14 s0 s1 s2 s3 s4 s5 s6
 obtain ⟨c0,c1,c2,c3,c4,c5,c6,c7,c8,c9,c10,c11,c12,c13,c14⟩:=h21.fl.cells
 obtain ⟨y0,y1,y2,y3,y4,y5,y6,y7,y8,y9,y10,y11,y12,y13,y14⟩:=h21.rs.frees
 obtain ⟨d0,d1,d2,d3,d4,d5,d6,d7,d8,d9,d10,d11,d12,d13,d14⟩:=h21.rs.cells
 go_wp2_with fail
 obtain ⟨W9,hW9,g9,b9⟩:=h21.fin (q:=q)
 rw [hW9]
 clear hW9 c0 c1 c2 c3 c4 c5 c6 c7 c8 c9 c10 c11 c12 c13 c14 y0 y1 y2 y3 y4 y5 y6 y7 y8 y9 y10 y11 y12 y13 y14 d0 d1 d2 d3 d4 d5 d6 d7 d8 d9 d10 d11 d12 d13 d14
 obtain ⟨c0,c1,c2,c3,c4,c5,c6,c7,c8,c9,c10,c11,c12,c13,c14⟩:=g9.cells
 exact bodyPost_ret (v:=.tuple #[.agg #[.int .i64 q.key.kind,.int .i64 q.key.src,.int .i64 q.key.frm,.int .i64 q.key.dst,.int .i64 q.key.too,.int .i64 q.st,.int .i64 q.unt,.int .i64 q.stp,.int .i64 q.h0,.int .i64 q.h1,.int .i64 q.w0,.int .i64 q.w1,.bool q.d0,.bool q.d1,.int .i64 q.num],.int .i64 0]) (by simp [results,Tryz.results34,go_sem,c0,c1,c2,c3,c4,c5,c6,c7,c8,c9,c10,c11,c12,c13,c14]) rfl ⟨by rw [HQQ.out];rfl,b9⟩
end Go.Proofs.YtkhheooofcpfdaaGreatDoor
namespace Go.Proofs.YtkhheooofcpfdaaGreatDoor
open Go.RowKit
set_option linter.unusedVariables false
set_option maxRecDepth 100000 in
set_option maxHeartbeats 16000000 in
theorem rstep_oth1 (f:Fl) (s:Sg) (a:Option Addr) (l c:Nat) (side now:Int) (w:World) (hs:side=0∨side=1) (hb:Bytes w (.slice a l c) s.body) (hz:chkE f=0) (ht:inR now 0 1000000=true) (hd:sgErr (sideK f side).kind s (sideK f side).src (sideK f side).dst=0) (ho:ofB (sideK f side) s side=true) (hnl:¬ (f.unt≤now∨f.stp=1000000)) (hk:¬ f.key.kind=1) (hsd:side=1) :
  Calls Tryz.prog 34 #[flV f,segV s (.slice a l c),.int .i64 side,.int .i64 now] w fun e w'=>e = .returned (.tuple #[flV (chgF { f with st:=2 } now),.int .i64 0])∧Below w.heap.size w w':=by
 have h1:=Fsz.start w f s (.slice a l c)
 unfold fszW at h1
 obtain ⟨W1,hW1⟩:∃ W1,((w.alloc (.cells #[.int .i64 f.key.kind,.int .i64 f.key.src,.int .i64 f.key.frm,.int .i64 f.key.dst,.int .i64 f.key.too,.int .i64 f.st,.int .i64 f.unt,.int .i64 f.stp,.int .i64 f.h0,.int .i64 f.h1,.int .i64 f.w0,.int .i64 f.w1,.bool f.d0,.bool f.d1,.int .i64 f.num] 45)).alloc (.cells #[.int .i64 s.frm,.int .i64 s.too,.int .i64 s.seq,.int .i64 s.ack,.int .i64 s.win,.int .i64 s.flg,.slice a l c] 41)).alloc (.cells #[.int .i64 0,.int .i64 0,.int .i64 0,.int .i64 0,.int .i64 0,.int .i64 0,.int .i64 0,.int .i64 0,.int .i64 0,.int .i64 0,.int .i64 0,.int .i64 0,.bool false,.bool false,.int .i64 0] 45)=W1:=⟨_,rfl⟩
 rw [hW1] at h1
 obtain ⟨f1,f2,f3,f4,f5,f6⟩:=fitB_of (sgErr_ok hd).2.2.2.1
 obtain ⟨hky,hfi,_,_⟩:=chkE_ok hz
 obtain ⟨g1,⟨g2,g3⟩,⟨g4,g5⟩,g6,g7,g8⟩:=fiB_of hfi
 have hl:s.body.length=l:=by obtain ⟨a',c',h⟩:=len_body hb;cases h;rfl
 have hl4:l≤4000:=by have:=(sgErr_ok hd).2.2.2.2.2;omega
 have hn:=of_inR ht
 obtain ⟨g,HG⟩:∃ g:Fl,Hid (g = { f with st:=2 }):=⟨_,rfl⟩
 rw [← HG.out]
 have hstp:0≤g.stp∧g.stp≤1000000:=by rw [HG.out];show 0≤f.stp∧f.stp≤1000000;omega
 obtain ⟨V,HQQ⟩:∃ V,Hid (V=flV (chgF g now)):=⟨_,rfl⟩
 rw [← HQQ.out]
 obtain ⟨hst0,hst1⟩:=hstp
 have hn0:=hn.1
 have hn1:=hn.2
 have hsa:=fun W=>refSaid_any f.key s (.slice a l c) side W hs
 rw [show (if side=0 then f.key else turnK f.key)=sideK f side from rfl] at hsa
 rw [ho] at hsa
 unfold keyV segV at hsa
 have hck:=fun W=>refCheck_any f W
 rw [hz] at hck
 unfold flV at hck
 have HS:=hidE hs
 have HB:=hidE (fun W (hB:Below w.heap.size w W)=>hb.below (Nat.le_refl _) hB)
 have ct:=fun W=>refTime_any now W
 rw [ht] at ct
 have HSG:=hidE (fun W (hB:Below w.heap.size w W)=>refSegment_any (sideK f side).kind s (sideK f side).src (sideK f side).dst (.slice a l c) W (HB.out W hB))
 rw [hd] at HSG
 have e8:(f.stp == 1000000)=false:=by simpa using fun h=>hnl (.inr h)
 have e9:¬ f.unt≤now:=fun h=>hnl (.inl h)
 have e7:(f.key.kind == 1)=false:=by simpa using hk
 have HSD:=hidE hsd
 clear hs hz hb ht hd ho hnl hk hn hsd f1 f2 f3 f4 f5 f6 hky hfi g1 g2 g3 g4 g5 g6 g7 g8 hl hl4
 unfold flV segV
 go_enter Tryz.func34,Tryz.ntmps34
 go_upto_region 1 with fail
 try rw [hW1]
 clear hW1
 go_upto_region 1 with fail
 go_cut [20] (fun v wr=>v = .bool false∧wr=W1)
 case first =>
  rcases HS.out with h|h
  ·have e1:(side != 0)=false:=by simp [h]
   clear h
   go_wp2_with fail
   go_meet
   case rel=>exact ⟨rfl,rfl⟩
  ·have e1:(side != 0)=true:=by simp [h]
   have e2:(side != 1)=false:=by simp [h]
   clear h
   go_wp2_with fail
   go_meet
   case rel=>exact ⟨rfl,rfl⟩
 case rest =>
 obtain ⟨rfl,hw⟩:=hcut
 subst hw
 go_upto_region 3 with fail
 obtain ⟨c0,c1,c2,c3,c4,c5,c6,c7,c8,c9,c10,c11,c12,c13,c14⟩:=h1.fl.cells
 obtain ⟨s0,s1,s2,s3,s4,s5,s6⟩:=h1.sg.cells
 go_upto_region 6 with (go_at_call 38;go_must (refine (hck _).mono ?_;rintro e W2 ⟨rfl,b2⟩))
 have h2:=h1.step b2
 clear c0 c1 c2 c3 c4 c5 c6 c7 c8 c9 c10 c11 c12 c13 c14 s0 s1 s2 s3 s4 s5 s6
 clear h1 b2 hck
 go_upto_region 9 with (go_at_call 47;go_must (refine (ct _).mono ?_;rintro e w' ⟨rfl,hw'⟩;rw [hw'];clear hw' w'))
 go_cut [34] (fun v wr=>v = .bool (side == 0)∧wr=W2)
 case first =>
  go_wp2_with fail
  go_meet
  case rel=>exact ⟨rfl,rfl⟩
 case rest =>
 obtain ⟨rfl,hw⟩:=hcut
 subst hw
 have h3:=h2
 obtain ⟨W3,hW3⟩:∃ X9,wc=X9:=⟨_,rfl⟩
 rw [hW3] at h3 ⊢
 clear hW3 h2 ct
 go_step
 go_cut [10] (fun v wr=>v = .int .i64 0∧Hid (Fsz w f s (.slice a l c) zeroF wr))
 case first =>
  obtain ⟨c0,c1,c2,c3,c4,c5,c6,c7,c8,c9,c10,c11,c12,c13,c14⟩:=h3.fl.cells
  obtain ⟨s0,s1,s2,s3,s4,s5,s6⟩:=h3.sg.cells
  have hsg:=HSG.out W3 h3.bel
  unfold segV at hsg
  rcases HS.out with h|h
  ·have e1:(side == 0)=true:=by simp [h]
   rw [show sideK f side=f.key by rw [h];rfl] at hsg
   clear h
   go_wp2_with (go_at_call 49;go_must (refine hsg.mono ?_;rintro e W4 ⟨rfl,b4⟩))
   have HF:=hidE (h3.step b4)
   go_meet
   case rel=>exact ⟨rfl,HF⟩
  ·have e1:(side == 0)=false:=by simp [h]
   rw [show sideK f side=turnK f.key by rw [h];rfl] at hsg
   unfold turnK at hsg
   simp only at hsg
   clear h
   go_wp2_with (go_at_call 49;go_must (refine hsg.mono ?_;rintro e W4 ⟨rfl,b4⟩))
   have HF:=hidE (h3.step b4)
   go_meet
   case rel=>exact ⟨rfl,HF⟩
 case rest =>
 obtain ⟨rfl,HF⟩:=hcut
 have h4:=HF.out
 obtain ⟨W4,hW4⟩:∃ X9,wc=X9:=⟨_,rfl⟩
 rw [hW4] at h4 ⊢
 clear hW4 HF h3 HSG
 obtain ⟨c0,c1,c2,c3,c4,c5,c6,c7,c8,c9,c10,c11,c12,c13,c14⟩:=h4.fl.cells
 obtain ⟨s0,s1,s2,s3,s4,s5,s6⟩:=h4.sg.cells
 go_upto_region 17 with (go_at_call 50;go_must (refine (hsa _).mono ?_;rintro e W5 ⟨rfl,b5⟩))
 have h5:=h4.step b5
 clear c0 c1 c2 c3 c4 c5 c6 c7 c8 c9 c10 c11 c12 c13 c14 s0 s1 s2 s3 s4 s5 s6
 clear h4 b5 hsa
 obtain ⟨c0,c1,c2,c3,c4,c5,c6,c7,c8,c9,c10,c11,c12,c13,c14⟩:=h5.fl.cells
 obtain ⟨s0,s1,s2,s3,s4,s5,s6⟩:=h5.sg.cells
 have e6:(side == 1)=true:=by rw [HSD.out];rfl
 have y5:=h5.fl.free 5
 go_upto_region 26 with fail
 obtain ⟨W8,hW8,h8⟩:=h5.put_st 2
 rw [hW8]
 rw [← HG.out] at h8
 clear hW8 h5 y5 e6 e7 e8 e9
 clear c0 c1 c2 c3 c4 c5 c6 c7 c8 c9 c10 c11 c12 c13 c14 s0 s1 s2 s3 s4 s5 s6
 have lr:=lifeI_range g.key.kind g.st
 have hlf:=fun W=>refLife_any g.key.kind g.st W
 have HC:=hidE (show chgF g now = { g with stp:=g.stp+1,unt:=now+lifeI g.key.kind g.st } from rfl)
 obtain ⟨q,hq⟩:∃ q,chgF g now=q:=⟨_,rfl⟩
 rw [hq] at HC HQQ
 generalize lifeI g.key.kind g.st=lf at lr hlf HC
 obtain ⟨hl0,hl1⟩:=lr
 clear hq
 obtain ⟨c0,c1,c2,c3,c4,c5,c6,c7,c8,c9,c10,c11,c12,c13,c14⟩:=h8.fl.cells
 obtain ⟨s0,s1,s2,s3,s4,s5,s6⟩:=h8.sg.cells
 have y7:=h8.fl.free 7
 go_upto_region 27 with fail
 obtain ⟨W20,hW20,h20⟩:=h8.put_stp (g.stp+1)
 rw [hW20]
 clear hW20 y7 h8
 clear c0 c1 c2 c3 c4 c5 c6 c7 c8 c9 c10 c11 c12 c13 c14 s0 s1 s2 s3 s4 s5 s6
 obtain ⟨c0,c1,c2,c3,c4,c5,c6,c7,c8,c9,c10,c11,c12,c13,c14⟩:=h20.fl.cells
 obtain ⟨s0,s1,s2,s3,s4,s5,s6⟩:=h20.sg.cells
 have y6:=h20.fl.free 6
 simp only at c0 c1 c2 c3 c4 c5 c6 c7 c8 c9 c10 c11 c12 c13 c14
 go_upto_region 28 with (go_at_call 51;go_must (refine (hlf _).mono ?_;rintro e w' ⟨rfl,hw'⟩;rw [hw'];clear hw' w'))
 obtain ⟨W21,hW21,h21⟩:=h20.put_unt (now+lf)
 rw [hW21]
 rw [← HC.out] at h21
 clear hW21 y6 h20 hlf
 clear c0 c1 c2 c3 c4 c5 c6 c7 c8 c9 c10 c11 c12 c13 c14 s0 s1 s2 s3 s4 s5 s6
 obtain ⟨c0,c1,c2,c3,c4,c5,c6,c7,c8,c9,c10,c11,c12,c13,c14⟩:=h21.fl.cells
 obtain ⟨y0,y1,y2,y3,y4,y5,y6,y7,y8,y9,y10,y11,y12,y13,y14⟩:=h21.rs.frees
 obtain ⟨d0,d1,d2,d3,d4,d5,d6,d7,d8,d9,d10,d11,d12,d13,d14⟩:=h21.rs.cells
 go_wp2_with fail
 obtain ⟨W9,hW9,g9,b9⟩:=h21.fin (q:=q)
 rw [hW9]
 clear hW9 c0 c1 c2 c3 c4 c5 c6 c7 c8 c9 c10 c11 c12 c13 c14 y0 y1 y2 y3 y4 y5 y6 y7 y8 y9 y10 y11 y12 y13 y14 d0 d1 d2 d3 d4 d5 d6 d7 d8 d9 d10 d11 d12 d13 d14
 obtain ⟨c0,c1,c2,c3,c4,c5,c6,c7,c8,c9,c10,c11,c12,c13,c14⟩:=g9.cells
 exact bodyPost_ret (v:=.tuple #[.agg #[.int .i64 q.key.kind,.int .i64 q.key.src,.int .i64 q.key.frm,.int .i64 q.key.dst,.int .i64 q.key.too,.int .i64 q.st,.int .i64 q.unt,.int .i64 q.stp,.int .i64 q.h0,.int .i64 q.h1,.int .i64 q.w0,.int .i64 q.w1,.bool q.d0,.bool q.d1,.int .i64 q.num],.int .i64 0]) (by simp [results,Tryz.results34,go_sem,c0,c1,c2,c3,c4,c5,c6,c7,c8,c9,c10,c11,c12,c13,c14]) rfl ⟨by rw [HQQ.out];rfl,b9⟩
end Go.Proofs.YtkhheooofcpfdaaGreatDoor
