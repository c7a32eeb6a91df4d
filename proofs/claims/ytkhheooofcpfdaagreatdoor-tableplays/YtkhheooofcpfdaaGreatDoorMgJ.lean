/- What the reference's stream returns (package portref2) with Rst, of side 0. -/
import Derived.Test.YtkhheooofcpfdaaGreatDoorRefTr1
import Derived.Test.YtkhheooofcpfdaaGreatDoorMgM
import Derived.Deep.DeepCutAuto
import Derived.Deep.DeepMust
namespace Go.Proofs.YtkhheooofcpfdaaGreatDoor
open Go.RowKit
set_option linter.unusedVariables false
set_option maxRecDepth 100000 in
set_option maxHeartbeats 32000000 in
theorem rs_rst0 (f:Fl) (s:Sg) (a:Option Addr) (l c:Nat) (w:World) (h0:0≤s.flg) (h15:s.flg≤15) (hq0:0≤s.seq) (hq1:s.seq≤4294967295) (hl:s.body.length=l) (hl4:l≤4000) (hh0:0≤f.h0∧f.h0≤4294967295) (hh1:0≤f.h1∧f.h1≤4294967295) (hx:flgB s 4=true) :
  Calls Tryz.prog 60 #[flV f,segV s (.slice a l c),.int .i64 0] w fun e w'=>e = .returned (.tuple #[flV (if strB f s 0=true then strF f s 0 else f),.bool (strB f s 0)])∧Below w.heap.size w w':=by
 have h1:=Fsz.start w f s (.slice a l c)
 unfold fszW at h1
 obtain ⟨W1,hW1⟩:∃ W1,((w.alloc (.cells #[.int .i64 f.key.kind,.int .i64 f.key.src,.int .i64 f.key.frm,.int .i64 f.key.dst,.int .i64 f.key.too,.int .i64 f.st,.int .i64 f.unt,.int .i64 f.stp,.int .i64 f.h0,.int .i64 f.h1,.int .i64 f.w0,.int .i64 f.w1,.bool f.d0,.bool f.d1,.int .i64 f.num] 45)).alloc (.cells #[.int .i64 s.frm,.int .i64 s.too,.int .i64 s.seq,.int .i64 s.ack,.int .i64 s.win,.int .i64 s.flg,.slice a l c] 41)).alloc (.cells #[.int .i64 0,.int .i64 0,.int .i64 0,.int .i64 0,.int .i64 0,.int .i64 0,.int .i64 0,.int .i64 0,.int .i64 0,.int .i64 0,.int .i64 0,.int .i64 0,.bool false,.bool false,.int .i64 0] 45)=W1:=⟨_,rfl⟩
 rw [hW1] at h1
 have k1:=fun W=>refFlag_any s 1 (.slice a l c) W h0 h15 (by omega)
 have k2:=fun W=>refFlag_any s 2 (.slice a l c) W h0 h15 (by omega)
 have k4:=fun W=>refFlag_any s 4 (.slice a l c) W h0 h15 (by omega)
 have k8:=fun W=>refFlag_any s 8 (.slice a l c) W h0 h15 (by omega)
 have ke:=fun W=>refEnd_any s a l c W h0 h15 hq0 hq1 hl hl4
 have er:=endI_range s
 obtain ⟨r,HR⟩:∃ r,Hid (r=strB f s 0):=⟨_,rfl⟩
 rw [← HR.out]
 obtain ⟨q,HQ⟩:∃ q,Hid (q=if r=true then strF f s 0 else f):=⟨_,rfl⟩
 rw [← HQ.out]
 rw [hx] at k4
 have HRS:=hidE (show strB f s 0=rstB f s 0 by unfold strB;rw [if_pos hx])
 have HQS:=hidE (show strF f s 0 = { f with st:=4 } by unfold strF;rw [if_pos hx])
 rw [HRS.out] at HR
 rw [HQS.out] at HQ
 unfold rstB at HR
 have HA:=hidE (show flgB s 8=flgB s 8 from rfl)
 generalize flgB s 8=ack at k8 HR
 generalize flgB s 1=fi at k1
 generalize flgB s 2=sy at k2
 generalize endI s=en at ke er
 clear HA HRS HQS hx er h0 h15 hq0 hq1 hl hl4 hh0 hh1
 unfold flV segV at *
 go_enter Tryz.func60,Tryz.ntmps60
 go_upto_region 1 with fail
 try rw [hW1]
 clear hW1
 go_upto_region 2 with fail
 obtain ⟨c0,c1,c2,c3,c4,c5,c6,c7,c8,c9,c10,c11,c12,c13,c14⟩:=h1.fl.cells
 obtain ⟨s0,s1,s2,s3,s4,s5,s6⟩:=h1.sg.cells
 go_upto_region 3 with (go_at_call 79;go_must (refine (k1 _).mono ?_;rintro e W2 ⟨rfl,b2⟩))
 have h2:=h1.step b2
 clear h1 b2 k1
 clear c0 c1 c2 c3 c4 c5 c6 c7 c8 c9 c10 c11 c12 c13 c14 s0 s1 s2 s3 s4 s5 s6
 obtain ⟨c0,c1,c2,c3,c4,c5,c6,c7,c8,c9,c10,c11,c12,c13,c14⟩:=h2.fl.cells
 obtain ⟨s0,s1,s2,s3,s4,s5,s6⟩:=h2.sg.cells
 go_upto_region 4 with (go_at_call 79;go_must (refine (k2 _).mono ?_;rintro e W3 ⟨rfl,b3⟩))
 have h3:=h2.step b3
 clear h2 b3 k2
 clear c0 c1 c2 c3 c4 c5 c6 c7 c8 c9 c10 c11 c12 c13 c14 s0 s1 s2 s3 s4 s5 s6
 obtain ⟨c0,c1,c2,c3,c4,c5,c6,c7,c8,c9,c10,c11,c12,c13,c14⟩:=h3.fl.cells
 obtain ⟨s0,s1,s2,s3,s4,s5,s6⟩:=h3.sg.cells
 go_upto_region 5 with (go_at_call 79;go_must (refine (k4 _).mono ?_;rintro e W4 ⟨rfl,b4⟩))
 have h4:=h3.step b4
 clear h3 b4 k4
 clear c0 c1 c2 c3 c4 c5 c6 c7 c8 c9 c10 c11 c12 c13 c14 s0 s1 s2 s3 s4 s5 s6
 obtain ⟨c0,c1,c2,c3,c4,c5,c6,c7,c8,c9,c10,c11,c12,c13,c14⟩:=h4.fl.cells
 obtain ⟨s0,s1,s2,s3,s4,s5,s6⟩:=h4.sg.cells
 go_upto_region 6 with (go_at_call 79;go_must (refine (k8 _).mono ?_;rintro e W5 ⟨rfl,b5⟩))
 have h5:=h4.step b5
 clear h4 b5 k8
 clear c0 c1 c2 c3 c4 c5 c6 c7 c8 c9 c10 c11 c12 c13 c14 s0 s1 s2 s3 s4 s5 s6
 obtain ⟨c0,c1,c2,c3,c4,c5,c6,c7,c8,c9,c10,c11,c12,c13,c14⟩:=h5.fl.cells
 obtain ⟨s0,s1,s2,s3,s4,s5,s6⟩:=h5.sg.cells
 go_upto_region 7 with (go_at_call 52;go_must (refine (ke _).mono ?_;rintro e W6 ⟨rfl,b6⟩))
 have h6:=h5.step b6
 clear h5 b6 ke
 clear c0 c1 c2 c3 c4 c5 c6 c7 c8 c9 c10 c11 c12 c13 c14 s0 s1 s2 s3 s4 s5 s6
 have HR:Hid (r=decide (s.seq=f.h0)):=by show r=_;rw [HR.out,if_neg (by omega)];rfl
 obtain ⟨c0,c1,c2,c3,c4,c5,c6,c7,c8,c9,c10,c11,c12,c13,c14⟩:=h6.fl.cells
 obtain ⟨s0,s1,s2,s3,s4,s5,s6⟩:=h6.sg.cells
 go_upto_region 8 with fail
 go_cut [38] (fun v wr=>v = .bool false∧wr=W6)
 case first =>
  by_cases hst:f.st=1
  ·have e1:(f.st == 1)=true:=by simpa using hst
   clear hst
   go_wp2_with fail
   go_meet
   case rel=>exact ⟨rfl,rfl⟩
  ·have e1:(f.st == 1)=false:=by simpa using hst
   clear hst
   go_wp2_with fail
   go_meet
   case rel=>exact ⟨rfl,rfl⟩
 case rest =>
 obtain ⟨rfl,hw⟩:=hcut
 subst hw
 go_upto_region 11 with fail
 go_big_quiet (fail)
 have h7:=h6.drewN nq
 obtain ⟨W7,hW7⟩:∃ W7,World.drewN wc nq=W7:=⟨_,rfl⟩
 rw [hW7] at h7 ⊢
 clear hW7 h6
 clear c0 c1 c2 c3 c4 c5 c6 c7 c8 c9 c10 c11 c12 c13 c14 s0 s1 s2 s3 s4 s5 s6
 by_cases hs:s.seq=f.h0
 ·have e2:(s.seq != f.h0)=false:=by simp [hs]
  have HRF:=hidE (show r=true by rw [HR.out];exact decide_eq_true hs)
  clear hs HR
  obtain rfl:r=true:=HRF.out
  have f5:=h7.fl.free 5
  have e5:=h7.fl.cells.2.2.2.2.2.1
  go_upto_region 14 with fail
  obtain ⟨W9',hW9',h9⟩:=h7.put_st 4
  rw [hW9']
  have HQ2:=hidE (show q = { f with st:=4 } by rw [HQ.out,if_pos rfl])
  rw [← HQ2.out] at h9
  clear hW9' f5 e5 HQ HQ2 HRF h7
  obtain ⟨c0,c1,c2,c3,c4,c5,c6,c7,c8,c9,c10,c11,c12,c13,c14⟩:=h9.fl.cells
  obtain ⟨y0,y1,y2,y3,y4,y5,y6,y7,y8,y9,y10,y11,y12,y13,y14⟩:=h9.rs.frees
  obtain ⟨d0,d1,d2,d3,d4,d5,d6,d7,d8,d9,d10,d11,d12,d13,d14⟩:=h9.rs.cells
  go_wp2_with fail
  obtain ⟨W9,hW9,g9,b9⟩:=h9.fin (q:=q)
  first|rw [hW9]|(simp only at hW9;rw [hW9])
  clear hW9 c0 c1 c2 c3 c4 c5 c6 c7 c8 c9 c10 c11 c12 c13 c14 y0 y1 y2 y3 y4 y5 y6 y7 y8 y9 y10 y11 y12 y13 y14 d0 d1 d2 d3 d4 d5 d6 d7 d8 d9 d10 d11 d12 d13 d14
  obtain ⟨c0,c1,c2,c3,c4,c5,c6,c7,c8,c9,c10,c11,c12,c13,c14⟩:=g9.cells
  exact bodyPost_ret (v:=.tuple #[.agg #[.int .i64 q.key.kind,.int .i64 q.key.src,.int .i64 q.key.frm,.int .i64 q.key.dst,.int .i64 q.key.too,.int .i64 q.st,.int .i64 q.unt,.int .i64 q.stp,.int .i64 q.h0,.int .i64 q.h1,.int .i64 q.w0,.int .i64 q.w1,.bool q.d0,.bool q.d1,.int .i64 q.num],.bool true]) (by simp [results,Tryz.results60,go_sem,c0,c1,c2,c3,c4,c5,c6,c7,c8,c9,c10,c11,c12,c13,c14]) rfl ⟨rfl,b9⟩
 ·have e2:(s.seq != f.h0)=true:=by simpa using hs
  have HRF:=hidE (show r=false by rw [HR.out];exact decide_eq_false hs)
  clear hs HR
  go_upto_region 12 with fail
  obtain rfl:r=false:=HRF.out
  obtain rfl:q=f:=by rw [HQ.out,if_neg (by decide)]
  clear HQ HRF
  obtain ⟨c0,c1,c2,c3,c4,c5,c6,c7,c8,c9,c10,c11,c12,c13,c14⟩:=h7.fl.cells
  obtain ⟨y0,y1,y2,y3,y4,y5,y6,y7,y8,y9,y10,y11,y12,y13,y14⟩:=h7.rs.frees
  obtain ⟨d0,d1,d2,d3,d4,d5,d6,d7,d8,d9,d10,d11,d12,d13,d14⟩:=h7.rs.cells
  go_wp2_with fail
  obtain ⟨W9,hW9,g9,b9⟩:=h7.fin (q:=q)
  first|rw [hW9]|(simp only at hW9;rw [hW9])
  clear hW9 c0 c1 c2 c3 c4 c5 c6 c7 c8 c9 c10 c11 c12 c13 c14 y0 y1 y2 y3 y4 y5 y6 y7 y8 y9 y10 y11 y12 y13 y14 d0 d1 d2 d3 d4 d5 d6 d7 d8 d9 d10 d11 d12 d13 d14
  obtain ⟨c0,c1,c2,c3,c4,c5,c6,c7,c8,c9,c10,c11,c12,c13,c14⟩:=g9.cells
  exact bodyPost_ret (v:=.tuple #[.agg #[.int .i64 q.key.kind,.int .i64 q.key.src,.int .i64 q.key.frm,.int .i64 q.key.dst,.int .i64 q.key.too,.int .i64 q.st,.int .i64 q.unt,.int .i64 q.stp,.int .i64 q.h0,.int .i64 q.h1,.int .i64 q.w0,.int .i64 q.w1,.bool q.d0,.bool q.d1,.int .i64 q.num],.bool false]) (by simp [results,Tryz.results60,go_sem,c0,c1,c2,c3,c4,c5,c6,c7,c8,c9,c10,c11,c12,c13,c14]) rfl ⟨rfl,b9⟩
end Go.Proofs.YtkhheooofcpfdaaGreatDoor
namespace Go.Proofs.YtkhheooofcpfdaaGreatDoor
open Go.RowKit
set_option linter.unusedVariables false
theorem flg_2 {s:Sg} (h0:0≤s.flg) (h15:s.flg≤15) (h4:flgB s 4=false):decide (s.flg=2)=(flgB s 2 && !flgB s 8 && !flgB s 1):=by
 unfold flgB at *
 have h4':=of_decide_eq_false h4
 rw [Bool.eq_iff_iff];simp only [decide_eq_true_eq,Bool.and_eq_true,Bool.not_eq_true',decide_eq_false_iff_not]
 omega
theorem flg_10 {s:Sg} (h0:0≤s.flg) (h15:s.flg≤15) (h4:flgB s 4=false):decide (s.flg=10)=(flgB s 2 && flgB s 8 && !flgB s 1):=by
 unfold flgB at *
 have h4':=of_decide_eq_false h4
 rw [Bool.eq_iff_iff];simp only [decide_eq_true_eq,Bool.and_eq_true,Bool.not_eq_true',decide_eq_false_iff_not]
 omega
set_option maxRecDepth 100000 in
set_option maxHeartbeats 32000000 in
theorem rs_asked0 (f:Fl) (s:Sg) (a:Option Addr) (l c:Nat) (w:World) (h0:0≤s.flg) (h15:s.flg≤15) (hq0:0≤s.seq) (hq1:s.seq≤4294967295) (hl:s.body.length=l) (hl4:l≤4000) (hh0:0≤f.h0∧f.h0≤4294967295) (hh1:0≤f.h1∧f.h1≤4294967295) (hx:flgB s 4=false) (hst:f.st=1) :
  Calls Tryz.prog 60 #[flV f,segV s (.slice a l c),.int .i64 0] w fun e w'=>e = .returned (.tuple #[flV (if strB f s 0=true then strF f s 0 else f),.bool (strB f s 0)])∧Below w.heap.size w w':=by
 have h1:=Fsz.start w f s (.slice a l c)
 unfold fszW at h1
 obtain ⟨W1,hW1⟩:∃ W1,((w.alloc (.cells #[.int .i64 f.key.kind,.int .i64 f.key.src,.int .i64 f.key.frm,.int .i64 f.key.dst,.int .i64 f.key.too,.int .i64 f.st,.int .i64 f.unt,.int .i64 f.stp,.int .i64 f.h0,.int .i64 f.h1,.int .i64 f.w0,.int .i64 f.w1,.bool f.d0,.bool f.d1,.int .i64 f.num] 45)).alloc (.cells #[.int .i64 s.frm,.int .i64 s.too,.int .i64 s.seq,.int .i64 s.ack,.int .i64 s.win,.int .i64 s.flg,.slice a l c] 41)).alloc (.cells #[.int .i64 0,.int .i64 0,.int .i64 0,.int .i64 0,.int .i64 0,.int .i64 0,.int .i64 0,.int .i64 0,.int .i64 0,.int .i64 0,.int .i64 0,.int .i64 0,.bool false,.bool false,.int .i64 0] 45)=W1:=⟨_,rfl⟩
 rw [hW1] at h1
 have k1:=fun W=>refFlag_any s 1 (.slice a l c) W h0 h15 (by omega)
 have k2:=fun W=>refFlag_any s 2 (.slice a l c) W h0 h15 (by omega)
 have k4:=fun W=>refFlag_any s 4 (.slice a l c) W h0 h15 (by omega)
 have k8:=fun W=>refFlag_any s 8 (.slice a l c) W h0 h15 (by omega)
 have ke:=fun W=>refEnd_any s a l c W h0 h15 hq0 hq1 hl hl4
 have er:=endI_range s
 obtain ⟨r,HR⟩:∃ r,Hid (r=strB f s 0):=⟨_,rfl⟩
 rw [← HR.out]
 obtain ⟨q,HQ⟩:∃ q,Hid (q=if r=true then strF f s 0 else f):=⟨_,rfl⟩
 rw [← HQ.out]
 rw [hx] at k4
 have hx':¬ flgB s 4=true:=by rw [hx];decide
 have hs':¬ ¬ f.st=1:=fun h=>h hst
 have HR:Hid (r=((flgB s 2 && !flgB s 8 && !flgB s 1) && decide (endI s=f.h0))):=by
  show r=_
  rw [HR.out,← flg_2 h0 h15 hx,← Bool.decide_and]
  unfold strB
  rw [if_neg hx',if_neg hs',if_pos rfl]
 have HQS:=hidE (show strF f s 0 = { f with w0:=s.win } by unfold strF;rw [if_neg hx',if_neg hs',if_pos rfl])
 rw [HQS.out] at HQ
 have e1:(f.st == 1)=true:=by simpa using hst
 generalize flgB s 8=ack at k8 HR
 generalize flgB s 1=fi at k1 HR
 generalize flgB s 2=sy at k2 HR
 clear HQS
 generalize endI s=en at ke er HR HQ
 clear hx hx' hs' hst er h0 h15 hq0 hq1 hl hl4 hh0 hh1
 unfold flV segV at *
 go_enter Tryz.func60,Tryz.ntmps60
 go_upto_region 1 with fail
 try rw [hW1]
 clear hW1
 go_upto_region 2 with fail
 obtain ⟨c0,c1,c2,c3,c4,c5,c6,c7,c8,c9,c10,c11,c12,c13,c14⟩:=h1.fl.cells
 obtain ⟨s0,s1,s2,s3,s4,s5,s6⟩:=h1.sg.cells
 go_upto_region 3 with (go_at_call 79;go_must (refine (k1 _).mono ?_;rintro e W2 ⟨rfl,b2⟩))
 have h2:=h1.step b2
 clear h1 b2 k1
 clear c0 c1 c2 c3 c4 c5 c6 c7 c8 c9 c10 c11 c12 c13 c14 s0 s1 s2 s3 s4 s5 s6
 obtain ⟨c0,c1,c2,c3,c4,c5,c6,c7,c8,c9,c10,c11,c12,c13,c14⟩:=h2.fl.cells
 obtain ⟨s0,s1,s2,s3,s4,s5,s6⟩:=h2.sg.cells
 go_upto_region 4 with (go_at_call 79;go_must (refine (k2 _).mono ?_;rintro e W3 ⟨rfl,b3⟩))
 have h3:=h2.step b3
 clear h2 b3 k2
 clear c0 c1 c2 c3 c4 c5 c6 c7 c8 c9 c10 c11 c12 c13 c14 s0 s1 s2 s3 s4 s5 s6
 obtain ⟨c0,c1,c2,c3,c4,c5,c6,c7,c8,c9,c10,c11,c12,c13,c14⟩:=h3.fl.cells
 obtain ⟨s0,s1,s2,s3,s4,s5,s6⟩:=h3.sg.cells
 go_upto_region 5 with (go_at_call 79;go_must (refine (k4 _).mono ?_;rintro e W4 ⟨rfl,b4⟩))
 have h4:=h3.step b4
 clear h3 b4 k4
 clear c0 c1 c2 c3 c4 c5 c6 c7 c8 c9 c10 c11 c12 c13 c14 s0 s1 s2 s3 s4 s5 s6
 obtain ⟨c0,c1,c2,c3,c4,c5,c6,c7,c8,c9,c10,c11,c12,c13,c14⟩:=h4.fl.cells
 obtain ⟨s0,s1,s2,s3,s4,s5,s6⟩:=h4.sg.cells
 go_upto_region 6 with (go_at_call 79;go_must (refine (k8 _).mono ?_;rintro e W5 ⟨rfl,b5⟩))
 have h5:=h4.step b5
 clear h4 b5 k8
 clear c0 c1 c2 c3 c4 c5 c6 c7 c8 c9 c10 c11 c12 c13 c14 s0 s1 s2 s3 s4 s5 s6
 obtain ⟨c0,c1,c2,c3,c4,c5,c6,c7,c8,c9,c10,c11,c12,c13,c14⟩:=h5.fl.cells
 obtain ⟨s0,s1,s2,s3,s4,s5,s6⟩:=h5.sg.cells
 go_upto_region 7 with (go_at_call 52;go_must (refine (ke _).mono ?_;rintro e W6 ⟨rfl,b6⟩))
 have h6:=h5.step b6
 clear h5 b6 ke
 clear c0 c1 c2 c3 c4 c5 c6 c7 c8 c9 c10 c11 c12 c13 c14 s0 s1 s2 s3 s4 s5 s6
 obtain ⟨c0,c1,c2,c3,c4,c5,c6,c7,c8,c9,c10,c11,c12,c13,c14⟩:=h6.fl.cells
 obtain ⟨s0,s1,s2,s3,s4,s5,s6⟩:=h6.sg.cells
 go_upto_region 16 with fail
 go_cut [81] (fun v wr=>v = .bool (!r)∧wr=W6)
 case first =>
  rcases sy with _|_
  ·obtain rfl:r=false:=by rw [HR.out];simp
   clear HR
   go_wp2_with fail
   go_meet
   case rel=>exact ⟨rfl,rfl⟩
  rcases ack with _|_
  rotate_left
  ·obtain rfl:r=false:=by rw [HR.out];simp
   clear HR
   go_wp2_with fail
   go_meet
   case rel=>exact ⟨rfl,rfl⟩
  rcases fi with _|_
  rotate_left
  ·obtain rfl:r=false:=by rw [HR.out];simp
   clear HR
   go_wp2_with fail
   go_meet
   case rel=>exact ⟨rfl,rfl⟩
  by_cases he:en=f.h0
  ·obtain rfl:r=true:=by rw [HR.out];simp [he]
   have e2:(en != f.h0)=false:=by simp [he]
   clear HR he
   go_wp2_with fail
   go_meet
   case rel=>exact ⟨rfl,rfl⟩
  ·obtain rfl:r=false:=by rw [HR.out];simp [he]
   have e2:(en != f.h0)=true:=by simpa using he
   clear HR he
   go_wp2_with fail
   go_meet
   case rel=>exact ⟨rfl,rfl⟩
 case rest =>
 obtain ⟨rfl,hw⟩:=hcut
 subst hw
 clear c0 c1 c2 c3 c4 c5 c6 c7 c8 c9 c10 c11 c12 c13 c14 s0 s1 s2 s3 s4 s5 s6
 cases hr:r
 ·have HRF:=hidE hr
  clear hr HR
  go_upto_region 17 with fail
  obtain rfl:r=false:=HRF.out
  obtain rfl:q=f:=by rw [HQ.out,if_neg (by decide)]
  clear HQ HRF
  obtain ⟨c0,c1,c2,c3,c4,c5,c6,c7,c8,c9,c10,c11,c12,c13,c14⟩:=h6.fl.cells
  obtain ⟨y0,y1,y2,y3,y4,y5,y6,y7,y8,y9,y10,y11,y12,y13,y14⟩:=h6.rs.frees
  obtain ⟨d0,d1,d2,d3,d4,d5,d6,d7,d8,d9,d10,d11,d12,d13,d14⟩:=h6.rs.cells
  go_wp2_with fail
  obtain ⟨W9,hW9,g9,b9⟩:=h6.fin (q:=q)
  first|rw [hW9]|(simp only at hW9;rw [hW9])
  clear hW9 c0 c1 c2 c3 c4 c5 c6 c7 c8 c9 c10 c11 c12 c13 c14 y0 y1 y2 y3 y4 y5 y6 y7 y8 y9 y10 y11 y12 y13 y14 d0 d1 d2 d3 d4 d5 d6 d7 d8 d9 d10 d11 d12 d13 d14
  obtain ⟨c0,c1,c2,c3,c4,c5,c6,c7,c8,c9,c10,c11,c12,c13,c14⟩:=g9.cells
  exact bodyPost_ret (v:=.tuple #[.agg #[.int .i64 q.key.kind,.int .i64 q.key.src,.int .i64 q.key.frm,.int .i64 q.key.dst,.int .i64 q.key.too,.int .i64 q.st,.int .i64 q.unt,.int .i64 q.stp,.int .i64 q.h0,.int .i64 q.h1,.int .i64 q.w0,.int .i64 q.w1,.bool q.d0,.bool q.d1,.int .i64 q.num],.bool false]) (by simp [results,Tryz.results60,go_sem,c0,c1,c2,c3,c4,c5,c6,c7,c8,c9,c10,c11,c12,c13,c14]) rfl ⟨rfl,b9⟩
 ·have HRF:=hidE hr
  clear hr HR
  obtain ⟨c0,c1,c2,c3,c4,c5,c6,c7,c8,c9,c10,c11,c12,c13,c14⟩:=h6.fl.cells
  obtain ⟨s0,s1,s2,s3,s4,s5,s6⟩:=h6.sg.cells
  have f10:=h6.fl.free 10
  go_upto_region 19 with fail
  obtain ⟨W9',hW9',h9⟩:=h6.put_w0 s.win
  rw [hW9']
  have HQ2:=hidE (show q = { f with w0:=s.win } by rw [HQ.out,HRF.out,if_pos rfl])
  first|rw [← HQ2.out] at h9|(simp only at h9;rw [← HQ2.out] at h9)
  have HRT:=HRF.out
  subst HRT
  clear hW9' HQ HQ2 HRF f10 h6
  clear c0 c1 c2 c3 c4 c5 c6 c7 c8 c9 c10 c11 c12 c13 c14 s0 s1 s2 s3 s4 s5 s6
  obtain ⟨c0,c1,c2,c3,c4,c5,c6,c7,c8,c9,c10,c11,c12,c13,c14⟩:=h9.fl.cells
  obtain ⟨y0,y1,y2,y3,y4,y5,y6,y7,y8,y9,y10,y11,y12,y13,y14⟩:=h9.rs.frees
  obtain ⟨d0,d1,d2,d3,d4,d5,d6,d7,d8,d9,d10,d11,d12,d13,d14⟩:=h9.rs.cells
  go_wp2_with fail
  obtain ⟨W9,hW9,g9,b9⟩:=h9.fin (q:=q)
  first|rw [hW9]|(simp only at hW9;rw [hW9])
  clear hW9 c0 c1 c2 c3 c4 c5 c6 c7 c8 c9 c10 c11 c12 c13 c14 y0 y1 y2 y3 y4 y5 y6 y7 y8 y9 y10 y11 y12 y13 y14 d0 d1 d2 d3 d4 d5 d6 d7 d8 d9 d10 d11 d12 d13 d14
  obtain ⟨c0,c1,c2,c3,c4,c5,c6,c7,c8,c9,c10,c11,c12,c13,c14⟩:=g9.cells
  exact bodyPost_ret (v:=.tuple #[.agg #[.int .i64 q.key.kind,.int .i64 q.key.src,.int .i64 q.key.frm,.int .i64 q.key.dst,.int .i64 q.key.too,.int .i64 q.st,.int .i64 q.unt,.int .i64 q.stp,.int .i64 q.h0,.int .i64 q.h1,.int .i64 q.w0,.int .i64 q.w1,.bool q.d0,.bool q.d1,.int .i64 q.num],.bool true]) (by simp [results,Tryz.results60,go_sem,c0,c1,c2,c3,c4,c5,c6,c7,c8,c9,c10,c11,c12,c13,c14]) rfl ⟨rfl,b9⟩
end Go.Proofs.YtkhheooofcpfdaaGreatDoor
namespace Go.Proofs.YtkhheooofcpfdaaGreatDoor
open Go.RowKit
set_option linter.unusedVariables false
set_option maxRecDepth 100000 in
set_option maxHeartbeats 32000000 in
theorem rs_rst1a (f:Fl) (s:Sg) (a:Option Addr) (l c:Nat) (w:World) (h0:0≤s.flg) (h15:s.flg≤15) (hq0:0≤s.seq) (hq1:s.seq≤4294967295) (hl:s.body.length=l) (hl4:l≤4000) (hh0:0≤f.h0∧f.h0≤4294967295) (hh1:0≤f.h1∧f.h1≤4294967295) (hx:flgB s 4=true) (hst:f.st=1) :
  Calls Tryz.prog 60 #[flV f,segV s (.slice a l c),.int .i64 1] w fun e w'=>e = .returned (.tuple #[flV (if strB f s 1=true then strF f s 1 else f),.bool (strB f s 1)])∧Below w.heap.size w w':=by
 have h1:=Fsz.start w f s (.slice a l c)
 unfold fszW at h1
 obtain ⟨W1,hW1⟩:∃ W1,((w.alloc (.cells #[.int .i64 f.key.kind,.int .i64 f.key.src,.int .i64 f.key.frm,.int .i64 f.key.dst,.int .i64 f.key.too,.int .i64 f.st,.int .i64 f.unt,.int .i64 f.stp,.int .i64 f.h0,.int .i64 f.h1,.int .i64 f.w0,.int .i64 f.w1,.bool f.d0,.bool f.d1,.int .i64 f.num] 45)).alloc (.cells #[.int .i64 s.frm,.int .i64 s.too,.int .i64 s.seq,.int .i64 s.ack,.int .i64 s.win,.int .i64 s.flg,.slice a l c] 41)).alloc (.cells #[.int .i64 0,.int .i64 0,.int .i64 0,.int .i64 0,.int .i64 0,.int .i64 0,.int .i64 0,.int .i64 0,.int .i64 0,.int .i64 0,.int .i64 0,.int .i64 0,.bool false,.bool false,.int .i64 0] 45)=W1:=⟨_,rfl⟩
 rw [hW1] at h1
 have k1:=fun W=>refFlag_any s 1 (.slice a l c) W h0 h15 (by omega)
 have k2:=fun W=>refFlag_any s 2 (.slice a l c) W h0 h15 (by omega)
 have k4:=fun W=>refFlag_any s 4 (.slice a l c) W h0 h15 (by omega)
 have k8:=fun W=>refFlag_any s 8 (.slice a l c) W h0 h15 (by omega)
 have ke:=fun W=>refEnd_any s a l c W h0 h15 hq0 hq1 hl hl4
 have er:=endI_range s
 obtain ⟨r,HR⟩:∃ r,Hid (r=strB f s 1):=⟨_,rfl⟩
 rw [← HR.out]
 obtain ⟨q,HQ⟩:∃ q,Hid (q=if r=true then strF f s 1 else f):=⟨_,rfl⟩
 rw [← HQ.out]
 rw [hx] at k4
 have HRS:=hidE (show strB f s 1=rstB f s 1 by unfold strB;rw [if_pos hx])
 have HQS:=hidE (show strF f s 1 = { f with st:=4 } by unfold strF;rw [if_pos hx])
 rw [HRS.out] at HR
 rw [HQS.out] at HQ
 unfold rstB at HR
 have HA:=hidE (show flgB s 8=flgB s 8 from rfl)
 generalize flgB s 8=ack at k8 HR
 generalize flgB s 1=fi at k1
 generalize flgB s 2=sy at k2
 generalize endI s=en at ke er
 clear HA HRS HQS hx er h0 h15 hq0 hq1 hl hl4 hh0 hh1
 have HST:=hidE hst
 clear hst
 unfold flV segV at *
 go_enter Tryz.func60,Tryz.ntmps60
 go_upto_region 1 with fail
 try rw [hW1]
 clear hW1
 go_upto_region 2 with fail
 obtain ⟨c0,c1,c2,c3,c4,c5,c6,c7,c8,c9,c10,c11,c12,c13,c14⟩:=h1.fl.cells
 obtain ⟨s0,s1,s2,s3,s4,s5,s6⟩:=h1.sg.cells
 go_upto_region 3 with (go_at_call 79;go_must (refine (k1 _).mono ?_;rintro e W2 ⟨rfl,b2⟩))
 have h2:=h1.step b2
 clear h1 b2 k1
 clear c0 c1 c2 c3 c4 c5 c6 c7 c8 c9 c10 c11 c12 c13 c14 s0 s1 s2 s3 s4 s5 s6
 obtain ⟨c0,c1,c2,c3,c4,c5,c6,c7,c8,c9,c10,c11,c12,c13,c14⟩:=h2.fl.cells
 obtain ⟨s0,s1,s2,s3,s4,s5,s6⟩:=h2.sg.cells
 go_upto_region 4 with (go_at_call 79;go_must (refine (k2 _).mono ?_;rintro e W3 ⟨rfl,b3⟩))
 have h3:=h2.step b3
 clear h2 b3 k2
 clear c0 c1 c2 c3 c4 c5 c6 c7 c8 c9 c10 c11 c12 c13 c14 s0 s1 s2 s3 s4 s5 s6
 obtain ⟨c0,c1,c2,c3,c4,c5,c6,c7,c8,c9,c10,c11,c12,c13,c14⟩:=h3.fl.cells
 obtain ⟨s0,s1,s2,s3,s4,s5,s6⟩:=h3.sg.cells
 go_upto_region 5 with (go_at_call 79;go_must (refine (k4 _).mono ?_;rintro e W4 ⟨rfl,b4⟩))
 have h4:=h3.step b4
 clear h3 b4 k4
 clear c0 c1 c2 c3 c4 c5 c6 c7 c8 c9 c10 c11 c12 c13 c14 s0 s1 s2 s3 s4 s5 s6
 obtain ⟨c0,c1,c2,c3,c4,c5,c6,c7,c8,c9,c10,c11,c12,c13,c14⟩:=h4.fl.cells
 obtain ⟨s0,s1,s2,s3,s4,s5,s6⟩:=h4.sg.cells
 go_upto_region 6 with (go_at_call 79;go_must (refine (k8 _).mono ?_;rintro e W5 ⟨rfl,b5⟩))
 have h5:=h4.step b5
 clear h4 b5 k8
 clear c0 c1 c2 c3 c4 c5 c6 c7 c8 c9 c10 c11 c12 c13 c14 s0 s1 s2 s3 s4 s5 s6
 obtain ⟨c0,c1,c2,c3,c4,c5,c6,c7,c8,c9,c10,c11,c12,c13,c14⟩:=h5.fl.cells
 obtain ⟨s0,s1,s2,s3,s4,s5,s6⟩:=h5.sg.cells
 go_upto_region 7 with (go_at_call 52;go_must (refine (ke _).mono ?_;rintro e W6 ⟨rfl,b6⟩))
 have h6:=h5.step b6
 clear h5 b6 ke
 clear c0 c1 c2 c3 c4 c5 c6 c7 c8 c9 c10 c11 c12 c13 c14 s0 s1 s2 s3 s4 s5 s6
 have hst:=HST.out
 have e1:(f.st == 1)=true:=by simpa using hst
 have HR:Hid (r=(ack && decide (s.ack=f.h0))):=by show r=_;rw [HR.out,if_pos ⟨hst,(by first|rfl|trivial)⟩]
 clear hst
 obtain ⟨c0,c1,c2,c3,c4,c5,c6,c7,c8,c9,c10,c11,c12,c13,c14⟩:=h6.fl.cells
 obtain ⟨s0,s1,s2,s3,s4,s5,s6⟩:=h6.sg.cells
 go_upto_region 9 with fail
 go_cut [48] (fun v wr=>v = .bool (!r)∧wr=W6)
 case first =>
  rcases ack with _|_
  ·obtain rfl:r=false:=by simpa using HR.out
   clear HR
   go_wp2_with fail
   go_meet
   case rel=>exact ⟨rfl,rfl⟩
  ·by_cases ha:s.ack=f.h0
   ·obtain rfl:r=true:=by rw [HR.out];simp [ha]
    have e2:(s.ack != f.h0)=false:=by simp [ha]
    clear HR ha
    go_wp2_with fail
    go_meet
    case rel=>exact ⟨rfl,rfl⟩
   ·obtain rfl:r=false:=by rw [HR.out];simp [ha]
    have e2:(s.ack != f.h0)=true:=by simpa using ha
    clear HR ha
    go_wp2_with fail
    go_meet
    case rel=>exact ⟨rfl,rfl⟩
 case rest =>
 obtain ⟨rfl,hw⟩:=hcut
 subst hw
 clear c0 c1 c2 c3 c4 c5 c6 c7 c8 c9 c10 c11 c12 c13 c14 s0 s1 s2 s3 s4 s5 s6
 cases hr:r
 ·have HRF:=hidE hr
  clear hr HR
  go_upto_region 10 with fail
  obtain rfl:r=false:=HRF.out
  obtain rfl:q=f:=by rw [HQ.out,if_neg (by decide)]
  clear HQ HRF
  obtain ⟨c0,c1,c2,c3,c4,c5,c6,c7,c8,c9,c10,c11,c12,c13,c14⟩:=h6.fl.cells
  obtain ⟨y0,y1,y2,y3,y4,y5,y6,y7,y8,y9,y10,y11,y12,y13,y14⟩:=h6.rs.frees
  obtain ⟨d0,d1,d2,d3,d4,d5,d6,d7,d8,d9,d10,d11,d12,d13,d14⟩:=h6.rs.cells
  go_wp2_with fail
  obtain ⟨W9,hW9,g9,b9⟩:=h6.fin (q:=q)
  first|rw [hW9]|(simp only at hW9;rw [hW9])
  clear hW9 c0 c1 c2 c3 c4 c5 c6 c7 c8 c9 c10 c11 c12 c13 c14 y0 y1 y2 y3 y4 y5 y6 y7 y8 y9 y10 y11 y12 y13 y14 d0 d1 d2 d3 d4 d5 d6 d7 d8 d9 d10 d11 d12 d13 d14
  obtain ⟨c0,c1,c2,c3,c4,c5,c6,c7,c8,c9,c10,c11,c12,c13,c14⟩:=g9.cells
  exact bodyPost_ret (v:=.tuple #[.agg #[.int .i64 q.key.kind,.int .i64 q.key.src,.int .i64 q.key.frm,.int .i64 q.key.dst,.int .i64 q.key.too,.int .i64 q.st,.int .i64 q.unt,.int .i64 q.stp,.int .i64 q.h0,.int .i64 q.h1,.int .i64 q.w0,.int .i64 q.w1,.bool q.d0,.bool q.d1,.int .i64 q.num],.bool false]) (by simp [results,Tryz.results60,go_sem,c0,c1,c2,c3,c4,c5,c6,c7,c8,c9,c10,c11,c12,c13,c14]) rfl ⟨rfl,b9⟩
 ·have HRF:=hidE hr
  clear hr HR
  obtain rfl:r=true:=HRF.out
  have f5:=h6.fl.free 5
  have e5:=h6.fl.cells.2.2.2.2.2.1
  go_upto_region 14 with fail
  obtain ⟨W9',hW9',h9⟩:=h6.put_st 4
  rw [hW9']
  have HQ2:=hidE (show q = { f with st:=4 } by rw [HQ.out,if_pos rfl])
  rw [← HQ2.out] at h9
  clear hW9' f5 e5 HQ HQ2 HRF h6
  obtain ⟨c0,c1,c2,c3,c4,c5,c6,c7,c8,c9,c10,c11,c12,c13,c14⟩:=h9.fl.cells
  obtain ⟨y0,y1,y2,y3,y4,y5,y6,y7,y8,y9,y10,y11,y12,y13,y14⟩:=h9.rs.frees
  obtain ⟨d0,d1,d2,d3,d4,d5,d6,d7,d8,d9,d10,d11,d12,d13,d14⟩:=h9.rs.cells
  go_wp2_with fail
  obtain ⟨W9,hW9,g9,b9⟩:=h9.fin (q:=q)
  first|rw [hW9]|(simp only at hW9;rw [hW9])
  clear hW9 c0 c1 c2 c3 c4 c5 c6 c7 c8 c9 c10 c11 c12 c13 c14 y0 y1 y2 y3 y4 y5 y6 y7 y8 y9 y10 y11 y12 y13 y14 d0 d1 d2 d3 d4 d5 d6 d7 d8 d9 d10 d11 d12 d13 d14
  obtain ⟨c0,c1,c2,c3,c4,c5,c6,c7,c8,c9,c10,c11,c12,c13,c14⟩:=g9.cells
  exact bodyPost_ret (v:=.tuple #[.agg #[.int .i64 q.key.kind,.int .i64 q.key.src,.int .i64 q.key.frm,.int .i64 q.key.dst,.int .i64 q.key.too,.int .i64 q.st,.int .i64 q.unt,.int .i64 q.stp,.int .i64 q.h0,.int .i64 q.h1,.int .i64 q.w0,.int .i64 q.w1,.bool q.d0,.bool q.d1,.int .i64 q.num],.bool true]) (by simp [results,Tryz.results60,go_sem,c0,c1,c2,c3,c4,c5,c6,c7,c8,c9,c10,c11,c12,c13,c14]) rfl ⟨rfl,b9⟩
end Go.Proofs.YtkhheooofcpfdaaGreatDoor
namespace Go.Proofs.YtkhheooofcpfdaaGreatDoor
open Go.RowKit
set_option linter.unusedVariables false
set_option maxRecDepth 100000 in
set_option maxHeartbeats 32000000 in
theorem rs_rst1b (f:Fl) (s:Sg) (a:Option Addr) (l c:Nat) (w:World) (h0:0≤s.flg) (h15:s.flg≤15) (hq0:0≤s.seq) (hq1:s.seq≤4294967295) (hl:s.body.length=l) (hl4:l≤4000) (hh0:0≤f.h0∧f.h0≤4294967295) (hh1:0≤f.h1∧f.h1≤4294967295) (hx:flgB s 4=true) (hst:¬ f.st=1) :
  Calls Tryz.prog 60 #[flV f,segV s (.slice a l c),.int .i64 1] w fun e w'=>e = .returned (.tuple #[flV (if strB f s 1=true then strF f s 1 else f),.bool (strB f s 1)])∧Below w.heap.size w w':=by
 have h1:=Fsz.start w f s (.slice a l c)
 unfold fszW at h1
 obtain ⟨W1,hW1⟩:∃ W1,((w.alloc (.cells #[.int .i64 f.key.kind,.int .i64 f.key.src,.int .i64 f.key.frm,.int .i64 f.key.dst,.int .i64 f.key.too,.int .i64 f.st,.int .i64 f.unt,.int .i64 f.stp,.int .i64 f.h0,.int .i64 f.h1,.int .i64 f.w0,.int .i64 f.w1,.bool f.d0,.bool f.d1,.int .i64 f.num] 45)).alloc (.cells #[.int .i64 s.frm,.int .i64 s.too,.int .i64 s.seq,.int .i64 s.ack,.int .i64 s.win,.int .i64 s.flg,.slice a l c] 41)).alloc (.cells #[.int .i64 0,.int .i64 0,.int .i64 0,.int .i64 0,.int .i64 0,.int .i64 0,.int .i64 0,.int .i64 0,.int .i64 0,.int .i64 0,.int .i64 0,.int .i64 0,.bool false,.bool false,.int .i64 0] 45)=W1:=⟨_,rfl⟩
 rw [hW1] at h1
 have k1:=fun W=>refFlag_any s 1 (.slice a l c) W h0 h15 (by omega)
 have k2:=fun W=>refFlag_any s 2 (.slice a l c) W h0 h15 (by omega)
 have k4:=fun W=>refFlag_any s 4 (.slice a l c) W h0 h15 (by omega)
 have k8:=fun W=>refFlag_any s 8 (.slice a l c) W h0 h15 (by omega)
 have ke:=fun W=>refEnd_any s a l c W h0 h15 hq0 hq1 hl hl4
 have er:=endI_range s
 obtain ⟨r,HR⟩:∃ r,Hid (r=strB f s 1):=⟨_,rfl⟩
 rw [← HR.out]
 obtain ⟨q,HQ⟩:∃ q,Hid (q=if r=true then strF f s 1 else f):=⟨_,rfl⟩
 rw [← HQ.out]
 rw [hx] at k4
 have HRS:=hidE (show strB f s 1=rstB f s 1 by unfold strB;rw [if_pos hx])
 have HQS:=hidE (show strF f s 1 = { f with st:=4 } by unfold strF;rw [if_pos hx])
 rw [HRS.out] at HR
 rw [HQS.out] at HQ
 unfold rstB at HR
 have HA:=hidE (show flgB s 8=flgB s 8 from rfl)
 generalize flgB s 8=ack at k8 HR
 generalize flgB s 1=fi at k1
 generalize flgB s 2=sy at k2
 generalize endI s=en at ke er
 clear HA HRS HQS hx er h0 h15 hq0 hq1 hl hl4 hh0 hh1
 unfold flV segV at *
 go_enter Tryz.func60,Tryz.ntmps60
 go_upto_region 1 with fail
 try rw [hW1]
 clear hW1
 go_upto_region 2 with fail
 obtain ⟨c0,c1,c2,c3,c4,c5,c6,c7,c8,c9,c10,c11,c12,c13,c14⟩:=h1.fl.cells
 obtain ⟨s0,s1,s2,s3,s4,s5,s6⟩:=h1.sg.cells
 go_upto_region 3 with (go_at_call 79;go_must (refine (k1 _).mono ?_;rintro e W2 ⟨rfl,b2⟩))
 have h2:=h1.step b2
 clear h1 b2 k1
 clear c0 c1 c2 c3 c4 c5 c6 c7 c8 c9 c10 c11 c12 c13 c14 s0 s1 s2 s3 s4 s5 s6
 obtain ⟨c0,c1,c2,c3,c4,c5,c6,c7,c8,c9,c10,c11,c12,c13,c14⟩:=h2.fl.cells
 obtain ⟨s0,s1,s2,s3,s4,s5,s6⟩:=h2.sg.cells
 go_upto_region 4 with (go_at_call 79;go_must (refine (k2 _).mono ?_;rintro e W3 ⟨rfl,b3⟩))
 have h3:=h2.step b3
 clear h2 b3 k2
 clear c0 c1 c2 c3 c4 c5 c6 c7 c8 c9 c10 c11 c12 c13 c14 s0 s1 s2 s3 s4 s5 s6
 obtain ⟨c0,c1,c2,c3,c4,c5,c6,c7,c8,c9,c10,c11,c12,c13,c14⟩:=h3.fl.cells
 obtain ⟨s0,s1,s2,s3,s4,s5,s6⟩:=h3.sg.cells
 go_upto_region 5 with (go_at_call 79;go_must (refine (k4 _).mono ?_;rintro e W4 ⟨rfl,b4⟩))
 have h4:=h3.step b4
 clear h3 b4 k4
 clear c0 c1 c2 c3 c4 c5 c6 c7 c8 c9 c10 c11 c12 c13 c14 s0 s1 s2 s3 s4 s5 s6
 obtain ⟨c0,c1,c2,c3,c4,c5,c6,c7,c8,c9,c10,c11,c12,c13,c14⟩:=h4.fl.cells
 obtain ⟨s0,s1,s2,s3,s4,s5,s6⟩:=h4.sg.cells
 go_upto_region 6 with (go_at_call 79;go_must (refine (k8 _).mono ?_;rintro e W5 ⟨rfl,b5⟩))
 have h5:=h4.step b5
 clear h4 b5 k8
 clear c0 c1 c2 c3 c4 c5 c6 c7 c8 c9 c10 c11 c12 c13 c14 s0 s1 s2 s3 s4 s5 s6
 obtain ⟨c0,c1,c2,c3,c4,c5,c6,c7,c8,c9,c10,c11,c12,c13,c14⟩:=h5.fl.cells
 obtain ⟨s0,s1,s2,s3,s4,s5,s6⟩:=h5.sg.cells
 go_upto_region 7 with (go_at_call 52;go_must (refine (ke _).mono ?_;rintro e W6 ⟨rfl,b6⟩))
 have h6:=h5.step b6
 clear h5 b6 ke
 clear c0 c1 c2 c3 c4 c5 c6 c7 c8 c9 c10 c11 c12 c13 c14 s0 s1 s2 s3 s4 s5 s6
 have HR:Hid (r=decide (s.seq=f.h1)):=by show r=_;rw [HR.out,if_neg (fun h=>hst h.1)];rfl
 have e1:(f.st == 1)=false:=by simpa using hst
 clear hst
 obtain ⟨c0,c1,c2,c3,c4,c5,c6,c7,c8,c9,c10,c11,c12,c13,c14⟩:=h6.fl.cells
 obtain ⟨s0,s1,s2,s3,s4,s5,s6⟩:=h6.sg.cells
 go_upto_region 11 with fail
 go_big_quiet (fail)
 have h7:=h6.drewN nq
 obtain ⟨W7,hW7⟩:∃ W7,World.drewN W6 nq=W7:=⟨_,rfl⟩
 rw [hW7] at h7 ⊢
 clear hW7 h6
 clear c0 c1 c2 c3 c4 c5 c6 c7 c8 c9 c10 c11 c12 c13 c14 s0 s1 s2 s3 s4 s5 s6
 by_cases hs:s.seq=f.h1
 ·have e2:(s.seq != f.h1)=false:=by simp [hs]
  have HRF:=hidE (show r=true by rw [HR.out];exact decide_eq_true hs)
  clear hs HR
  obtain rfl:r=true:=HRF.out
  have f5:=h7.fl.free 5
  have e5:=h7.fl.cells.2.2.2.2.2.1
  go_upto_region 14 with fail
  obtain ⟨W9',hW9',h9⟩:=h7.put_st 4
  rw [hW9']
  have HQ2:=hidE (show q = { f with st:=4 } by rw [HQ.out,if_pos rfl])
  rw [← HQ2.out] at h9
  clear hW9' f5 e5 HQ HQ2 HRF h7
  obtain ⟨c0,c1,c2,c3,c4,c5,c6,c7,c8,c9,c10,c11,c12,c13,c14⟩:=h9.fl.cells
  obtain ⟨y0,y1,y2,y3,y4,y5,y6,y7,y8,y9,y10,y11,y12,y13,y14⟩:=h9.rs.frees
  obtain ⟨d0,d1,d2,d3,d4,d5,d6,d7,d8,d9,d10,d11,d12,d13,d14⟩:=h9.rs.cells
  go_wp2_with fail
  obtain ⟨W9,hW9,g9,b9⟩:=h9.fin (q:=q)
  first|rw [hW9]|(simp only at hW9;rw [hW9])
  clear hW9 c0 c1 c2 c3 c4 c5 c6 c7 c8 c9 c10 c11 c12 c13 c14 y0 y1 y2 y3 y4 y5 y6 y7 y8 y9 y10 y11 y12 y13 y14 d0 d1 d2 d3 d4 d5 d6 d7 d8 d9 d10 d11 d12 d13 d14
  obtain ⟨c0,c1,c2,c3,c4,c5,c6,c7,c8,c9,c10,c11,c12,c13,c14⟩:=g9.cells
  exact bodyPost_ret (v:=.tuple #[.agg #[.int .i64 q.key.kind,.int .i64 q.key.src,.int .i64 q.key.frm,.int .i64 q.key.dst,.int .i64 q.key.too,.int .i64 q.st,.int .i64 q.unt,.int .i64 q.stp,.int .i64 q.h0,.int .i64 q.h1,.int .i64 q.w0,.int .i64 q.w1,.bool q.d0,.bool q.d1,.int .i64 q.num],.bool true]) (by simp [results,Tryz.results60,go_sem,c0,c1,c2,c3,c4,c5,c6,c7,c8,c9,c10,c11,c12,c13,c14]) rfl ⟨rfl,b9⟩
 ·have e2:(s.seq != f.h1)=true:=by simpa using hs
  have HRF:=hidE (show r=false by rw [HR.out];exact decide_eq_false hs)
  clear hs HR
  go_upto_region 12 with fail
  obtain rfl:r=false:=HRF.out
  obtain rfl:q=f:=by rw [HQ.out,if_neg (by decide)]
  clear HQ HRF
  obtain ⟨c0,c1,c2,c3,c4,c5,c6,c7,c8,c9,c10,c11,c12,c13,c14⟩:=h7.fl.cells
  obtain ⟨y0,y1,y2,y3,y4,y5,y6,y7,y8,y9,y10,y11,y12,y13,y14⟩:=h7.rs.frees
  obtain ⟨d0,d1,d2,d3,d4,d5,d6,d7,d8,d9,d10,d11,d12,d13,d14⟩:=h7.rs.cells
  go_wp2_with fail
  obtain ⟨W9,hW9,g9,b9⟩:=h7.fin (q:=q)
  first|rw [hW9]|(simp only at hW9;rw [hW9])
  clear hW9 c0 c1 c2 c3 c4 c5 c6 c7 c8 c9 c10 c11 c12 c13 c14 y0 y1 y2 y3 y4 y5 y6 y7 y8 y9 y10 y11 y12 y13 y14 d0 d1 d2 d3 d4 d5 d6 d7 d8 d9 d10 d11 d12 d13 d14
  obtain ⟨c0,c1,c2,c3,c4,c5,c6,c7,c8,c9,c10,c11,c12,c13,c14⟩:=g9.cells
  exact bodyPost_ret (v:=.tuple #[.agg #[.int .i64 q.key.kind,.int .i64 q.key.src,.int .i64 q.key.frm,.int .i64 q.key.dst,.int .i64 q.key.too,.int .i64 q.st,.int .i64 q.unt,.int .i64 q.stp,.int .i64 q.h0,.int .i64 q.h1,.int .i64 q.w0,.int .i64 q.w1,.bool q.d0,.bool q.d1,.int .i64 q.num],.bool false]) (by simp [results,Tryz.results60,go_sem,c0,c1,c2,c3,c4,c5,c6,c7,c8,c9,c10,c11,c12,c13,c14]) rfl ⟨rfl,b9⟩
end Go.Proofs.YtkhheooofcpfdaaGreatDoor
namespace Go.Proofs.YtkhheooofcpfdaaGreatDoor
open Go.RowKit
set_option linter.unusedVariables false
set_option maxRecDepth 100000 in
set_option maxHeartbeats 32000000 in
theorem rs_asked1 (f:Fl) (s:Sg) (a:Option Addr) (l c:Nat) (w:World) (h0:0≤s.flg) (h15:s.flg≤15) (hq0:0≤s.seq) (hq1:s.seq≤4294967295) (hl:s.body.length=l) (hl4:l≤4000) (hh0:0≤f.h0∧f.h0≤4294967295) (hh1:0≤f.h1∧f.h1≤4294967295) (hx:flgB s 4=false) (hst:f.st=1) :
  Calls Tryz.prog 60 #[flV f,segV s (.slice a l c),.int .i64 1] w fun e w'=>e = .returned (.tuple #[flV (if strB f s 1=true then strF f s 1 else f),.bool (strB f s 1)])∧Below w.heap.size w w':=by
 have h1:=Fsz.start w f s (.slice a l c)
 unfold fszW at h1
 obtain ⟨W1,hW1⟩:∃ W1,((w.alloc (.cells #[.int .i64 f.key.kind,.int .i64 f.key.src,.int .i64 f.key.frm,.int .i64 f.key.dst,.int .i64 f.key.too,.int .i64 f.st,.int .i64 f.unt,.int .i64 f.stp,.int .i64 f.h0,.int .i64 f.h1,.int .i64 f.w0,.int .i64 f.w1,.bool f.d0,.bool f.d1,.int .i64 f.num] 45)).alloc (.cells #[.int .i64 s.frm,.int .i64 s.too,.int .i64 s.seq,.int .i64 s.ack,.int .i64 s.win,.int .i64 s.flg,.slice a l c] 41)).alloc (.cells #[.int .i64 0,.int .i64 0,.int .i64 0,.int .i64 0,.int .i64 0,.int .i64 0,.int .i64 0,.int .i64 0,.int .i64 0,.int .i64 0,.int .i64 0,.int .i64 0,.bool false,.bool false,.int .i64 0] 45)=W1:=⟨_,rfl⟩
 rw [hW1] at h1
 have k1:=fun W=>refFlag_any s 1 (.slice a l c) W h0 h15 (by omega)
 have k2:=fun W=>refFlag_any s 2 (.slice a l c) W h0 h15 (by omega)
 have k4:=fun W=>refFlag_any s 4 (.slice a l c) W h0 h15 (by omega)
 have k8:=fun W=>refFlag_any s 8 (.slice a l c) W h0 h15 (by omega)
 have ke:=fun W=>refEnd_any s a l c W h0 h15 hq0 hq1 hl hl4
 have er:=endI_range s
 obtain ⟨r,HR⟩:∃ r,Hid (r=strB f s 1):=⟨_,rfl⟩
 rw [← HR.out]
 obtain ⟨q,HQ⟩:∃ q,Hid (q=if r=true then strF f s 1 else f):=⟨_,rfl⟩
 rw [← HQ.out]
 rw [hx] at k4
 have hx':¬ flgB s 4=true:=by rw [hx];decide
 have hs':¬ ¬ f.st=1:=fun h=>h hst
 have HR:Hid (r=((flgB s 2 && flgB s 8 && !flgB s 1) && decide (s.ack=f.h0))):=by
  show r=_
  rw [HR.out,← flg_10 h0 h15 hx,← Bool.decide_and]
  unfold strB
  rw [if_neg hx',if_neg hs',if_neg (by decide)]
 have HQS:=hidE (show strF f s 1 = { f with st:=2,h1:=endI s,w1:=s.win } by unfold strF;rw [if_neg hx',if_neg hs',if_neg (by decide)])
 rw [HQS.out] at HQ
 have e1:(f.st == 1)=true:=by simpa using hst
 generalize flgB s 8=ack at k8 HR
 generalize flgB s 1=fi at k1 HR
 generalize flgB s 2=sy at k2 HR
 clear HQS
 generalize endI s=en at ke er HQ
 clear hx hx' hs' hst er h0 h15 hq0 hq1 hl hl4 hh0 hh1
 unfold flV segV at *
 go_enter Tryz.func60,Tryz.ntmps60
 go_upto_region 1 with fail
 try rw [hW1]
 clear hW1
 go_upto_region 2 with fail
 obtain ⟨c0,c1,c2,c3,c4,c5,c6,c7,c8,c9,c10,c11,c12,c13,c14⟩:=h1.fl.cells
 obtain ⟨s0,s1,s2,s3,s4,s5,s6⟩:=h1.sg.cells
 go_upto_region 3 with (go_at_call 79;go_must (refine (k1 _).mono ?_;rintro e W2 ⟨rfl,b2⟩))
 have h2:=h1.step b2
 clear h1 b2 k1
 clear c0 c1 c2 c3 c4 c5 c6 c7 c8 c9 c10 c11 c12 c13 c14 s0 s1 s2 s3 s4 s5 s6
 obtain ⟨c0,c1,c2,c3,c4,c5,c6,c7,c8,c9,c10,c11,c12,c13,c14⟩:=h2.fl.cells
 obtain ⟨s0,s1,s2,s3,s4,s5,s6⟩:=h2.sg.cells
 go_upto_region 4 with (go_at_call 79;go_must (refine (k2 _).mono ?_;rintro e W3 ⟨rfl,b3⟩))
 have h3:=h2.step b3
 clear h2 b3 k2
 clear c0 c1 c2 c3 c4 c5 c6 c7 c8 c9 c10 c11 c12 c13 c14 s0 s1 s2 s3 s4 s5 s6
 obtain ⟨c0,c1,c2,c3,c4,c5,c6,c7,c8,c9,c10,c11,c12,c13,c14⟩:=h3.fl.cells
 obtain ⟨s0,s1,s2,s3,s4,s5,s6⟩:=h3.sg.cells
 go_upto_region 5 with (go_at_call 79;go_must (refine (k4 _).mono ?_;rintro e W4 ⟨rfl,b4⟩))
 have h4:=h3.step b4
 clear h3 b4 k4
 clear c0 c1 c2 c3 c4 c5 c6 c7 c8 c9 c10 c11 c12 c13 c14 s0 s1 s2 s3 s4 s5 s6
 obtain ⟨c0,c1,c2,c3,c4,c5,c6,c7,c8,c9,c10,c11,c12,c13,c14⟩:=h4.fl.cells
 obtain ⟨s0,s1,s2,s3,s4,s5,s6⟩:=h4.sg.cells
 go_upto_region 6 with (go_at_call 79;go_must (refine (k8 _).mono ?_;rintro e W5 ⟨rfl,b5⟩))
 have h5:=h4.step b5
 clear h4 b5 k8
 clear c0 c1 c2 c3 c4 c5 c6 c7 c8 c9 c10 c11 c12 c13 c14 s0 s1 s2 s3 s4 s5 s6
 obtain ⟨c0,c1,c2,c3,c4,c5,c6,c7,c8,c9,c10,c11,c12,c13,c14⟩:=h5.fl.cells
 obtain ⟨s0,s1,s2,s3,s4,s5,s6⟩:=h5.sg.cells
 go_upto_region 7 with (go_at_call 52;go_must (refine (ke _).mono ?_;rintro e W6 ⟨rfl,b6⟩))
 have h6:=h5.step b6
 clear h5 b6 ke
 clear c0 c1 c2 c3 c4 c5 c6 c7 c8 c9 c10 c11 c12 c13 c14 s0 s1 s2 s3 s4 s5 s6
 obtain ⟨c0,c1,c2,c3,c4,c5,c6,c7,c8,c9,c10,c11,c12,c13,c14⟩:=h6.fl.cells
 obtain ⟨s0,s1,s2,s3,s4,s5,s6⟩:=h6.sg.cells
 go_upto_region 21 with fail
 go_cut [107] (fun v wr=>v = .bool (!r)∧wr=W6)
 case first =>
  rcases sy with _|_
  ·obtain rfl:r=false:=by rw [HR.out];simp
   clear HR
   go_wp2_with fail
   go_meet
   case rel=>exact ⟨rfl,rfl⟩
  rcases ack with _|_
  ·obtain rfl:r=false:=by rw [HR.out];simp
   clear HR
   go_wp2_with fail
   go_meet
   case rel=>exact ⟨rfl,rfl⟩
  rcases fi with _|_
  rotate_left
  ·obtain rfl:r=false:=by rw [HR.out];simp
   clear HR
   go_wp2_with fail
   go_meet
   case rel=>exact ⟨rfl,rfl⟩
  by_cases he:s.ack=f.h0
  ·obtain rfl:r=true:=by rw [HR.out];simp [he]
   have e2:(s.ack != f.h0)=false:=by simp [he]
   clear HR he
   go_wp2_with fail
   go_meet
   case rel=>exact ⟨rfl,rfl⟩
  ·obtain rfl:r=false:=by rw [HR.out];simp [he]
   have e2:(s.ack != f.h0)=true:=by simpa using he
   clear HR he
   go_wp2_with fail
   go_meet
   case rel=>exact ⟨rfl,rfl⟩
 case rest =>
 obtain ⟨rfl,hw⟩:=hcut
 subst hw
 clear c0 c1 c2 c3 c4 c5 c6 c7 c8 c9 c10 c11 c12 c13 c14 s0 s1 s2 s3 s4 s5 s6
 cases hr:r
 ·have HRF:=hidE hr
  clear hr HR
  go_upto_region 22 with fail
  obtain rfl:r=false:=HRF.out
  obtain rfl:q=f:=by rw [HQ.out,if_neg (by decide)]
  clear HQ HRF
  obtain ⟨c0,c1,c2,c3,c4,c5,c6,c7,c8,c9,c10,c11,c12,c13,c14⟩:=h6.fl.cells
  obtain ⟨y0,y1,y2,y3,y4,y5,y6,y7,y8,y9,y10,y11,y12,y13,y14⟩:=h6.rs.frees
  obtain ⟨d0,d1,d2,d3,d4,d5,d6,d7,d8,d9,d10,d11,d12,d13,d14⟩:=h6.rs.cells
  go_wp2_with fail
  obtain ⟨W9,hW9,g9,b9⟩:=h6.fin (q:=q)
  first|rw [hW9]|(simp only at hW9;rw [hW9])
  clear hW9 c0 c1 c2 c3 c4 c5 c6 c7 c8 c9 c10 c11 c12 c13 c14 y0 y1 y2 y3 y4 y5 y6 y7 y8 y9 y10 y11 y12 y13 y14 d0 d1 d2 d3 d4 d5 d6 d7 d8 d9 d10 d11 d12 d13 d14
  obtain ⟨c0,c1,c2,c3,c4,c5,c6,c7,c8,c9,c10,c11,c12,c13,c14⟩:=g9.cells
  exact bodyPost_ret (v:=.tuple #[.agg #[.int .i64 q.key.kind,.int .i64 q.key.src,.int .i64 q.key.frm,.int .i64 q.key.dst,.int .i64 q.key.too,.int .i64 q.st,.int .i64 q.unt,.int .i64 q.stp,.int .i64 q.h0,.int .i64 q.h1,.int .i64 q.w0,.int .i64 q.w1,.bool q.d0,.bool q.d1,.int .i64 q.num],.bool false]) (by simp [results,Tryz.results60,go_sem,c0,c1,c2,c3,c4,c5,c6,c7,c8,c9,c10,c11,c12,c13,c14]) rfl ⟨rfl,b9⟩
 ·have HRF:=hidE hr
  clear hr HR
  obtain ⟨c0,c1,c2,c3,c4,c5,c6,c7,c8,c9,c10,c11,c12,c13,c14⟩:=h6.fl.cells
  obtain ⟨s0,s1,s2,s3,s4,s5,s6⟩:=h6.sg.cells
  have f5:=h6.fl.free 5
  go_upto_region 24 with fail
  obtain ⟨W7,hW7,h7⟩:=h6.put_st 2
  rw [hW7]
  clear hW7 f5 h6
  clear c0 c1 c2 c3 c4 c5 c6 c7 c8 c9 c10 c11 c12 c13 c14 s0 s1 s2 s3 s4 s5 s6
  obtain ⟨c0,c1,c2,c3,c4,c5,c6,c7,c8,c9,c10,c11,c12,c13,c14⟩:=h7.fl.cells
  obtain ⟨s0,s1,s2,s3,s4,s5,s6⟩:=h7.sg.cells
  have f9:=h7.fl.free 9
  go_upto_region 25 with fail
  obtain ⟨W8,hW8,h8⟩:=h7.put_h1 en
  rw [hW8]
  clear hW8 f9 h7
  clear c0 c1 c2 c3 c4 c5 c6 c7 c8 c9 c10 c11 c12 c13 c14 s0 s1 s2 s3 s4 s5 s6
  obtain ⟨c0,c1,c2,c3,c4,c5,c6,c7,c8,c9,c10,c11,c12,c13,c14⟩:=h8.fl.cells
  obtain ⟨s0,s1,s2,s3,s4,s5,s6⟩:=h8.sg.cells
  have f11:=h8.fl.free 11
  go_upto_region 26 with fail
  obtain ⟨W9',hW9',h9⟩:=h8.put_w1 s.win
  rw [hW9']
  clear h8
  have HQ2:=hidE (show q = { f with st:=2,h1:=en,w1:=s.win } by rw [HQ.out,HRF.out,if_pos rfl])
  first|rw [← HQ2.out] at h9|(simp only at h9;rw [← HQ2.out] at h9)
  have HRT:=HRF.out
  subst HRT
  clear hW9' HQ HQ2 HRF f11
  clear c0 c1 c2 c3 c4 c5 c6 c7 c8 c9 c10 c11 c12 c13 c14 s0 s1 s2 s3 s4 s5 s6
  obtain ⟨c0,c1,c2,c3,c4,c5,c6,c7,c8,c9,c10,c11,c12,c13,c14⟩:=h9.fl.cells
  obtain ⟨y0,y1,y2,y3,y4,y5,y6,y7,y8,y9,y10,y11,y12,y13,y14⟩:=h9.rs.frees
  obtain ⟨d0,d1,d2,d3,d4,d5,d6,d7,d8,d9,d10,d11,d12,d13,d14⟩:=h9.rs.cells
  go_wp2_with fail
  obtain ⟨W9,hW9,g9,b9⟩:=h9.fin (q:=q)
  first|rw [hW9]|(simp only at hW9;rw [hW9])
  clear hW9 c0 c1 c2 c3 c4 c5 c6 c7 c8 c9 c10 c11 c12 c13 c14 y0 y1 y2 y3 y4 y5 y6 y7 y8 y9 y10 y11 y12 y13 y14 d0 d1 d2 d3 d4 d5 d6 d7 d8 d9 d10 d11 d12 d13 d14
  obtain ⟨c0,c1,c2,c3,c4,c5,c6,c7,c8,c9,c10,c11,c12,c13,c14⟩:=g9.cells
  exact bodyPost_ret (v:=.tuple #[.agg #[.int .i64 q.key.kind,.int .i64 q.key.src,.int .i64 q.key.frm,.int .i64 q.key.dst,.int .i64 q.key.too,.int .i64 q.st,.int .i64 q.unt,.int .i64 q.stp,.int .i64 q.h0,.int .i64 q.h1,.int .i64 q.w0,.int .i64 q.w1,.bool q.d0,.bool q.d1,.int .i64 q.num],.bool true]) (by simp [results,Tryz.results60,go_sem,c0,c1,c2,c3,c4,c5,c6,c7,c8,c9,c10,c11,c12,c13,c14]) rfl ⟨rfl,b9⟩
end Go.Proofs.YtkhheooofcpfdaaGreatDoor
