/- What stream of package track returns, for every flow and segment whose numbers may be. -/
import Derived.Test.YtkhheooofcpfdaaGreatDoorTrkGo
import Derived.Test.YtkhheooofcpfdaaGreatDoorMgW
import Derived.Test.YtkhheooofcpfdaaGreatDoorTrkAns
namespace Go.Proofs.YtkhheooofcpfdaaGreatDoor
open Go.RowKit
set_option linter.unusedVariables false
theorem goOn_any (f:Fl) (s:Sg) (a:Option Addr) (l c:Nat) (side:Int) (w:World) (hs:side=0∨side=1) (h0:0≤s.flg) (h15:s.flg≤15) (hq0:0≤s.seq) (hq1:s.seq≤4294967295) (hl:s.body.length=l) (hl4:l≤4000) (hh0:0≤f.h0∧f.h0≤4294967295) (hh1:0≤f.h1∧f.h1≤4294967295) :
  Calls Tryz.prog 109 #[flV f,segV s (.slice a l c),.int .i64 side] w fun e w'=>e = .returned (.tuple #[flV (goF f s side),.bool (goB f s side)])∧Below w.heap.size w w':=by
 rcases hs with rfl|rfl
 ·exact goOn_0 f s a l c w h0 h15 hq0 hq1 hl hl4 hh0 hh1
 ·exact goOn_1 f s a l c w h0 h15 hq0 hq1 hl hl4 hh0 hh1
set_option maxRecDepth 100000 in
set_option maxHeartbeats 16000000 in
theorem stream_rst (f:Fl) (s:Sg) (a:Option Addr) (l c:Nat) (side:Int) (w:World) (hs:side=0∨side=1) (h0:0≤s.flg) (h15:s.flg≤15) (hq0:0≤s.seq) (hq1:s.seq≤4294967295) (hl:s.body.length=l) (hl4:l≤4000) (hh0:0≤f.h0∧f.h0≤4294967295) (hh1:0≤f.h1∧f.h1≤4294967295) (hx:flgB s 4=true)  :
  Calls Tryz.prog 87 #[flV f,segV s (.slice a l c),.int .i64 side] w fun e w'=>e = .returned (.tuple #[flV { f with st:=4 },.bool (rstB f s side)])∧Below w.heap.size w w':=by
 have h1:=Fsz.start w f s (.slice a l c)
 unfold fszW at h1
 obtain ⟨W1,hW1⟩:∃ W1,((w.alloc (.cells #[.int .i64 f.key.kind,.int .i64 f.key.src,.int .i64 f.key.frm,.int .i64 f.key.dst,.int .i64 f.key.too,.int .i64 f.st,.int .i64 f.unt,.int .i64 f.stp,.int .i64 f.h0,.int .i64 f.h1,.int .i64 f.w0,.int .i64 f.w1,.bool f.d0,.bool f.d1,.int .i64 f.num] 45)).alloc (.cells #[.int .i64 s.frm,.int .i64 s.too,.int .i64 s.seq,.int .i64 s.ack,.int .i64 s.win,.int .i64 s.flg,.slice a l c] 41)).alloc (.cells #[.int .i64 0,.int .i64 0,.int .i64 0,.int .i64 0,.int .i64 0,.int .i64 0,.int .i64 0,.int .i64 0,.int .i64 0,.int .i64 0,.int .i64 0,.int .i64 0,.bool false,.bool false,.int .i64 0] 45)=W1:=⟨_,rfl⟩
 rw [hW1] at h1
 have cx:=fun W=>has_any s 4 (.slice a l c) W h0 h15 (by omega)
 rw [hx] at cx
 have hc:=fun W=>reset_any f s a l c side W hs h0 h15
 obtain ⟨q,hq⟩:∃ q:Fl,{ f with st:=4 }=q:=⟨_,rfl⟩
 obtain ⟨r,hr⟩:∃ r,rstB f s side=r:=⟨_,rfl⟩
 rw [hq,hr] at hc ⊢
 unfold flV segV at *
 clear hq hr h0 h15 hq0 hq1 hl hl4 hh0 hh1 hx hs
 go_enter Tryz.func87,Tryz.ntmps87
 go_upto_region 1 with fail
 try rw [hW1]
 clear hW1
 obtain ⟨c0,c1,c2,c3,c4,c5,c6,c7,c8,c9,c10,c11,c12,c13,c14⟩:=h1.fl.cells
 obtain ⟨s0,s1,s2,s3,s4,s5,s6⟩:=h1.sg.cells
 go_upto_region 2 with (go_at_call 83;refine (cx _).mono ?_;rintro e W2 ⟨rfl,b2⟩;have h2:=h1.step b2;clear c0 c1 c2 c3 c4 c5 c6 c7 c8 c9 c10 c11 c12 c13 c14 s0 s1 s2 s3 s4 s5 s6;obtain ⟨c0,c1,c2,c3,c4,c5,c6,c7,c8,c9,c10,c11,c12,c13,c14⟩:=h2.fl.cells;obtain ⟨s0,s1,s2,s3,s4,s5,s6⟩:=h2.sg.cells)
 clear cx h1 b2
 go_wp2_with (go_at_call 108;refine (hc _).mono ?_;rintro e W8 ⟨rfl,b8⟩;have h8:=h2.step b8;obtain ⟨y0,y1,y2,y3,y4,y5,y6,y7,y8,y9,y10,y11,y12,y13,y14⟩:=h8.rs.frees;obtain ⟨d0,d1,d2,d3,d4,d5,d6,d7,d8,d9,d10,d11,d12,d13,d14⟩:=h8.rs.cells)
 clear c0 c1 c2 c3 c4 c5 c6 c7 c8 c9 c10 c11 c12 c13 c14 s0 s1 s2 s3 s4 s5 s6
 clear hc b8 h2
 obtain ⟨W9,hW9,g9,b9⟩:=h8.fin (q:=q)
 first|rw [hW9]|(simp only at hW9;rw [hW9])
 clear hW9 y0 y1 y2 y3 y4 y5 y6 y7 y8 y9 y10 y11 y12 y13 y14 d0 d1 d2 d3 d4 d5 d6 d7 d8 d9 d10 d11 d12 d13 d14
 obtain ⟨c0,c1,c2,c3,c4,c5,c6,c7,c8,c9,c10,c11,c12,c13,c14⟩:=g9.cells
 exact bodyPost_ret (v:=.tuple #[.agg #[.int .i64 q.key.kind,.int .i64 q.key.src,.int .i64 q.key.frm,.int .i64 q.key.dst,.int .i64 q.key.too,.int .i64 q.st,.int .i64 q.unt,.int .i64 q.stp,.int .i64 q.h0,.int .i64 q.h1,.int .i64 q.w0,.int .i64 q.w1,.bool q.d0,.bool q.d1,.int .i64 q.num],.bool r]) (by simp [results,Tryz.results87,go_sem,c0,c1,c2,c3,c4,c5,c6,c7,c8,c9,c10,c11,c12,c13,c14]) rfl ⟨rfl,b9⟩
set_option maxRecDepth 100000 in
set_option maxHeartbeats 16000000 in
theorem stream_go (f:Fl) (s:Sg) (a:Option Addr) (l c:Nat) (side:Int) (w:World) (hs:side=0∨side=1) (h0:0≤s.flg) (h15:s.flg≤15) (hq0:0≤s.seq) (hq1:s.seq≤4294967295) (hl:s.body.length=l) (hl4:l≤4000) (hh0:0≤f.h0∧f.h0≤4294967295) (hh1:0≤f.h1∧f.h1≤4294967295) (hx:flgB s 4=false) (ht:¬ f.st=1) :
  Calls Tryz.prog 87 #[flV f,segV s (.slice a l c),.int .i64 side] w fun e w'=>e = .returned (.tuple #[flV (goF f s side),.bool (goB f s side)])∧Below w.heap.size w w':=by
 have h1:=Fsz.start w f s (.slice a l c)
 unfold fszW at h1
 obtain ⟨W1,hW1⟩:∃ W1,((w.alloc (.cells #[.int .i64 f.key.kind,.int .i64 f.key.src,.int .i64 f.key.frm,.int .i64 f.key.dst,.int .i64 f.key.too,.int .i64 f.st,.int .i64 f.unt,.int .i64 f.stp,.int .i64 f.h0,.int .i64 f.h1,.int .i64 f.w0,.int .i64 f.w1,.bool f.d0,.bool f.d1,.int .i64 f.num] 45)).alloc (.cells #[.int .i64 s.frm,.int .i64 s.too,.int .i64 s.seq,.int .i64 s.ack,.int .i64 s.win,.int .i64 s.flg,.slice a l c] 41)).alloc (.cells #[.int .i64 0,.int .i64 0,.int .i64 0,.int .i64 0,.int .i64 0,.int .i64 0,.int .i64 0,.int .i64 0,.int .i64 0,.int .i64 0,.int .i64 0,.int .i64 0,.bool false,.bool false,.int .i64 0] 45)=W1:=⟨_,rfl⟩
 rw [hW1] at h1
 have cx:=fun W=>has_any s 4 (.slice a l c) W h0 h15 (by omega)
 rw [hx] at cx
 have hc:=fun W=>goOn_any f s a l c side W hs h0 h15 hq0 hq1 hl hl4 hh0 hh1
 obtain ⟨q,hq⟩:∃ q:Fl,goF f s side=q:=⟨_,rfl⟩
 obtain ⟨r,hr⟩:∃ r,goB f s side=r:=⟨_,rfl⟩
 rw [hq,hr] at hc ⊢
 have e1:(f.st != 1)=true:=by simpa using ht
 clear ht
 unfold flV segV at *
 clear hq hr h0 h15 hq0 hq1 hl hl4 hh0 hh1 hx hs
 go_enter Tryz.func87,Tryz.ntmps87
 go_upto_region 1 with fail
 try rw [hW1]
 clear hW1
 obtain ⟨c0,c1,c2,c3,c4,c5,c6,c7,c8,c9,c10,c11,c12,c13,c14⟩:=h1.fl.cells
 obtain ⟨s0,s1,s2,s3,s4,s5,s6⟩:=h1.sg.cells
 go_upto_region 3 with (go_at_call 83;refine (cx _).mono ?_;rintro e W2 ⟨rfl,b2⟩;have h2:=h1.step b2;clear c0 c1 c2 c3 c4 c5 c6 c7 c8 c9 c10 c11 c12 c13 c14 s0 s1 s2 s3 s4 s5 s6;obtain ⟨c0,c1,c2,c3,c4,c5,c6,c7,c8,c9,c10,c11,c12,c13,c14⟩:=h2.fl.cells;obtain ⟨s0,s1,s2,s3,s4,s5,s6⟩:=h2.sg.cells)
 clear cx h1 b2
 go_wp2_with (go_at_call 109;refine (hc _).mono ?_;rintro e W8 ⟨rfl,b8⟩;have h8:=h2.step b8;obtain ⟨y0,y1,y2,y3,y4,y5,y6,y7,y8,y9,y10,y11,y12,y13,y14⟩:=h8.rs.frees;obtain ⟨d0,d1,d2,d3,d4,d5,d6,d7,d8,d9,d10,d11,d12,d13,d14⟩:=h8.rs.cells)
 clear c0 c1 c2 c3 c4 c5 c6 c7 c8 c9 c10 c11 c12 c13 c14 s0 s1 s2 s3 s4 s5 s6
 clear hc b8 h2
 obtain ⟨W9,hW9,g9,b9⟩:=h8.fin (q:=q)
 first|rw [hW9]|(simp only at hW9;rw [hW9])
 clear hW9 y0 y1 y2 y3 y4 y5 y6 y7 y8 y9 y10 y11 y12 y13 y14 d0 d1 d2 d3 d4 d5 d6 d7 d8 d9 d10 d11 d12 d13 d14
 obtain ⟨c0,c1,c2,c3,c4,c5,c6,c7,c8,c9,c10,c11,c12,c13,c14⟩:=g9.cells
 exact bodyPost_ret (v:=.tuple #[.agg #[.int .i64 q.key.kind,.int .i64 q.key.src,.int .i64 q.key.frm,.int .i64 q.key.dst,.int .i64 q.key.too,.int .i64 q.st,.int .i64 q.unt,.int .i64 q.stp,.int .i64 q.h0,.int .i64 q.h1,.int .i64 q.w0,.int .i64 q.w1,.bool q.d0,.bool q.d1,.int .i64 q.num],.bool r]) (by simp [results,Tryz.results87,go_sem,c0,c1,c2,c3,c4,c5,c6,c7,c8,c9,c10,c11,c12,c13,c14]) rfl ⟨rfl,b9⟩
set_option maxRecDepth 100000 in
set_option maxHeartbeats 16000000 in
theorem stream_ask (f:Fl) (s:Sg) (a:Option Addr) (l c:Nat) (side:Int) (w:World) (hs:side=0∨side=1) (h0:0≤s.flg) (h15:s.flg≤15) (hq0:0≤s.seq) (hq1:s.seq≤4294967295) (hl:s.body.length=l) (hl4:l≤4000) (hh0:0≤f.h0∧f.h0≤4294967295) (hh1:0≤f.h1∧f.h1≤4294967295) (hx:flgB s 4=false) (ht:f.st=1) (hz:side=0) :
  Calls Tryz.prog 87 #[flV f,segV s (.slice a l c),.int .i64 side] w fun e w'=>e = .returned (.tuple #[flV { f with w0:=s.win },.bool ((decide (s.flg=2∧endI s=f.h0)))])∧Below w.heap.size w w':=by
 have h1:=Fsz.start w f s (.slice a l c)
 unfold fszW at h1
 obtain ⟨W1,hW1⟩:∃ W1,((w.alloc (.cells #[.int .i64 f.key.kind,.int .i64 f.key.src,.int .i64 f.key.frm,.int .i64 f.key.dst,.int .i64 f.key.too,.int .i64 f.st,.int .i64 f.unt,.int .i64 f.stp,.int .i64 f.h0,.int .i64 f.h1,.int .i64 f.w0,.int .i64 f.w1,.bool f.d0,.bool f.d1,.int .i64 f.num] 45)).alloc (.cells #[.int .i64 s.frm,.int .i64 s.too,.int .i64 s.seq,.int .i64 s.ack,.int .i64 s.win,.int .i64 s.flg,.slice a l c] 41)).alloc (.cells #[.int .i64 0,.int .i64 0,.int .i64 0,.int .i64 0,.int .i64 0,.int .i64 0,.int .i64 0,.int .i64 0,.int .i64 0,.int .i64 0,.int .i64 0,.int .i64 0,.bool false,.bool false,.int .i64 0] 45)=W1:=⟨_,rfl⟩
 rw [hW1] at h1
 have cx:=fun W=>has_any s 4 (.slice a l c) W h0 h15 (by omega)
 rw [hx] at cx
 have hc:=fun W=>askAgain_any f s a l c W h0 h15 hq0 hq1 hl hl4
 obtain ⟨q,hq⟩:∃ q:Fl,{ f with w0:=s.win }=q:=⟨_,rfl⟩
 obtain ⟨r,hr⟩:∃ r,(decide (s.flg=2∧endI s=f.h0))=r:=⟨_,rfl⟩
 rw [hq,hr] at hc ⊢
 have e1:(f.st != 1)=false:=by simp [ht]
 clear ht
 subst hz
 unfold flV segV at *
 clear hq hr h0 h15 hq0 hq1 hl hl4 hh0 hh1 hx hs
 go_enter Tryz.func87,Tryz.ntmps87
 go_upto_region 1 with fail
 try rw [hW1]
 clear hW1
 obtain ⟨c0,c1,c2,c3,c4,c5,c6,c7,c8,c9,c10,c11,c12,c13,c14⟩:=h1.fl.cells
 obtain ⟨s0,s1,s2,s3,s4,s5,s6⟩:=h1.sg.cells
 go_upto_region 3 with (go_at_call 83;refine (cx _).mono ?_;rintro e W2 ⟨rfl,b2⟩;have h2:=h1.step b2;clear c0 c1 c2 c3 c4 c5 c6 c7 c8 c9 c10 c11 c12 c13 c14 s0 s1 s2 s3 s4 s5 s6;obtain ⟨c0,c1,c2,c3,c4,c5,c6,c7,c8,c9,c10,c11,c12,c13,c14⟩:=h2.fl.cells;obtain ⟨s0,s1,s2,s3,s4,s5,s6⟩:=h2.sg.cells)
 clear cx h1 b2
 go_wp2_with (go_at_call 110;refine (hc _).mono ?_;rintro e W8 ⟨rfl,b8⟩;have h8:=h2.step b8;obtain ⟨y0,y1,y2,y3,y4,y5,y6,y7,y8,y9,y10,y11,y12,y13,y14⟩:=h8.rs.frees;obtain ⟨d0,d1,d2,d3,d4,d5,d6,d7,d8,d9,d10,d11,d12,d13,d14⟩:=h8.rs.cells)
 clear c0 c1 c2 c3 c4 c5 c6 c7 c8 c9 c10 c11 c12 c13 c14 s0 s1 s2 s3 s4 s5 s6
 clear hc b8 h2
 obtain ⟨W9,hW9,g9,b9⟩:=h8.fin (q:=q)
 first|rw [hW9]|(simp only at hW9;rw [hW9])
 clear hW9 y0 y1 y2 y3 y4 y5 y6 y7 y8 y9 y10 y11 y12 y13 y14 d0 d1 d2 d3 d4 d5 d6 d7 d8 d9 d10 d11 d12 d13 d14
 obtain ⟨c0,c1,c2,c3,c4,c5,c6,c7,c8,c9,c10,c11,c12,c13,c14⟩:=g9.cells
 exact bodyPost_ret (v:=.tuple #[.agg #[.int .i64 q.key.kind,.int .i64 q.key.src,.int .i64 q.key.frm,.int .i64 q.key.dst,.int .i64 q.key.too,.int .i64 q.st,.int .i64 q.unt,.int .i64 q.stp,.int .i64 q.h0,.int .i64 q.h1,.int .i64 q.w0,.int .i64 q.w1,.bool q.d0,.bool q.d1,.int .i64 q.num],.bool r]) (by simp [results,Tryz.results87,go_sem,c0,c1,c2,c3,c4,c5,c6,c7,c8,c9,c10,c11,c12,c13,c14]) rfl ⟨rfl,b9⟩
set_option maxRecDepth 100000 in
set_option maxHeartbeats 16000000 in
theorem stream_ans (f:Fl) (s:Sg) (a:Option Addr) (l c:Nat) (side:Int) (w:World) (hs:side=0∨side=1) (h0:0≤s.flg) (h15:s.flg≤15) (hq0:0≤s.seq) (hq1:s.seq≤4294967295) (hl:s.body.length=l) (hl4:l≤4000) (hh0:0≤f.h0∧f.h0≤4294967295) (hh1:0≤f.h1∧f.h1≤4294967295) (hx:flgB s 4=false) (ht:f.st=1) (hz:side=1) :
  Calls Tryz.prog 87 #[flV f,segV s (.slice a l c),.int .i64 side] w fun e w'=>e = .returned (.tuple #[flV { f with st:=2,h1:=endI s,w1:=s.win },.bool ((decide (s.flg=10∧s.ack=f.h0)))])∧Below w.heap.size w w':=by
 have h1:=Fsz.start w f s (.slice a l c)
 unfold fszW at h1
 obtain ⟨W1,hW1⟩:∃ W1,((w.alloc (.cells #[.int .i64 f.key.kind,.int .i64 f.key.src,.int .i64 f.key.frm,.int .i64 f.key.dst,.int .i64 f.key.too,.int .i64 f.st,.int .i64 f.unt,.int .i64 f.stp,.int .i64 f.h0,.int .i64 f.h1,.int .i64 f.w0,.int .i64 f.w1,.bool f.d0,.bool f.d1,.int .i64 f.num] 45)).alloc (.cells #[.int .i64 s.frm,.int .i64 s.too,.int .i64 s.seq,.int .i64 s.ack,.int .i64 s.win,.int .i64 s.flg,.slice a l c] 41)).alloc (.cells #[.int .i64 0,.int .i64 0,.int .i64 0,.int .i64 0,.int .i64 0,.int .i64 0,.int .i64 0,.int .i64 0,.int .i64 0,.int .i64 0,.int .i64 0,.int .i64 0,.bool false,.bool false,.int .i64 0] 45)=W1:=⟨_,rfl⟩
 rw [hW1] at h1
 have cx:=fun W=>has_any s 4 (.slice a l c) W h0 h15 (by omega)
 rw [hx] at cx
 have hc:=fun W=>answer_any f s a l c W h0 h15 hq0 hq1 hl hl4
 obtain ⟨q,hq⟩:∃ q:Fl,{ f with st:=2,h1:=endI s,w1:=s.win }=q:=⟨_,rfl⟩
 obtain ⟨r,hr⟩:∃ r,(decide (s.flg=10∧s.ack=f.h0))=r:=⟨_,rfl⟩
 rw [hq,hr] at hc ⊢
 have e1:(f.st != 1)=false:=by simp [ht]
 clear ht
 subst hz
 unfold flV segV at *
 clear hq hr h0 h15 hq0 hq1 hl hl4 hh0 hh1 hx hs
 go_enter Tryz.func87,Tryz.ntmps87
 go_upto_region 1 with fail
 try rw [hW1]
 clear hW1
 obtain ⟨c0,c1,c2,c3,c4,c5,c6,c7,c8,c9,c10,c11,c12,c13,c14⟩:=h1.fl.cells
 obtain ⟨s0,s1,s2,s3,s4,s5,s6⟩:=h1.sg.cells
 go_upto_region 3 with (go_at_call 83;refine (cx _).mono ?_;rintro e W2 ⟨rfl,b2⟩;have h2:=h1.step b2;clear c0 c1 c2 c3 c4 c5 c6 c7 c8 c9 c10 c11 c12 c13 c14 s0 s1 s2 s3 s4 s5 s6;obtain ⟨c0,c1,c2,c3,c4,c5,c6,c7,c8,c9,c10,c11,c12,c13,c14⟩:=h2.fl.cells;obtain ⟨s0,s1,s2,s3,s4,s5,s6⟩:=h2.sg.cells)
 clear cx h1 b2
 go_wp2_with (go_at_call 111;refine (hc _).mono ?_;rintro e W8 ⟨rfl,b8⟩;have h8:=h2.step b8;obtain ⟨y0,y1,y2,y3,y4,y5,y6,y7,y8,y9,y10,y11,y12,y13,y14⟩:=h8.rs.frees;obtain ⟨d0,d1,d2,d3,d4,d5,d6,d7,d8,d9,d10,d11,d12,d13,d14⟩:=h8.rs.cells)
 clear c0 c1 c2 c3 c4 c5 c6 c7 c8 c9 c10 c11 c12 c13 c14 s0 s1 s2 s3 s4 s5 s6
 clear hc b8 h2
 obtain ⟨W9,hW9,g9,b9⟩:=h8.fin (q:=q)
 first|rw [hW9]|(simp only at hW9;rw [hW9])
 clear hW9 y0 y1 y2 y3 y4 y5 y6 y7 y8 y9 y10 y11 y12 y13 y14 d0 d1 d2 d3 d4 d5 d6 d7 d8 d9 d10 d11 d12 d13 d14
 obtain ⟨c0,c1,c2,c3,c4,c5,c6,c7,c8,c9,c10,c11,c12,c13,c14⟩:=g9.cells
 exact bodyPost_ret (v:=.tuple #[.agg #[.int .i64 q.key.kind,.int .i64 q.key.src,.int .i64 q.key.frm,.int .i64 q.key.dst,.int .i64 q.key.too,.int .i64 q.st,.int .i64 q.unt,.int .i64 q.stp,.int .i64 q.h0,.int .i64 q.h1,.int .i64 q.w0,.int .i64 q.w1,.bool q.d0,.bool q.d1,.int .i64 q.num],.bool r]) (by simp [results,Tryz.results87,go_sem,c0,c1,c2,c3,c4,c5,c6,c7,c8,c9,c10,c11,c12,c13,c14]) rfl ⟨rfl,b9⟩
theorem stream_any (f:Fl) (s:Sg) (a:Option Addr) (l c:Nat) (side:Int) (w:World) (hs:side=0∨side=1) (h0:0≤s.flg) (h15:s.flg≤15) (hq0:0≤s.seq) (hq1:s.seq≤4294967295) (hl:s.body.length=l) (hl4:l≤4000) (hh0:0≤f.h0∧f.h0≤4294967295) (hh1:0≤f.h1∧f.h1≤4294967295) :
  Calls Tryz.prog 87 #[flV f,segV s (.slice a l c),.int .i64 side] w fun e w'=>e = .returned (.tuple #[flV (strF f s side),.bool (strB f s side)])∧Below w.heap.size w w':=by
 cases hx:flgB s 4
 ·have hx':¬ flgB s 4=true:=by rw [hx];decide
  by_cases ht:f.st=1
  ·have ht':¬ ¬ f.st=1:=fun h=>h ht
   by_cases hz:side=0
   ·rw [show strF f s side = { f with w0:=s.win } by unfold strF;rw [if_neg hx',if_neg ht',if_pos hz],show strB f s side=decide (s.flg=2∧endI s=f.h0) by unfold strB;rw [if_neg hx',if_neg ht',if_pos hz]]
    exact stream_ask f s a l c side w hs h0 h15 hq0 hq1 hl hl4 hh0 hh1 hx ht hz
   ·rw [show strF f s side = { f with st:=2,h1:=endI s,w1:=s.win } by unfold strF;rw [if_neg hx',if_neg ht',if_neg hz],show strB f s side=decide (s.flg=10∧s.ack=f.h0) by unfold strB;rw [if_neg hx',if_neg ht',if_neg hz]]
    exact stream_ans f s a l c side w hs h0 h15 hq0 hq1 hl hl4 hh0 hh1 hx ht (by omega)
  ·rw [show strF f s side=goF f s side by unfold strF;rw [if_neg hx',if_pos ht],show strB f s side=goB f s side by unfold strB;rw [if_neg hx',if_pos ht]]
   exact stream_go f s a l c side w hs h0 h15 hq0 hq1 hl hl4 hh0 hh1 hx ht
 ·rw [show strF f s side = { f with st:=4 } by unfold strF;rw [if_pos hx],show strB f s side=rstB f s side by unfold strB;rw [if_pos hx]]
  exact stream_rst f s a l c side w hs h0 h15 hq0 hq1 hl hl4 hh0 hh1 hx
end Go.Proofs.YtkhheooofcpfdaaGreatDoor
namespace Go.Proofs.YtkhheooofcpfdaaGreatDoor
open Go.RowKit
set_option linter.unusedVariables false
set_option maxRecDepth 100000 in
set_option maxHeartbeats 16000000 in
theorem say_stream (f:Fl) (s:Sg) (a:Option Addr) (l c:Nat) (side:Int) (w:World) (hs:side=0∨side=1) (h0:0≤s.flg) (h15:s.flg≤15) (hq0:0≤s.seq) (hq1:s.seq≤4294967295) (hl:s.body.length=l) (hl4:l≤4000) (hh0:0≤f.h0∧f.h0≤4294967295) (hh1:0≤f.h1∧f.h1≤4294967295) (hk:f.key.kind=1) :
  Calls Tryz.prog 62 #[flV f,segV s (.slice a l c),.int .i64 side] w fun e w'=>e = .returned (.tuple #[flV (strF f s side),.bool (strB f s side)])∧Below w.heap.size w w':=by
 have h1:=Fsz.start w f s (.slice a l c)
 unfold fszW at h1
 obtain ⟨W1,hW1⟩:∃ W1,((w.alloc (.cells #[.int .i64 f.key.kind,.int .i64 f.key.src,.int .i64 f.key.frm,.int .i64 f.key.dst,.int .i64 f.key.too,.int .i64 f.st,.int .i64 f.unt,.int .i64 f.stp,.int .i64 f.h0,.int .i64 f.h1,.int .i64 f.w0,.int .i64 f.w1,.bool f.d0,.bool f.d1,.int .i64 f.num] 45)).alloc (.cells #[.int .i64 s.frm,.int .i64 s.too,.int .i64 s.seq,.int .i64 s.ack,.int .i64 s.win,.int .i64 s.flg,.slice a l c] 41)).alloc (.cells #[.int .i64 0,.int .i64 0,.int .i64 0,.int .i64 0,.int .i64 0,.int .i64 0,.int .i64 0,.int .i64 0,.int .i64 0,.int .i64 0,.int .i64 0,.int .i64 0,.bool false,.bool false,.int .i64 0] 45)=W1:=⟨_,rfl⟩
 rw [hW1] at h1
 have hc:=fun W=>stream_any f s a l c side W hs h0 h15 hq0 hq1 hl hl4 hh0 hh1
 obtain ⟨q,hq⟩:∃ q,strF f s side=q:=⟨_,rfl⟩
 obtain ⟨r,hr⟩:∃ r,strB f s side=r:=⟨_,rfl⟩
 rw [hq,hr] at hc ⊢
 have e1:(f.key.kind == 1)=true:=by simpa using hk
 unfold flV segV at *
 clear hq hr hk h0 h15 hq0 hq1 hl hl4 hh0 hh1 hs
 go_enter Tryz.func62,Tryz.ntmps62
 go_upto_region 1 with fail
 try rw [hW1]
 clear hW1
 obtain ⟨c0,c1,c2,c3,c4,c5,c6,c7,c8,c9,c10,c11,c12,c13,c14⟩:=h1.fl.cells
 obtain ⟨s0,s1,s2,s3,s4,s5,s6⟩:=h1.sg.cells
 go_wp2_with (go_at_call 87;refine (hc _).mono ?_;rintro e W8 ⟨rfl,b8⟩;have h8:=h1.step b8;obtain ⟨y0,y1,y2,y3,y4,y5,y6,y7,y8,y9,y10,y11,y12,y13,y14⟩:=h8.rs.frees;obtain ⟨d0,d1,d2,d3,d4,d5,d6,d7,d8,d9,d10,d11,d12,d13,d14⟩:=h8.rs.cells)
 clear c0 c1 c2 c3 c4 c5 c6 c7 c8 c9 c10 c11 c12 c13 c14 s0 s1 s2 s3 s4 s5 s6
 clear hc b8 h1
 obtain ⟨W9,hW9,g9,b9⟩:=h8.fin (q:=q)
 first|rw [hW9]|(simp only at hW9;rw [hW9])
 clear hW9 y0 y1 y2 y3 y4 y5 y6 y7 y8 y9 y10 y11 y12 y13 y14 d0 d1 d2 d3 d4 d5 d6 d7 d8 d9 d10 d11 d12 d13 d14
 obtain ⟨c0,c1,c2,c3,c4,c5,c6,c7,c8,c9,c10,c11,c12,c13,c14⟩:=g9.cells
 exact bodyPost_ret (v:=.tuple #[.agg #[.int .i64 q.key.kind,.int .i64 q.key.src,.int .i64 q.key.frm,.int .i64 q.key.dst,.int .i64 q.key.too,.int .i64 q.st,.int .i64 q.unt,.int .i64 q.stp,.int .i64 q.h0,.int .i64 q.h1,.int .i64 q.w0,.int .i64 q.w1,.bool q.d0,.bool q.d1,.int .i64 q.num],.bool r]) (by simp [results,Tryz.results62,go_sem,c0,c1,c2,c3,c4,c5,c6,c7,c8,c9,c10,c11,c12,c13,c14]) rfl ⟨rfl,b9⟩
set_option maxRecDepth 100000 in
set_option maxHeartbeats 16000000 in
theorem say_one (f:Fl) (s:Sg) (a:Option Addr) (l c:Nat) (w:World) (hk:¬ f.key.kind=1) :
  Calls Tryz.prog 62 #[flV f,segV s (.slice a l c),.int .i64 1] w fun e w'=>e = .returned (.tuple #[flV { f with st:=2 },.bool true])∧Below w.heap.size w w':=by
 have h1:=Fsz.start w f s (.slice a l c)
 unfold fszW at h1
 obtain ⟨W1,hW1⟩:∃ W1,((w.alloc (.cells #[.int .i64 f.key.kind,.int .i64 f.key.src,.int .i64 f.key.frm,.int .i64 f.key.dst,.int .i64 f.key.too,.int .i64 f.st,.int .i64 f.unt,.int .i64 f.stp,.int .i64 f.h0,.int .i64 f.h1,.int .i64 f.w0,.int .i64 f.w1,.bool f.d0,.bool f.d1,.int .i64 f.num] 45)).alloc (.cells #[.int .i64 s.frm,.int .i64 s.too,.int .i64 s.seq,.int .i64 s.ack,.int .i64 s.win,.int .i64 s.flg,.slice a l c] 41)).alloc (.cells #[.int .i64 0,.int .i64 0,.int .i64 0,.int .i64 0,.int .i64 0,.int .i64 0,.int .i64 0,.int .i64 0,.int .i64 0,.int .i64 0,.int .i64 0,.int .i64 0,.bool false,.bool false,.int .i64 0] 45)=W1:=⟨_,rfl⟩
 rw [hW1] at h1
 have e1:(f.key.kind == 1)=false:=by simpa using hk
 obtain ⟨q,hq⟩:∃ q:Fl,{ f with st:=2 }=q:=⟨_,rfl⟩
 rw [hq]
 have HQ:=hidE hq
 unfold flV segV
 clear hk hq
 go_enter Tryz.func62,Tryz.ntmps62
 go_upto_region 1 with fail
 try rw [hW1]
 clear hW1
 obtain ⟨c0,c1,c2,c3,c4,c5,c6,c7,c8,c9,c10,c11,c12,c13,c14⟩:=h1.fl.cells
 obtain ⟨s0,s1,s2,s3,s4,s5,s6⟩:=h1.sg.cells
 have f5:=h1.fl.free 5
 go_upto_region 5 with fail
 obtain ⟨W5,hW5,h5⟩:=h1.put_st 2
 rw [hW5]
 rw [HQ.out] at h5
 clear hW5 f5 h1
 clear c0 c1 c2 c3 c4 c5 c6 c7 c8 c9 c10 c11 c12 c13 c14 s0 s1 s2 s3 s4 s5 s6
 obtain ⟨c0,c1,c2,c3,c4,c5,c6,c7,c8,c9,c10,c11,c12,c13,c14⟩:=h5.fl.cells
 obtain ⟨y0,y1,y2,y3,y4,y5,y6,y7,y8,y9,y10,y11,y12,y13,y14⟩:=h5.rs.frees
 obtain ⟨d0,d1,d2,d3,d4,d5,d6,d7,d8,d9,d10,d11,d12,d13,d14⟩:=h5.rs.cells
 go_wp2_with fail
 obtain ⟨W9,hW9,g9,b9⟩:=h5.fin (q:=q)
 first|rw [hW9]|(simp only at hW9;rw [hW9])
 clear hW9 c0 c1 c2 c3 c4 c5 c6 c7 c8 c9 c10 c11 c12 c13 c14 y0 y1 y2 y3 y4 y5 y6 y7 y8 y9 y10 y11 y12 y13 y14 d0 d1 d2 d3 d4 d5 d6 d7 d8 d9 d10 d11 d12 d13 d14
 obtain ⟨c0,c1,c2,c3,c4,c5,c6,c7,c8,c9,c10,c11,c12,c13,c14⟩:=g9.cells
 exact bodyPost_ret (v:=.tuple #[.agg #[.int .i64 q.key.kind,.int .i64 q.key.src,.int .i64 q.key.frm,.int .i64 q.key.dst,.int .i64 q.key.too,.int .i64 q.st,.int .i64 q.unt,.int .i64 q.stp,.int .i64 q.h0,.int .i64 q.h1,.int .i64 q.w0,.int .i64 q.w1,.bool q.d0,.bool q.d1,.int .i64 q.num],.bool true]) (by simp [results,Tryz.results62,go_sem,c0,c1,c2,c3,c4,c5,c6,c7,c8,c9,c10,c11,c12,c13,c14]) rfl ⟨rfl,b9⟩
set_option maxRecDepth 100000 in
set_option maxHeartbeats 16000000 in
theorem say_zero (f:Fl) (s:Sg) (a:Option Addr) (l c:Nat) (w:World) (hk:¬ f.key.kind=1) :
  Calls Tryz.prog 62 #[flV f,segV s (.slice a l c),.int .i64 0] w fun e w'=>e = .returned (.tuple #[flV f,.bool true])∧Below w.heap.size w w':=by
 have h1:=Fsz.start w f s (.slice a l c)
 unfold fszW at h1
 obtain ⟨W1,hW1⟩:∃ W1,((w.alloc (.cells #[.int .i64 f.key.kind,.int .i64 f.key.src,.int .i64 f.key.frm,.int .i64 f.key.dst,.int .i64 f.key.too,.int .i64 f.st,.int .i64 f.unt,.int .i64 f.stp,.int .i64 f.h0,.int .i64 f.h1,.int .i64 f.w0,.int .i64 f.w1,.bool f.d0,.bool f.d1,.int .i64 f.num] 45)).alloc (.cells #[.int .i64 s.frm,.int .i64 s.too,.int .i64 s.seq,.int .i64 s.ack,.int .i64 s.win,.int .i64 s.flg,.slice a l c] 41)).alloc (.cells #[.int .i64 0,.int .i64 0,.int .i64 0,.int .i64 0,.int .i64 0,.int .i64 0,.int .i64 0,.int .i64 0,.int .i64 0,.int .i64 0,.int .i64 0,.int .i64 0,.bool false,.bool false,.int .i64 0] 45)=W1:=⟨_,rfl⟩
 rw [hW1] at h1
 have e1:(f.key.kind == 1)=false:=by simpa using hk
 unfold flV segV
 clear hk
 go_enter Tryz.func62,Tryz.ntmps62
 go_upto_region 1 with fail
 try rw [hW1]
 clear hW1
 obtain ⟨c0,c1,c2,c3,c4,c5,c6,c7,c8,c9,c10,c11,c12,c13,c14⟩:=h1.fl.cells
 obtain ⟨s0,s1,s2,s3,s4,s5,s6⟩:=h1.sg.cells
 clear c0 c1 c2 c3 c4 c5 c6 c7 c8 c9 c10 c11 c12 c13 c14 s0 s1 s2 s3 s4 s5 s6
 obtain ⟨c0,c1,c2,c3,c4,c5,c6,c7,c8,c9,c10,c11,c12,c13,c14⟩:=h1.fl.cells
 obtain ⟨y0,y1,y2,y3,y4,y5,y6,y7,y8,y9,y10,y11,y12,y13,y14⟩:=h1.rs.frees
 obtain ⟨d0,d1,d2,d3,d4,d5,d6,d7,d8,d9,d10,d11,d12,d13,d14⟩:=h1.rs.cells
 go_wp2_with fail
 obtain ⟨W9,hW9,g9,b9⟩:=h1.fin (q:=f)
 first|rw [hW9]|(simp only at hW9;rw [hW9])
 clear hW9 c0 c1 c2 c3 c4 c5 c6 c7 c8 c9 c10 c11 c12 c13 c14 y0 y1 y2 y3 y4 y5 y6 y7 y8 y9 y10 y11 y12 y13 y14 d0 d1 d2 d3 d4 d5 d6 d7 d8 d9 d10 d11 d12 d13 d14
 obtain ⟨c0,c1,c2,c3,c4,c5,c6,c7,c8,c9,c10,c11,c12,c13,c14⟩:=g9.cells
 exact bodyPost_ret (v:=.tuple #[.agg #[.int .i64 f.key.kind,.int .i64 f.key.src,.int .i64 f.key.frm,.int .i64 f.key.dst,.int .i64 f.key.too,.int .i64 f.st,.int .i64 f.unt,.int .i64 f.stp,.int .i64 f.h0,.int .i64 f.h1,.int .i64 f.w0,.int .i64 f.w1,.bool f.d0,.bool f.d1,.int .i64 f.num],.bool true]) (by simp [results,Tryz.results62,go_sem,c0,c1,c2,c3,c4,c5,c6,c7,c8,c9,c10,c11,c12,c13,c14]) rfl ⟨rfl,b9⟩
theorem say_any (f:Fl) (s:Sg) (a:Option Addr) (l c:Nat) (side:Int) (w:World) (hs:side=0∨side=1) (h0:0≤s.flg) (h15:s.flg≤15) (hq0:0≤s.seq) (hq1:s.seq≤4294967295) (hl:s.body.length=l) (hl4:l≤4000) (hh0:0≤f.h0∧f.h0≤4294967295) (hh1:0≤f.h1∧f.h1≤4294967295) :
  Calls Tryz.prog 62 #[flV f,segV s (.slice a l c),.int .i64 side] w fun e w'=>e = .returned (.tuple #[flV (sayF f s side),.bool (sayB f s side)])∧Below w.heap.size w w':=by
 unfold sayF sayB
 by_cases hk:f.key.kind=1
 ·rw [if_pos hk,if_pos hk]
  exact say_stream f s a l c side w hs h0 h15 hq0 hq1 hl hl4 hh0 hh1 hk
 ·rw [if_neg hk,if_neg hk]
  rcases hs with rfl|rfl
  ·rw [if_neg (by decide)]
   exact say_zero f s a l c w hk
  ·rw [if_pos rfl]
   exact say_one f s a l c w hk
end Go.Proofs.YtkhheooofcpfdaaGreatDoor
namespace Go.Proofs.YtkhheooofcpfdaaGreatDoor
open Go.RowKit
set_option linter.unusedVariables false
theorem zero_cells {w:World} {b:Nat} (h:FlAt w b zeroF) :
  w.cell? ⟨b,0,none⟩=some (.int .i64 0)∧w.cell? ⟨b,1,none⟩=some (.int .i64 0)∧w.cell? ⟨b,2,none⟩=some (.int .i64 0)∧w.cell? ⟨b,3,none⟩=some (.int .i64 0)∧w.cell? ⟨b,4,none⟩=some (.int .i64 0)∧w.cell? ⟨b,5,none⟩=some (.int .i64 0)∧w.cell? ⟨b,6,none⟩=some (.int .i64 0)∧w.cell? ⟨b,7,none⟩=some (.int .i64 0)∧w.cell? ⟨b,8,none⟩=some (.int .i64 0)∧w.cell? ⟨b,9,none⟩=some (.int .i64 0)∧w.cell? ⟨b,10,none⟩=some (.int .i64 0)∧w.cell? ⟨b,11,none⟩=some (.int .i64 0)∧w.cell? ⟨b,12,none⟩=some (.bool false)∧w.cell? ⟨b,13,none⟩=some (.bool false)∧w.cell? ⟨b,14,none⟩=some (.int .i64 0):=h.cells
theorem Fsz.wipe {w W:World} {f g:Fl} {s:Sg} {bv:Value} (h:Fsz w f s bv g W) :
  ∃ W',(((((((((((((((W.setCell ⟨w.heap.size+2,0,none⟩ (.int .i64 0)).setCell ⟨w.heap.size+2,1,none⟩ (.int .i64 0)).setCell ⟨w.heap.size+2,2,none⟩ (.int .i64 0)).setCell ⟨w.heap.size+2,3,none⟩ (.int .i64 0)).setCell ⟨w.heap.size+2,4,none⟩ (.int .i64 0)).setCell ⟨w.heap.size+2,5,none⟩ (.int .i64 0)).setCell ⟨w.heap.size+2,6,none⟩ (.int .i64 0)).setCell ⟨w.heap.size+2,7,none⟩ (.int .i64 0)).setCell ⟨w.heap.size+2,8,none⟩ (.int .i64 0)).setCell ⟨w.heap.size+2,9,none⟩ (.int .i64 0)).setCell ⟨w.heap.size+2,10,none⟩ (.int .i64 0)).setCell ⟨w.heap.size+2,11,none⟩ (.int .i64 0)).setCell ⟨w.heap.size+2,12,none⟩ (.bool false)).setCell ⟨w.heap.size+2,13,none⟩ (.bool false)).setCell ⟨w.heap.size+2,14,none⟩ (.int .i64 0))=W'∧FlAt W' (w.heap.size+2) zeroF∧Below w.heap.size w W':=h.fin zeroF
end Go.Proofs.YtkhheooofcpfdaaGreatDoor
