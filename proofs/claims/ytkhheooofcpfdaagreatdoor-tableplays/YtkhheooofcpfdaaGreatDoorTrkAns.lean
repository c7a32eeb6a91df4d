/- What answer of package track returns, for every flow and segment whose numbers may be. -/
import Derived.Test.YtkhheooofcpfdaaGreatDoorMgM
import Derived.Deep.RegionHeld3
namespace Go.Proofs.YtkhheooofcpfdaaGreatDoor
open Go.RowKit
set_option linter.unusedVariables false
set_option maxRecDepth 100000 in
set_option maxHeartbeats 16000000 in
theorem answer_any (f:Fl) (s:Sg) (a:Option Addr) (l c:Nat) (w:World) (h0:0≤s.flg) (h15:s.flg≤15) (hq0:0≤s.seq) (hq1:s.seq≤4294967295) (hl:s.body.length=l) (hl4:l≤4000) :
  Calls Tryz.prog 111 #[flV f,segV s (.slice a l c)] w fun e w'=>e = .returned (.tuple #[flV { f with st:=2,h1:=endI s,w1:=s.win },.bool (decide (s.flg=10∧s.ack=f.h0))])∧Below w.heap.size w w':=by
 have h1:=Fsz.start w f s (.slice a l c)
 unfold fszW at h1
 obtain ⟨W1,hW1⟩:∃ W1,((w.alloc (.cells #[.int .i64 f.key.kind,.int .i64 f.key.src,.int .i64 f.key.frm,.int .i64 f.key.dst,.int .i64 f.key.too,.int .i64 f.st,.int .i64 f.unt,.int .i64 f.stp,.int .i64 f.h0,.int .i64 f.h1,.int .i64 f.w0,.int .i64 f.w1,.bool f.d0,.bool f.d1,.int .i64 f.num] 45)).alloc (.cells #[.int .i64 s.frm,.int .i64 s.too,.int .i64 s.seq,.int .i64 s.ack,.int .i64 s.win,.int .i64 s.flg,.slice a l c] 41)).alloc (.cells #[.int .i64 0,.int .i64 0,.int .i64 0,.int .i64 0,.int .i64 0,.int .i64 0,.int .i64 0,.int .i64 0,.int .i64 0,.int .i64 0,.int .i64 0,.int .i64 0,.bool false,.bool false,.int .i64 0] 45)=W1:=⟨_,rfl⟩
 rw [hW1] at h1
 have hh:=fun W=>end_any s a l c W h0 h15 hq0 hq1 hl hl4
 obtain ⟨r,HR⟩:∃ r,Hid (r=decide (s.flg=10∧s.ack=f.h0)):=⟨_,rfl⟩
 rw [← HR.out]
 generalize endI s=en at hh
 obtain ⟨q,HQ⟩:∃ q:Fl,Hid (q = { f with st:=2,h1:=en,w1:=s.win }):=⟨_,rfl⟩
 rw [← HQ.out]
 unfold flV segV at *
 clear h0 h15 hq0 hq1 hl hl4
 go_enter Tryz.func111,Tryz.ntmps111
 go_upto_region 1 with fail
 try rw [hW1]
 clear hW1
 by_cases hf:s.flg=10
 ·have e0:(s.flg == 10)=true:=by simpa using hf
  have HR2:=hidE (show r=(s.ack == f.h0) by rw [HR.out,show decide (s.flg=10∧s.ack=f.h0)=decide (s.ack=f.h0) by rw [decide_eq_decide];exact ⟨fun h=>h.2,fun h=>⟨hf,h⟩⟩];rfl)
  clear hf HR
  have f5:=h1.fl.free 5
  obtain ⟨c0,c1,c2,c3,c4,c5,c6,c7,c8,c9,c10,c11,c12,c13,c14⟩:=h1.fl.cells
  obtain ⟨s0,s1,s2,s3,s4,s5,s6⟩:=h1.sg.cells
  go_upto_region 3 with fail
  obtain ⟨W2,hW2,h2⟩:=h1.put_st 2
  rw [hW2]
  clear hW2 f5 h1 c0 c1 c2 c3 c4 c5 c6 c7 c8 c9 c10 c11 c12 c13 c14 s0 s1 s2 s3 s4 s5 s6
  have hS:W2.cell? ⟨w.heap.size+1,0,none⟩=some (.int .i64 s.frm)∧W2.cell? ⟨w.heap.size+1,1,none⟩=some (.int .i64 s.too)∧W2.cell? ⟨w.heap.size+1,2,none⟩=some (.int .i64 s.seq)∧W2.cell? ⟨w.heap.size+1,3,none⟩=some (.int .i64 s.ack)∧W2.cell? ⟨w.heap.size+1,4,none⟩=some (.int .i64 s.win)∧W2.cell? ⟨w.heap.size+1,5,none⟩=some (.int .i64 s.flg)∧W2.cell? ⟨w.heap.size+1,6,none⟩=some (.slice a l c):=h2.sg.cells
  go_region_held3 (fun W=>W.cell? ⟨w.heap.size+1,0,none⟩=some (.int .i64 s.frm)∧W.cell? ⟨w.heap.size+1,1,none⟩=some (.int .i64 s.too)∧W.cell? ⟨w.heap.size+1,2,none⟩=some (.int .i64 s.seq)∧W.cell? ⟨w.heap.size+1,3,none⟩=some (.int .i64 s.ack)∧W.cell? ⟨w.heap.size+1,4,none⟩=some (.int .i64 s.win)∧W.cell? ⟨w.heap.size+1,5,none⟩=some (.int .i64 s.flg)∧W.cell? ⟨w.heap.size+1,6,none⟩=some (.slice a l c)) (with_reducible first|assumption|go_keep) (first|(go_at_call 58;refine (hh _).mono ?_;rintro e W3 ⟨rfl,b3⟩;have h3:=h2.drew.step b3;have hS3:W3.cell? ⟨w.heap.size+1,0,none⟩=some (.int .i64 s.frm)∧W3.cell? ⟨w.heap.size+1,1,none⟩=some (.int .i64 s.too)∧W3.cell? ⟨w.heap.size+1,2,none⟩=some (.int .i64 s.seq)∧W3.cell? ⟨w.heap.size+1,3,none⟩=some (.int .i64 s.ack)∧W3.cell? ⟨w.heap.size+1,4,none⟩=some (.int .i64 s.win)∧W3.cell? ⟨w.heap.size+1,5,none⟩=some (.int .i64 s.flg)∧W3.cell? ⟨w.heap.size+1,6,none⟩=some (.slice a l c):=h3.sg.cells;have e9:=h3.fl.cells.2.2.2.2.2.2.2.2.2.1;have f9:=h3.fl.free 9;obtain ⟨W4,hW4,h4⟩:=h3.put_h1 en;have e11:=h4.fl.cells.2.2.2.2.2.2.2.2.2.2.2.1;have f11:=h4.fl.free 11;obtain ⟨W5,hW5,h5⟩:=h4.put_w1 s.win;have hS4:W4.cell? ⟨w.heap.size+1,0,none⟩=some (.int .i64 s.frm)∧W4.cell? ⟨w.heap.size+1,1,none⟩=some (.int .i64 s.too)∧W4.cell? ⟨w.heap.size+1,2,none⟩=some (.int .i64 s.seq)∧W4.cell? ⟨w.heap.size+1,3,none⟩=some (.int .i64 s.ack)∧W4.cell? ⟨w.heap.size+1,4,none⟩=some (.int .i64 s.win)∧W4.cell? ⟨w.heap.size+1,5,none⟩=some (.int .i64 s.flg)∧W4.cell? ⟨w.heap.size+1,6,none⟩=some (.slice a l c):=h4.sg.cells;have hS5:W5.cell? ⟨w.heap.size+1,0,none⟩=some (.int .i64 s.frm)∧W5.cell? ⟨w.heap.size+1,1,none⟩=some (.int .i64 s.too)∧W5.cell? ⟨w.heap.size+1,2,none⟩=some (.int .i64 s.seq)∧W5.cell? ⟨w.heap.size+1,3,none⟩=some (.int .i64 s.ack)∧W5.cell? ⟨w.heap.size+1,4,none⟩=some (.int .i64 s.win)∧W5.cell? ⟨w.heap.size+1,5,none⟩=some (.int .i64 s.flg)∧W5.cell? ⟨w.heap.size+1,6,none⟩=some (.slice a l c):=h5.sg.cells))
  try rw [hW4,hW5]
  rw [← HQ.out] at h5
  clear hS hS3 hS4 hS5 e9 f9 e11 f11 hW4 hW5 h4 h3 h2 b3 hh
  obtain ⟨c0,c1,c2,c3,c4,c5,c6,c7,c8,c9,c10,c11,c12,c13,c14⟩:=h5.fl.cells
  obtain ⟨y0,y1,y2,y3,y4,y5,y6,y7,y8,y9,y10,y11,y12,y13,y14⟩:=h5.rs.frees
  obtain ⟨d0,d1,d2,d3,d4,d5,d6,d7,d8,d9,d10,d11,d12,d13,d14⟩:=h5.rs.cells
  go_wp2_with fail
  obtain ⟨W9,hW9,g9,b9⟩:=h5.fin (q:=q)
  first|rw [hW9]|(simp only at hW9;rw [hW9])
  clear hW9 c0 c1 c2 c3 c4 c5 c6 c7 c8 c9 c10 c11 c12 c13 c14 y0 y1 y2 y3 y4 y5 y6 y7 y8 y9 y10 y11 y12 y13 y14 d0 d1 d2 d3 d4 d5 d6 d7 d8 d9 d10 d11 d12 d13 d14
  obtain ⟨c0,c1,c2,c3,c4,c5,c6,c7,c8,c9,c10,c11,c12,c13,c14⟩:=g9.cells
  exact bodyPost_ret (v:=.tuple #[.agg #[.int .i64 q.key.kind,.int .i64 q.key.src,.int .i64 q.key.frm,.int .i64 q.key.dst,.int .i64 q.key.too,.int .i64 q.st,.int .i64 q.unt,.int .i64 q.stp,.int .i64 q.h0,.int .i64 q.h1,.int .i64 q.w0,.int .i64 q.w1,.bool q.d0,.bool q.d1,.int .i64 q.num],.bool (s.ack == f.h0)]) (by simp [results,Tryz.results111,go_sem,c0,c1,c2,c3,c4,c5,c6,c7,c8,c9,c10,c11,c12,c13,c14]) rfl ⟨by rw [HR2.out],b9⟩
 ·have e0:(s.flg == 10)=false:=by simpa using hf
  have HR2:=hidE (show r=false by rw [HR.out];exact decide_eq_false fun h=>hf h.1)
  clear hf HR
  have f5:=h1.fl.free 5
  obtain ⟨c0,c1,c2,c3,c4,c5,c6,c7,c8,c9,c10,c11,c12,c13,c14⟩:=h1.fl.cells
  obtain ⟨s0,s1,s2,s3,s4,s5,s6⟩:=h1.sg.cells
  go_upto_region 3 with fail
  obtain ⟨W2,hW2,h2⟩:=h1.put_st 2
  rw [hW2]
  clear hW2 f5 h1 c0 c1 c2 c3 c4 c5 c6 c7 c8 c9 c10 c11 c12 c13 c14 s0 s1 s2 s3 s4 s5 s6
  have hS:W2.cell? ⟨w.heap.size+1,0,none⟩=some (.int .i64 s.frm)∧W2.cell? ⟨w.heap.size+1,1,none⟩=some (.int .i64 s.too)∧W2.cell? ⟨w.heap.size+1,2,none⟩=some (.int .i64 s.seq)∧W2.cell? ⟨w.heap.size+1,3,none⟩=some (.int .i64 s.ack)∧W2.cell? ⟨w.heap.size+1,4,none⟩=some (.int .i64 s.win)∧W2.cell? ⟨w.heap.size+1,5,none⟩=some (.int .i64 s.flg)∧W2.cell? ⟨w.heap.size+1,6,none⟩=some (.slice a l c):=h2.sg.cells
  go_region_held3 (fun W=>W.cell? ⟨w.heap.size+1,0,none⟩=some (.int .i64 s.frm)∧W.cell? ⟨w.heap.size+1,1,none⟩=some (.int .i64 s.too)∧W.cell? ⟨w.heap.size+1,2,none⟩=some (.int .i64 s.seq)∧W.cell? ⟨w.heap.size+1,3,none⟩=some (.int .i64 s.ack)∧W.cell? ⟨w.heap.size+1,4,none⟩=some (.int .i64 s.win)∧W.cell? ⟨w.heap.size+1,5,none⟩=some (.int .i64 s.flg)∧W.cell? ⟨w.heap.size+1,6,none⟩=some (.slice a l c)) (with_reducible first|assumption|go_keep) (first|(go_at_call 58;refine (hh _).mono ?_;rintro e W3 ⟨rfl,b3⟩;have h3:=h2.drew.step b3;have hS3:W3.cell? ⟨w.heap.size+1,0,none⟩=some (.int .i64 s.frm)∧W3.cell? ⟨w.heap.size+1,1,none⟩=some (.int .i64 s.too)∧W3.cell? ⟨w.heap.size+1,2,none⟩=some (.int .i64 s.seq)∧W3.cell? ⟨w.heap.size+1,3,none⟩=some (.int .i64 s.ack)∧W3.cell? ⟨w.heap.size+1,4,none⟩=some (.int .i64 s.win)∧W3.cell? ⟨w.heap.size+1,5,none⟩=some (.int .i64 s.flg)∧W3.cell? ⟨w.heap.size+1,6,none⟩=some (.slice a l c):=h3.sg.cells;have e9:=h3.fl.cells.2.2.2.2.2.2.2.2.2.1;have f9:=h3.fl.free 9;obtain ⟨W4,hW4,h4⟩:=h3.put_h1 en;have e11:=h4.fl.cells.2.2.2.2.2.2.2.2.2.2.2.1;have f11:=h4.fl.free 11;obtain ⟨W5,hW5,h5⟩:=h4.put_w1 s.win;have hS4:W4.cell? ⟨w.heap.size+1,0,none⟩=some (.int .i64 s.frm)∧W4.cell? ⟨w.heap.size+1,1,none⟩=some (.int .i64 s.too)∧W4.cell? ⟨w.heap.size+1,2,none⟩=some (.int .i64 s.seq)∧W4.cell? ⟨w.heap.size+1,3,none⟩=some (.int .i64 s.ack)∧W4.cell? ⟨w.heap.size+1,4,none⟩=some (.int .i64 s.win)∧W4.cell? ⟨w.heap.size+1,5,none⟩=some (.int .i64 s.flg)∧W4.cell? ⟨w.heap.size+1,6,none⟩=some (.slice a l c):=h4.sg.cells;have hS5:W5.cell? ⟨w.heap.size+1,0,none⟩=some (.int .i64 s.frm)∧W5.cell? ⟨w.heap.size+1,1,none⟩=some (.int .i64 s.too)∧W5.cell? ⟨w.heap.size+1,2,none⟩=some (.int .i64 s.seq)∧W5.cell? ⟨w.heap.size+1,3,none⟩=some (.int .i64 s.ack)∧W5.cell? ⟨w.heap.size+1,4,none⟩=some (.int .i64 s.win)∧W5.cell? ⟨w.heap.size+1,5,none⟩=some (.int .i64 s.flg)∧W5.cell? ⟨w.heap.size+1,6,none⟩=some (.slice a l c):=h5.sg.cells))
  try rw [hW4,hW5]
  rw [← HQ.out] at h5
  clear hS hS3 hS4 hS5 e9 f9 e11 f11 hW4 hW5 h4 h3 h2 b3 hh
  obtain ⟨c0,c1,c2,c3,c4,c5,c6,c7,c8,c9,c10,c11,c12,c13,c14⟩:=h5.fl.cells
  obtain ⟨y0,y1,y2,y3,y4,y5,y6,y7,y8,y9,y10,y11,y12,y13,y14⟩:=h5.rs.frees
  obtain ⟨d0,d1,d2,d3,d4,d5,d6,d7,d8,d9,d10,d11,d12,d13,d14⟩:=h5.rs.cells
  go_wp2_with fail
  obtain ⟨W9,hW9,g9,b9⟩:=h5.fin (q:=q)
  first|rw [hW9]|(simp only at hW9;rw [hW9])
  clear hW9 c0 c1 c2 c3 c4 c5 c6 c7 c8 c9 c10 c11 c12 c13 c14 y0 y1 y2 y3 y4 y5 y6 y7 y8 y9 y10 y11 y12 y13 y14 d0 d1 d2 d3 d4 d5 d6 d7 d8 d9 d10 d11 d12 d13 d14
  obtain ⟨c0,c1,c2,c3,c4,c5,c6,c7,c8,c9,c10,c11,c12,c13,c14⟩:=g9.cells
  exact bodyPost_ret (v:=.tuple #[.agg #[.int .i64 q.key.kind,.int .i64 q.key.src,.int .i64 q.key.frm,.int .i64 q.key.dst,.int .i64 q.key.too,.int .i64 q.st,.int .i64 q.unt,.int .i64 q.stp,.int .i64 q.h0,.int .i64 q.h1,.int .i64 q.w0,.int .i64 q.w1,.bool q.d0,.bool q.d1,.int .i64 q.num],.bool false]) (by simp [results,Tryz.results111,go_sem,c0,c1,c2,c3,c4,c5,c6,c7,c8,c9,c10,c11,c12,c13,c14]) rfl ⟨by rw [HR2.out],b9⟩
end Go.Proofs.YtkhheooofcpfdaaGreatDoor
