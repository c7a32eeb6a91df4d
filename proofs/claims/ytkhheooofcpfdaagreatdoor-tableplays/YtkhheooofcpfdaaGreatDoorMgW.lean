/- What reset of package track returns, for every flow and segment whose numbers may be. -/
import Derived.Test.YtkhheooofcpfdaaGreatDoorMgM
import Derived.Deep.DeepCutAuto
import Derived.Deep.RegionHeld3
namespace Go.Proofs.YtkhheooofcpfdaaGreatDoor
open Go.RowKit
set_option linter.unusedVariables false
set_option maxRecDepth 100000 in
set_option maxHeartbeats 16000000 in
theorem reset_any (f:Fl) (s:Sg) (a:Option Addr) (l c:Nat) (side:Int) (w:World) (hs:side=0∨side=1) (h0:0≤s.flg) (h15:s.flg≤15) :
  Calls Tryz.prog 108 #[flV f,segV s (.slice a l c),.int .i64 side] w fun e w'=>e = .returned (.tuple #[flV { f with st:=4 },.bool (rstB f s side)])∧Below w.heap.size w w':=by
 have h1:=Fsz.start w f s (.slice a l c)
 unfold fszW at h1
 obtain ⟨W1,hW1⟩:∃ W1,((w.alloc (.cells #[.int .i64 f.key.kind,.int .i64 f.key.src,.int .i64 f.key.frm,.int .i64 f.key.dst,.int .i64 f.key.too,.int .i64 f.st,.int .i64 f.unt,.int .i64 f.stp,.int .i64 f.h0,.int .i64 f.h1,.int .i64 f.w0,.int .i64 f.w1,.bool f.d0,.bool f.d1,.int .i64 f.num] 45)).alloc (.cells #[.int .i64 s.frm,.int .i64 s.too,.int .i64 s.seq,.int .i64 s.ack,.int .i64 s.win,.int .i64 s.flg,.slice a l c] 41)).alloc (.cells #[.int .i64 0,.int .i64 0,.int .i64 0,.int .i64 0,.int .i64 0,.int .i64 0,.int .i64 0,.int .i64 0,.int .i64 0,.int .i64 0,.int .i64 0,.int .i64 0,.bool false,.bool false,.int .i64 0] 45)=W1:=⟨_,rfl⟩
 rw [hW1] at h1
 have hh:=fun W=>has_any s 8 (.slice a l c) W h0 h15 (by omega)
 obtain ⟨r,HR⟩:∃ r,Hid (r=rstB f s side):=⟨_,rfl⟩
 rw [← HR.out]
 unfold rstB at HR
 obtain ⟨q,HQ⟩:∃ q:Fl,Hid (q = { f with st:=4 }):=⟨_,rfl⟩
 rw [← HQ.out]
 generalize flgB s 8=x8 at hh HR
 unfold flV segV at *
 clear h0 h15
 rcases hs with rfl|rfl
 ·go_enter Tryz.func108,Tryz.ntmps108
  go_upto_region 1 with fail
  try rw [hW1]
  clear hW1
  obtain ⟨c0,c1,c2,c3,c4,c5,c6,c7,c8,c9,c10,c11,c12,c13,c14⟩:=h1.fl.cells
  obtain ⟨s0,s1,s2,s3,s4,s5,s6⟩:=h1.sg.cells
  go_big_quiet (fail)
  have h2:=h1.drewN nq
  obtain ⟨W2,hW2⟩:∃ W2,W1.drewN nq=W2:=⟨_,rfl⟩
  rw [hW2] at h2 ⊢
  clear hW2 h1 c0 c1 c2 c3 c4 c5 c6 c7 c8 c9 c10 c11 c12 c13 c14 s0 s1 s2 s3 s4 s5 s6
  go_step
  go_step
  go_step
  go_cut [8] (fun v wr=>∃ x:Bool,v = .bool x∧Hid (r=x)∧Hid (Fsz w f s (.slice a l c) zeroF wr))
  case first =>
   have HR2:=hidE (show r=(s.seq == f.h0) by rw [HR.out,if_neg (by omega)];rfl)
   have HF:=hidE h2
   obtain ⟨c0,c1,c2,c3,c4,c5,c6,c7,c8,c9,c10,c11,c12,c13,c14⟩:=h2.fl.cells
   obtain ⟨s0,s1,s2,s3,s4,s5,s6⟩:=h2.sg.cells
   by_cases hst:f.st=1
   ·have e1:(f.st == 1)=true:=by simpa using hst
    clear hst
    go_wp2_with fail
    go_meet
    case rel=>exact ⟨_,rfl,HR2,HF⟩
   ·have e1:(f.st == 1)=false:=by simpa using hst
    clear hst
    go_wp2_with fail
    go_meet
    case rel=>exact ⟨_,rfl,HR2,HF⟩
  case rest =>
   clear HR h2 hh
   obtain ⟨x,rfl,HR2,HF⟩:=hcut
   have h3:=HF.out
   clear HF
   have f5:=h3.fl.free 5
   have e5:=h3.fl.cells.2.2.2.2.2.1
   go_upto_region 5 with fail
   obtain ⟨W5,hW5,h5⟩:=h3.put_st 4
   rw [hW5]
   rw [← HQ.out] at h5
   clear hW5 f5 e5
   obtain ⟨c0,c1,c2,c3,c4,c5,c6,c7,c8,c9,c10,c11,c12,c13,c14⟩:=h5.fl.cells
   obtain ⟨y0,y1,y2,y3,y4,y5,y6,y7,y8,y9,y10,y11,y12,y13,y14⟩:=h5.rs.frees
   obtain ⟨d0,d1,d2,d3,d4,d5,d6,d7,d8,d9,d10,d11,d12,d13,d14⟩:=h5.rs.cells
   go_wp2_with fail
   obtain ⟨W9,hW9,g9,b9⟩:=h5.fin (q:=q)
   first|rw [hW9]|(simp only at hW9;rw [hW9])
   clear hW9 c0 c1 c2 c3 c4 c5 c6 c7 c8 c9 c10 c11 c12 c13 c14 y0 y1 y2 y3 y4 y5 y6 y7 y8 y9 y10 y11 y12 y13 y14 d0 d1 d2 d3 d4 d5 d6 d7 d8 d9 d10 d11 d12 d13 d14
   obtain ⟨c0,c1,c2,c3,c4,c5,c6,c7,c8,c9,c10,c11,c12,c13,c14⟩:=g9.cells
   exact bodyPost_ret (v:=.tuple #[.agg #[.int .i64 q.key.kind,.int .i64 q.key.src,.int .i64 q.key.frm,.int .i64 q.key.dst,.int .i64 q.key.too,.int .i64 q.st,.int .i64 q.unt,.int .i64 q.stp,.int .i64 q.h0,.int .i64 q.h1,.int .i64 q.w0,.int .i64 q.w1,.bool q.d0,.bool q.d1,.int .i64 q.num],.bool x]) (by simp [results,Tryz.results108,go_sem,c0,c1,c2,c3,c4,c5,c6,c7,c8,c9,c10,c11,c12,c13,c14]) rfl ⟨by rw [HR2.out],b9⟩
 ·go_enter Tryz.func108,Tryz.ntmps108
  go_upto_region 1 with fail
  try rw [hW1]
  clear hW1
  obtain ⟨c0,c1,c2,c3,c4,c5,c6,c7,c8,c9,c10,c11,c12,c13,c14⟩:=h1.fl.cells
  obtain ⟨s0,s1,s2,s3,s4,s5,s6⟩:=h1.sg.cells
  go_big_quiet (fail)
  have h2:=h1.drewN nq
  obtain ⟨W2,hW2⟩:∃ W2,W1.drewN nq=W2:=⟨_,rfl⟩
  rw [hW2] at h2 ⊢
  clear hW2 h1 c0 c1 c2 c3 c4 c5 c6 c7 c8 c9 c10 c11 c12 c13 c14 s0 s1 s2 s3 s4 s5 s6
  go_step
  go_step
  go_step
  go_cut [8] (fun v wr=>∃ x:Bool,v = .bool x∧Hid (r=x)∧Hid (Fsz w f s (.slice a l c) zeroF wr))
  case first =>
   obtain ⟨c0,c1,c2,c3,c4,c5,c6,c7,c8,c9,c10,c11,c12,c13,c14⟩:=h2.fl.cells
   obtain ⟨s0,s1,s2,s3,s4,s5,s6⟩:=h2.sg.cells
   by_cases hst:f.st=1
   ·have e1:(f.st == 1)=true:=by simpa using hst
    have HR:=hidE (show r=(x8 && decide (s.ack=f.h0)) by rw [HR.out,if_pos ⟨hst,rfl⟩])
    clear hst
    rcases x8 with _|_
    ·have HR2:=hidE (show r=false by rw [HR.out];rfl)
     clear HR
     go_wp2_with (go_at_call 83;refine (hh _).mono ?_;rintro e w3 ⟨rfl,b3⟩;have h3:=h2.step b3;obtain ⟨c0,c1,c2,c3,c4,c5,c6,c7,c8,c9,c10,c11,c12,c13,c14⟩:=h3.fl.cells;obtain ⟨s0,s1,s2,s3,s4,s5,s6⟩:=h3.sg.cells)
     have HF:=hidE h3
     go_meet
     case rel=>exact ⟨_,rfl,HR2,HF⟩
    ·have HR2:=hidE (show r=(s.ack == f.h0) by rw [HR.out];rfl)
     clear HR
     go_wp2_with (go_at_call 83;refine (hh _).mono ?_;rintro e w3 ⟨rfl,b3⟩;have h3:=h2.step b3;obtain ⟨c0,c1,c2,c3,c4,c5,c6,c7,c8,c9,c10,c11,c12,c13,c14⟩:=h3.fl.cells;obtain ⟨s0,s1,s2,s3,s4,s5,s6⟩:=h3.sg.cells)
     have HF:=hidE h3
     go_meet
     case rel=>exact ⟨_,rfl,HR2,HF⟩
   ·have e1:(f.st == 1)=false:=by simpa using hst
    have HR2:=hidE (show r=(s.seq == f.h1) by rw [HR.out,if_neg (fun h=>hst h.1)];rfl)
    clear hst HR hh
    have HF:=hidE h2
    go_wp2_with fail
    go_meet
    case rel=>exact ⟨_,rfl,HR2,HF⟩
  case rest =>
   clear HR h2 hh
   obtain ⟨x,rfl,HR2,HF⟩:=hcut
   have h3:=HF.out
   clear HF
   have f5:=h3.fl.free 5
   have e5:=h3.fl.cells.2.2.2.2.2.1
   go_upto_region 5 with fail
   obtain ⟨W5,hW5,h5⟩:=h3.put_st 4
   rw [hW5]
   rw [← HQ.out] at h5
   clear hW5 f5 e5
   obtain ⟨c0,c1,c2,c3,c4,c5,c6,c7,c8,c9,c10,c11,c12,c13,c14⟩:=h5.fl.cells
   obtain ⟨y0,y1,y2,y3,y4,y5,y6,y7,y8,y9,y10,y11,y12,y13,y14⟩:=h5.rs.frees
   obtain ⟨d0,d1,d2,d3,d4,d5,d6,d7,d8,d9,d10,d11,d12,d13,d14⟩:=h5.rs.cells
   go_wp2_with fail
   obtain ⟨W9,hW9,g9,b9⟩:=h5.fin (q:=q)
   first|rw [hW9]|(simp only at hW9;rw [hW9])
   clear hW9 c0 c1 c2 c3 c4 c5 c6 c7 c8 c9 c10 c11 c12 c13 c14 y0 y1 y2 y3 y4 y5 y6 y7 y8 y9 y10 y11 y12 y13 y14 d0 d1 d2 d3 d4 d5 d6 d7 d8 d9 d10 d11 d12 d13 d14
   obtain ⟨c0,c1,c2,c3,c4,c5,c6,c7,c8,c9,c10,c11,c12,c13,c14⟩:=g9.cells
   exact bodyPost_ret (v:=.tuple #[.agg #[.int .i64 q.key.kind,.int .i64 q.key.src,.int .i64 q.key.frm,.int .i64 q.key.dst,.int .i64 q.key.too,.int .i64 q.st,.int .i64 q.unt,.int .i64 q.stp,.int .i64 q.h0,.int .i64 q.h1,.int .i64 q.w0,.int .i64 q.w1,.bool q.d0,.bool q.d1,.int .i64 q.num],.bool x]) (by simp [results,Tryz.results108,go_sem,c0,c1,c2,c3,c4,c5,c6,c7,c8,c9,c10,c11,c12,c13,c14]) rfl ⟨by rw [HR2.out],b9⟩
end Go.Proofs.YtkhheooofcpfdaaGreatDoor
namespace Go.Proofs.YtkhheooofcpfdaaGreatDoor
open Go.RowKit
set_option linter.unusedVariables false
set_option maxRecDepth 100000 in
set_option maxHeartbeats 16000000 in
theorem askAgain_any (f:Fl) (s:Sg) (a:Option Addr) (l c:Nat) (w:World) (h0:0≤s.flg) (h15:s.flg≤15) (hq0:0≤s.seq) (hq1:s.seq≤4294967295) (hl:s.body.length=l) (hl4:l≤4000) :
  Calls Tryz.prog 110 #[flV f,segV s (.slice a l c)] w fun e w'=>e = .returned (.tuple #[flV { f with w0:=s.win },.bool (decide (s.flg=2∧endI s=f.h0))])∧Below w.heap.size w w':=by
 have h1:=Fsz.start w f s (.slice a l c)
 unfold fszW at h1
 obtain ⟨W1,hW1⟩:∃ W1,((w.alloc (.cells #[.int .i64 f.key.kind,.int .i64 f.key.src,.int .i64 f.key.frm,.int .i64 f.key.dst,.int .i64 f.key.too,.int .i64 f.st,.int .i64 f.unt,.int .i64 f.stp,.int .i64 f.h0,.int .i64 f.h1,.int .i64 f.w0,.int .i64 f.w1,.bool f.d0,.bool f.d1,.int .i64 f.num] 45)).alloc (.cells #[.int .i64 s.frm,.int .i64 s.too,.int .i64 s.seq,.int .i64 s.ack,.int .i64 s.win,.int .i64 s.flg,.slice a l c] 41)).alloc (.cells #[.int .i64 0,.int .i64 0,.int .i64 0,.int .i64 0,.int .i64 0,.int .i64 0,.int .i64 0,.int .i64 0,.int .i64 0,.int .i64 0,.int .i64 0,.int .i64 0,.bool false,.bool false,.int .i64 0] 45)=W1:=⟨_,rfl⟩
 rw [hW1] at h1
 have hh:=fun W=>end_any s a l c W h0 h15 hq0 hq1 hl hl4
 obtain ⟨r,HR⟩:∃ r,Hid (r=decide (s.flg=2∧endI s=f.h0)):=⟨_,rfl⟩
 rw [← HR.out]
 obtain ⟨q,HQ⟩:∃ q:Fl,Hid (q = { f with w0:=s.win }):=⟨_,rfl⟩
 rw [← HQ.out]
 generalize endI s=en at hh HR
 unfold flV segV at *
 clear h0 h15 hq0 hq1 hl hl4
 go_enter Tryz.func110,Tryz.ntmps110
 go_upto_region 1 with fail
 try rw [hW1]
 clear hW1
 by_cases hf:s.flg=2
 ·have e0:(s.flg == 2)=true:=by simpa using hf
  have HR2:=hidE (show r=(en == f.h0) by rw [HR.out,show decide (s.flg=2∧en=f.h0)=decide (en=f.h0) by rw [decide_eq_decide];exact ⟨fun h=>h.2,fun h=>⟨hf,h⟩⟩];rfl)
  clear hf HR
  obtain ⟨c0,c1,c2,c3,c4,c5,c6,c7,c8,c9,c10,c11,c12,c13,c14⟩:=h1.fl.cells
  obtain ⟨s0,s1,s2,s3,s4,s5,s6⟩:=h1.sg.cells
  have c0:=Ext.cell c0
  have c1:=Ext.cell c1
  have c2:=Ext.cell c2
  have c3:=Ext.cell c3
  have c4:=Ext.cell c4
  have c5:=Ext.cell c5
  have c6:=Ext.cell c6
  have c7:=Ext.cell c7
  have c8:=Ext.cell c8
  have c9:=Ext.cell c9
  have c10:=Ext.cell c10
  have c11:=Ext.cell c11
  have c12:=Ext.cell c12
  have c13:=Ext.cell c13
  have c14:=Ext.cell c14
  have s0:=Ext.cell s0
  have s1:=Ext.cell s1
  have s2:=Ext.cell s2
  have s3:=Ext.cell s3
  have s4:=Ext.cell s4
  have s5:=Ext.cell s5
  have s6:=Ext.cell s6
  have hcl:=Ext.call (w:=W1) hh
  refine wp_region_ext (by kernel_rfl) (by kernel_rfl) ?_
  repeat (go_big_quiet_step ((go_at_call 58;exact hcl _)))
  refine wpQuiet_nil ?_
  rintro _ ⟨u,rfl⟩
  have h2:=h1.step u.h
  obtain ⟨W2,hW2⟩:∃ W2,u.W=W2:=⟨_,rfl⟩
  rw [hW2] at h2 ⊢
  clear hW2 u h1 c0 c1 c2 c3 c4 c5 c6 c7 c8 c9 c10 c11 c12 c13 c14 s0 s1 s2 s3 s4 s5 s6
  clear hcl hh
  have f10:=h2.fl.free 10
  have e10:=h2.fl.cells.2.2.2.2.2.2.2.2.2.2.1
  have e4:=h2.sg.cells.2.2.2.2.1
  go_upto_region 3 with fail
  obtain ⟨W5,hW5,h5⟩:=h2.put_w0 s.win
  rw [hW5]
  rw [← HQ.out] at h5
  clear hW5 f10 e10 e4
  obtain ⟨c0,c1,c2,c3,c4,c5,c6,c7,c8,c9,c10,c11,c12,c13,c14⟩:=h5.fl.cells
  obtain ⟨y0,y1,y2,y3,y4,y5,y6,y7,y8,y9,y10,y11,y12,y13,y14⟩:=h5.rs.frees
  obtain ⟨d0,d1,d2,d3,d4,d5,d6,d7,d8,d9,d10,d11,d12,d13,d14⟩:=h5.rs.cells
  go_wp2_with fail
  obtain ⟨W9,hW9,g9,b9⟩:=h5.fin (q:=q)
  first|rw [hW9]|(simp only at hW9;rw [hW9])
  clear hW9 c0 c1 c2 c3 c4 c5 c6 c7 c8 c9 c10 c11 c12 c13 c14 y0 y1 y2 y3 y4 y5 y6 y7 y8 y9 y10 y11 y12 y13 y14 d0 d1 d2 d3 d4 d5 d6 d7 d8 d9 d10 d11 d12 d13 d14
  obtain ⟨c0,c1,c2,c3,c4,c5,c6,c7,c8,c9,c10,c11,c12,c13,c14⟩:=g9.cells
  exact bodyPost_ret (v:=.tuple #[.agg #[.int .i64 q.key.kind,.int .i64 q.key.src,.int .i64 q.key.frm,.int .i64 q.key.dst,.int .i64 q.key.too,.int .i64 q.st,.int .i64 q.unt,.int .i64 q.stp,.int .i64 q.h0,.int .i64 q.h1,.int .i64 q.w0,.int .i64 q.w1,.bool q.d0,.bool q.d1,.int .i64 q.num],.bool (en == f.h0)]) (by simp [results,Tryz.results110,go_sem,c0,c1,c2,c3,c4,c5,c6,c7,c8,c9,c10,c11,c12,c13,c14]) rfl ⟨by rw [HR2.out],b9⟩
 ·have e0:(s.flg == 2)=false:=by simpa using hf
  have HR2:=hidE (show r=false by rw [HR.out];exact decide_eq_false fun h=>hf h.1)
  clear hf HR
  obtain ⟨c0,c1,c2,c3,c4,c5,c6,c7,c8,c9,c10,c11,c12,c13,c14⟩:=h1.fl.cells
  obtain ⟨s0,s1,s2,s3,s4,s5,s6⟩:=h1.sg.cells
  have c0:=Ext.cell c0
  have c1:=Ext.cell c1
  have c2:=Ext.cell c2
  have c3:=Ext.cell c3
  have c4:=Ext.cell c4
  have c5:=Ext.cell c5
  have c6:=Ext.cell c6
  have c7:=Ext.cell c7
  have c8:=Ext.cell c8
  have c9:=Ext.cell c9
  have c10:=Ext.cell c10
  have c11:=Ext.cell c11
  have c12:=Ext.cell c12
  have c13:=Ext.cell c13
  have c14:=Ext.cell c14
  have s0:=Ext.cell s0
  have s1:=Ext.cell s1
  have s2:=Ext.cell s2
  have s3:=Ext.cell s3
  have s4:=Ext.cell s4
  have s5:=Ext.cell s5
  have s6:=Ext.cell s6
  refine wp_region_ext (by kernel_rfl) (by kernel_rfl) ?_
  repeat (go_big_quiet_step (fail))
  refine wpQuiet_nil ?_
  rintro _ ⟨u,rfl⟩
  have h2:=h1.step u.h
  obtain ⟨W2,hW2⟩:∃ W2,u.W=W2:=⟨_,rfl⟩
  rw [hW2] at h2 ⊢
  clear hW2 u h1 c0 c1 c2 c3 c4 c5 c6 c7 c8 c9 c10 c11 c12 c13 c14 s0 s1 s2 s3 s4 s5 s6
  clear hh
  have f10:=h2.fl.free 10
  have e10:=h2.fl.cells.2.2.2.2.2.2.2.2.2.2.1
  have e4:=h2.sg.cells.2.2.2.2.1
  go_upto_region 3 with fail
  obtain ⟨W5,hW5,h5⟩:=h2.put_w0 s.win
  rw [hW5]
  rw [← HQ.out] at h5
  clear hW5 f10 e10 e4
  obtain ⟨c0,c1,c2,c3,c4,c5,c6,c7,c8,c9,c10,c11,c12,c13,c14⟩:=h5.fl.cells
  obtain ⟨y0,y1,y2,y3,y4,y5,y6,y7,y8,y9,y10,y11,y12,y13,y14⟩:=h5.rs.frees
  obtain ⟨d0,d1,d2,d3,d4,d5,d6,d7,d8,d9,d10,d11,d12,d13,d14⟩:=h5.rs.cells
  go_wp2_with fail
  obtain ⟨W9,hW9,g9,b9⟩:=h5.fin (q:=q)
  first|rw [hW9]|(simp only at hW9;rw [hW9])
  clear hW9 c0 c1 c2 c3 c4 c5 c6 c7 c8 c9 c10 c11 c12 c13 c14 y0 y1 y2 y3 y4 y5 y6 y7 y8 y9 y10 y11 y12 y13 y14 d0 d1 d2 d3 d4 d5 d6 d7 d8 d9 d10 d11 d12 d13 d14
  obtain ⟨c0,c1,c2,c3,c4,c5,c6,c7,c8,c9,c10,c11,c12,c13,c14⟩:=g9.cells
  exact bodyPost_ret (v:=.tuple #[.agg #[.int .i64 q.key.kind,.int .i64 q.key.src,.int .i64 q.key.frm,.int .i64 q.key.dst,.int .i64 q.key.too,.int .i64 q.st,.int .i64 q.unt,.int .i64 q.stp,.int .i64 q.h0,.int .i64 q.h1,.int .i64 q.w0,.int .i64 q.w1,.bool q.d0,.bool q.d1,.int .i64 q.num],.bool false]) (by simp [results,Tryz.results110,go_sem,c0,c1,c2,c3,c4,c5,c6,c7,c8,c9,c10,c11,c12,c13,c14]) rfl ⟨by rw [HR2.out],b9⟩
end Go.Proofs.YtkhheooofcpfdaaGreatDoor
