/- What goOn of package track returns, for every flow and segment whose numbers may be. -/
import Derived.Test.YtkhheooofcpfdaaGreatDoorTrkMay
namespace Go.Proofs.YtkhheooofcpfdaaGreatDoor
open Go.RowKit
set_option linter.unusedVariables false
set_option maxRecDepth 100000 in
set_option maxHeartbeats 32000000 in
theorem goOn_0 (f:Fl) (s:Sg) (a:Option Addr) (l c:Nat) (w:World) (h0:0≤s.flg) (h15:s.flg≤15) (hq0:0≤s.seq) (hq1:s.seq≤4294967295) (hl:s.body.length=l) (hl4:l≤4000)
  (hh0:0≤f.h0∧f.h0≤4294967295) (hh1:0≤f.h1∧f.h1≤4294967295) :
  Calls Tryz.prog 109 #[flV f,segV s (.slice a l c),.int .i64 0] w fun e w'=>e = .returned (.tuple #[flV (goF f s 0),.bool (goB f s 0)])∧Below w.heap.size w w':=by
 have h1:=Fsz.start w f s (.slice a l c)
 unfold fszW at h1
 obtain ⟨W1,hW1⟩:∃ W1,((w.alloc (.cells #[.int .i64 f.key.kind,.int .i64 f.key.src,.int .i64 f.key.frm,.int .i64 f.key.dst,.int .i64 f.key.too,.int .i64 f.st,.int .i64 f.unt,.int .i64 f.stp,.int .i64 f.h0,.int .i64 f.h1,.int .i64 f.w0,.int .i64 f.w1,.bool f.d0,.bool f.d1,.int .i64 f.num] 45)).alloc (.cells #[.int .i64 s.frm,.int .i64 s.too,.int .i64 s.seq,.int .i64 s.ack,.int .i64 s.win,.int .i64 s.flg,.slice a l c] 41)).alloc (.cells #[.int .i64 0,.int .i64 0,.int .i64 0,.int .i64 0,.int .i64 0,.int .i64 0,.int .i64 0,.int .i64 0,.int .i64 0,.int .i64 0,.int .i64 0,.int .i64 0,.bool false,.bool false,.int .i64 0] 45)=W1:=⟨_,rfl⟩
 rw [hW1] at h1
 have cm:=fun W=>mayGoOn_any f s a l c 0 W (by omega) h0 h15 hq0 hq1 hl hl4 hh0 hh1
 have c1:=fun W=>has_any s 1 (.slice a l c) W h0 h15 (by omega)
 have ce:=fun W=>end_any s a l c W h0 h15 hq0 hq1 hl hl4
 have er:=endI_range s
 have ca:=quietB fun W=>ahead_any (endI s) f.h0 W er hh0
 generalize goB f s 0=r at cm ⊢
 obtain ⟨q,HQ⟩:∃ q,Hid (q=goF f s 0):=⟨_,rfl⟩
 rw [← HQ.out]
 unfold goF topI at HQ
 rw [if_pos rfl] at HQ
 rw [show hiF f 0=f.h0 from rfl] at HQ
 generalize flgB s 1=fi at c1 HQ
 generalize ahB (endI s) f.h0=ah at ca HQ
 generalize endI s=en at ce ca HQ
 have HC1:=hidE c1
 have HCE:=hidE ce
 unfold flV segV at *
 clear h0 h15 hq0 hq1 hl hl4 hh0 hh1 er c1 ce
 go_enter Tryz.func109,Tryz.ntmps109
 go_upto_region 1 with fail
 try rw [hW1]
 clear hW1
 obtain ⟨c0,c1,c2,c3,c4,c5,c6,c7,c8,c9,c10,c11,c12,c13,c14⟩:=h1.fl.cells
 obtain ⟨s0,s1,s2,s3,s4,s5,s6⟩:=h1.sg.cells
 go_upto_region 2 with (go_at_call 122;refine (cm _).mono ?_;rintro e W2 ⟨rfl,b2⟩)
 have h2:=h1.step b2
 clear h1 b2 cm
 clear c0 c1 c2 c3 c4 c5 c6 c7 c8 c9 c10 c11 c12 c13 c14 s0 s1 s2 s3 s4 s5 s6
 have hce:=Ext.call (w:=W2) HCE.out
 have hca:=Ext.call (w:=W2) ca
 obtain ⟨c0,c1,c2,c3,c4,c5,c6,c7,c8,c9,c10,c11,c12,c13,c14⟩:=h2.fl.cells
 obtain ⟨s0,s1,s2,s3,s4,s5,s6⟩:=h2.sg.cells
 have c8:=Ext.cell c8
 have c9:=Ext.cell c9
 have c10:=Ext.cell c10
 have c11:=Ext.cell c11
 have c12:=Ext.cell c12
 have c13:=Ext.cell c13
 have s0:=Ext.cell s0
 have s1:=Ext.cell s1
 have s2:=Ext.cell s2
 have s3:=Ext.cell s3
 have s4:=Ext.cell s4
 have s5:=Ext.cell s5
 have s6:=Ext.cell s6
 clear c0 c1 c2 c3 c4 c5 c6 c7 c14
 refine wp_region_ext (by kernel_rfl) (by kernel_rfl) ?_
 repeat (go_big_quiet_step ((first|(go_at_call 58;exact hce _)|(go_at_call 123;exact hca _))))
 refine wpQuiet_nil ?_
 rintro _ ⟨u,rfl⟩
 have h3:=h2.step u.h
 obtain ⟨Wh3,hWh3⟩:∃ W2,u.W=W2:=⟨_,rfl⟩
 rw [hWh3] at h3 ⊢
 clear hWh3 u h2 c8 c9 c10 c11 c12 c13 s0 s1 s2 s3 s4 s5 s6
 clear hce hca ca
 obtain ⟨g1,HG1⟩:∃ g:Fl,Hid (g = { f with h0:=if ah=true then en else f.h0 }):=⟨_,rfl⟩
 go_step
 go_step
 go_cut [] (fun wr=>Hid (Fsz w g1 s (.slice a l c) zeroF wr))
 case first =>
  rcases ah with _|_
  ·have HF:=hidE (show Fsz w g1 s (.slice a l c) zeroF Wh3 by rw [HG1.out];exact h3)
   go_wp2_with fail
   go_meet
   case rel=>exact HF
  ·obtain ⟨c0,c1,c2,c3,c4,c5,c6,c7,c8,c9,c10,c11,c12,c13,c14⟩:=h3.fl.cells
   obtain ⟨s0,s1,s2,s3,s4,s5,s6⟩:=h3.sg.cells
   go_wp2_with (go_at_call 58;refine (HCE.out _).mono ?_;rintro e W4 ⟨rfl,b4⟩;have h4:=h3.step b4;have e8:=h4.fl.free 8;obtain ⟨c0,c1,c2,c3,c4,c5,c6,c7,c8,c9,c10,c11,c12,c13,c14⟩:=h4.fl.cells)
   obtain ⟨W5,hW5,h5⟩:=h4.put_h0 en
   try rw [hW5]
   have HF:=hidE (show Fsz w g1 s (.slice a l c) zeroF W5 by rw [HG1.out];exact h5)
   go_meet
   case rel=>exact HF
 case rest =>
  clear h3
  have h4:=hcut.out
  obtain ⟨W4,hW4⟩:∃ W4,wc=W4:=⟨_,rfl⟩
  rw [hW4] at h4 ⊢
  clear hW4 hcut
  obtain ⟨c0,c1,c2,c3,c4,c5,c6,c7,c8,c9,c10,c11,c12,c13,c14⟩:=h4.fl.cells
  obtain ⟨s0,s1,s2,s3,s4,s5,s6⟩:=h4.sg.cells
  have e10:=h4.fl.free 10
  go_upto_region 5 with fail
  obtain ⟨W5,hW5,h5⟩:=h4.put_w0 s.win
  rw [hW5]
  obtain ⟨g2,HG2⟩:∃ g:Fl,Hid (g = { g1 with w0:=s.win }):=⟨_,rfl⟩
  rw [← HG2.out] at h5
  clear hW5 h4 e10
  clear c0 c1 c2 c3 c4 c5 c6 c7 c8 c9 c10 c11 c12 c13 c14 s0 s1 s2 s3 s4 s5 s6
  obtain ⟨g3,HG3⟩:∃ g:Fl,Hid (g = { g2 with d0:=g2.d0 || fi }):=⟨_,rfl⟩
  go_cut [] (fun wr=>Hid (Fsz w g3 s (.slice a l c) zeroF wr))
  case first =>
   obtain ⟨dv,hdv⟩:∃ dv,g2.d0=dv:=⟨_,rfl⟩
   rw [hdv] at HG3
   obtain ⟨c0,c1,c2,c3,c4,c5,c6,c7,c8,c9,c10,c11,c12,c13,c14⟩:=h5.fl.cells
   obtain ⟨s0,s1,s2,s3,s4,s5,s6⟩:=h5.sg.cells
   have e12:=h5.fl.free 12
   rw [hdv] at c12
   have HDV:=hidE hdv
   clear hdv
   rcases dv with _|_
   ·go_wp2_with (go_at_call 83;refine (HC1.out _).mono ?_;rintro e W6 ⟨rfl,b6⟩;have h6:=h5.step b6;have e12:=h6.fl.free 12;obtain ⟨c0,c1,c2,c3,c4,c5,c6,c7,c8,c9,c10,c11,c12,c13,c14⟩:=h6.fl.cells)
    obtain ⟨W7,hW7,h7⟩:=h6.put_d0 fi
    try rw [hW7]
    have HF:=hidE (show Fsz w g3 s (.slice a l c) zeroF W7 by rw [HG3.out];simpa using h7)
    go_meet
    case rel=>exact HF
   ·go_wp2_with fail
    obtain ⟨W7,hW7,h7⟩:=h5.put_d0 true
    try rw [hW7]
    have HF:=hidE (show Fsz w g3 s (.slice a l c) zeroF W7 by rw [HG3.out];simpa using h7)
    go_meet
    case rel=>exact HF
  case rest =>
   clear h5
   have h6:=hcut.out
   obtain ⟨W6,hW6⟩:∃ W6,wc=W6:=⟨_,rfl⟩
   rw [hW6] at h6 ⊢
   clear hW6 hcut
   obtain ⟨z,HZ⟩:∃ z,Hid (z=stG g3.d0 g3.d1 g3.st):=⟨_,rfl⟩
   have HQ:=hidE (show q = { g3 with st:=z } by rw [HQ.out,HZ.out,HG3.out,HG2.out,HG1.out])
   clear HG1 HG2 HG3 HC1 HCE
   go_step
   go_step
   go_cut [] (fun wr=>Hid (Fsz w q s (.slice a l c) zeroF wr))
   case first =>
    obtain ⟨x,hx⟩:∃ x,g3.d0=x:=⟨_,rfl⟩
    obtain ⟨y,hy⟩:∃ y,g3.d1=y:=⟨_,rfl⟩
    rw [hx,hy] at HZ
    obtain ⟨c0,c1,c2,c3,c4,c5,c6,c7,c8,c9,c10,c11,c12,c13,c14⟩:=h6.fl.cells
    obtain ⟨s0,s1,s2,s3,s4,s5,s6⟩:=h6.sg.cells
    have e5:=h6.fl.free 5
    rw [hx] at c12
    rw [hy] at c13
    clear hx hy
    rcases x with _|_
    ·rcases y with _|_
     ·have HQ2:=hidE (show q=g3 by rw [HQ.out,show z=g3.st by rw [HZ.out];unfold stG;rw [if_neg (by decide),if_neg (fun h=>by cases h.1)]])
      clear HQ
      have HF:=hidE (show Fsz w q s (.slice a l c) zeroF W6 by rw [HQ2.out];exact h6)
      go_wp2_with fail
      go_meet
      case rel=>exact HF
     ·by_cases h4:g3.st=4
      ·have HQ2:=hidE (show q=g3 by rw [HQ.out,show z=g3.st by rw [HZ.out];unfold stG;rw [if_neg (by decide),if_neg (fun h=>h.2 h4)]])
       have e4:(g3.st != 4)=false:=by simp [h4]
       clear h4 HQ
       have HF:=hidE (show Fsz w q s (.slice a l c) zeroF W6 by rw [HQ2.out];exact h6)
       go_wp2_with fail
       go_meet
       case rel=>exact HF
      ·have HQ2:=hidE (show q = { g3 with st:=3 } by rw [HQ.out,show z=3 by rw [HZ.out];unfold stG;rw [if_neg (by decide),if_pos ⟨rfl,h4⟩]])
       have e4:(g3.st != 4)=true:=by simpa using h4
       clear h4 HQ
       go_wp2_with fail
       obtain ⟨W7,hW7,h7⟩:=h6.put_st 3
       try rw [hW7]
       have HF:=hidE (show Fsz w q s (.slice a l c) zeroF W7 by rw [HQ2.out];exact h7)
       go_meet
       case rel=>exact HF
    ·rcases y with _|_
     ·by_cases h4:g3.st=4
      ·have HQ2:=hidE (show q=g3 by rw [HQ.out,show z=g3.st by rw [HZ.out];unfold stG;rw [if_neg (by decide),if_neg (fun h=>h.2 h4)]])
       have e4:(g3.st != 4)=false:=by simp [h4]
       clear h4 HQ
       have HF:=hidE (show Fsz w q s (.slice a l c) zeroF W6 by rw [HQ2.out];exact h6)
       go_wp2_with fail
       go_meet
       case rel=>exact HF
      ·have HQ2:=hidE (show q = { g3 with st:=3 } by rw [HQ.out,show z=3 by rw [HZ.out];unfold stG;rw [if_neg (by decide),if_pos ⟨rfl,h4⟩]])
       have e4:(g3.st != 4)=true:=by simpa using h4
       clear h4 HQ
       go_wp2_with fail
       obtain ⟨W7,hW7,h7⟩:=h6.put_st 3
       try rw [hW7]
       have HF:=hidE (show Fsz w q s (.slice a l c) zeroF W7 by rw [HQ2.out];exact h7)
       go_meet
       case rel=>exact HF
     ·have HQ2:=hidE (show q = { g3 with st:=4 } by rw [HQ.out,show z=4 by rw [HZ.out];unfold stG;rw [if_pos (by decide)]])
      clear HQ
      go_wp2_with fail
      obtain ⟨W7,hW7,h7⟩:=h6.put_st 4
      try rw [hW7]
      have HF:=hidE (show Fsz w q s (.slice a l c) zeroF W7 by rw [HQ2.out];exact h7)
      go_meet
      case rel=>exact HF
   case rest =>
    clear h6 HQ HZ
    have h7:=hcut.out
    clear hcut
    obtain ⟨c0,c1,c2,c3,c4,c5,c6,c7,c8,c9,c10,c11,c12,c13,c14⟩:=h7.fl.cells
    obtain ⟨y0,y1,y2,y3,y4,y5,y6,y7,y8,y9,y10,y11,y12,y13,y14⟩:=h7.rs.frees
    obtain ⟨d0,d1,d2,d3,d4,d5,d6,d7,d8,d9,d10,d11,d12,d13,d14⟩:=h7.rs.cells
    go_wp2_with fail
    obtain ⟨W9,hW9,g9,b9⟩:=h7.fin (q:=q)
    first|rw [hW9]|(simp only at hW9;rw [hW9])
    clear hW9 c0 c1 c2 c3 c4 c5 c6 c7 c8 c9 c10 c11 c12 c13 c14 y0 y1 y2 y3 y4 y5 y6 y7 y8 y9 y10 y11 y12 y13 y14 d0 d1 d2 d3 d4 d5 d6 d7 d8 d9 d10 d11 d12 d13 d14
    obtain ⟨c0,c1,c2,c3,c4,c5,c6,c7,c8,c9,c10,c11,c12,c13,c14⟩:=g9.cells
    exact bodyPost_ret (v:=.tuple #[.agg #[.int .i64 q.key.kind,.int .i64 q.key.src,.int .i64 q.key.frm,.int .i64 q.key.dst,.int .i64 q.key.too,.int .i64 q.st,.int .i64 q.unt,.int .i64 q.stp,.int .i64 q.h0,.int .i64 q.h1,.int .i64 q.w0,.int .i64 q.w1,.bool q.d0,.bool q.d1,.int .i64 q.num],.bool r]) (by simp [results,Tryz.results109,go_sem,c0,c1,c2,c3,c4,c5,c6,c7,c8,c9,c10,c11,c12,c13,c14]) rfl ⟨rfl,b9⟩
set_option maxRecDepth 100000 in
set_option maxHeartbeats 32000000 in
theorem goOn_1 (f:Fl) (s:Sg) (a:Option Addr) (l c:Nat) (w:World) (h0:0≤s.flg) (h15:s.flg≤15) (hq0:0≤s.seq) (hq1:s.seq≤4294967295) (hl:s.body.length=l) (hl4:l≤4000)
  (hh0:0≤f.h0∧f.h0≤4294967295) (hh1:0≤f.h1∧f.h1≤4294967295) :
  Calls Tryz.prog 109 #[flV f,segV s (.slice a l c),.int .i64 1] w fun e w'=>e = .returned (.tuple #[flV (goF f s 1),.bool (goB f s 1)])∧Below w.heap.size w w':=by
 have h1:=Fsz.start w f s (.slice a l c)
 unfold fszW at h1
 obtain ⟨W1,hW1⟩:∃ W1,((w.alloc (.cells #[.int .i64 f.key.kind,.int .i64 f.key.src,.int .i64 f.key.frm,.int .i64 f.key.dst,.int .i64 f.key.too,.int .i64 f.st,.int .i64 f.unt,.int .i64 f.stp,.int .i64 f.h0,.int .i64 f.h1,.int .i64 f.w0,.int .i64 f.w1,.bool f.d0,.bool f.d1,.int .i64 f.num] 45)).alloc (.cells #[.int .i64 s.frm,.int .i64 s.too,.int .i64 s.seq,.int .i64 s.ack,.int .i64 s.win,.int .i64 s.flg,.slice a l c] 41)).alloc (.cells #[.int .i64 0,.int .i64 0,.int .i64 0,.int .i64 0,.int .i64 0,.int .i64 0,.int .i64 0,.int .i64 0,.int .i64 0,.int .i64 0,.int .i64 0,.int .i64 0,.bool false,.bool false,.int .i64 0] 45)=W1:=⟨_,rfl⟩
 rw [hW1] at h1
 have cm:=fun W=>mayGoOn_any f s a l c 1 W (by omega) h0 h15 hq0 hq1 hl hl4 hh0 hh1
 have c1:=fun W=>has_any s 1 (.slice a l c) W h0 h15 (by omega)
 have ce:=fun W=>end_any s a l c W h0 h15 hq0 hq1 hl hl4
 have er:=endI_range s
 have ca:=quietB fun W=>ahead_any (endI s) f.h1 W er hh1
 generalize goB f s 1=r at cm ⊢
 obtain ⟨q,HQ⟩:∃ q,Hid (q=goF f s 1):=⟨_,rfl⟩
 rw [← HQ.out]
 unfold goF topI at HQ
 rw [if_neg (by decide)] at HQ
 rw [show hiF f 1=f.h1 from rfl] at HQ
 generalize flgB s 1=fi at c1 HQ
 generalize ahB (endI s) f.h1=ah at ca HQ
 generalize endI s=en at ce ca HQ
 have HC1:=hidE c1
 have HCE:=hidE ce
 unfold flV segV at *
 clear h0 h15 hq0 hq1 hl hl4 hh0 hh1 er c1 ce
 go_enter Tryz.func109,Tryz.ntmps109
 go_upto_region 1 with fail
 try rw [hW1]
 clear hW1
 obtain ⟨c0,c1,c2,c3,c4,c5,c6,c7,c8,c9,c10,c11,c12,c13,c14⟩:=h1.fl.cells
 obtain ⟨s0,s1,s2,s3,s4,s5,s6⟩:=h1.sg.cells
 go_upto_region 2 with (go_at_call 122;refine (cm _).mono ?_;rintro e W2 ⟨rfl,b2⟩)
 have h2:=h1.step b2
 clear h1 b2 cm
 clear c0 c1 c2 c3 c4 c5 c6 c7 c8 c9 c10 c11 c12 c13 c14 s0 s1 s2 s3 s4 s5 s6
 have hce:=Ext.call (w:=W2) HCE.out
 have hca:=Ext.call (w:=W2) ca
 obtain ⟨c0,c1,c2,c3,c4,c5,c6,c7,c8,c9,c10,c11,c12,c13,c14⟩:=h2.fl.cells
 obtain ⟨s0,s1,s2,s3,s4,s5,s6⟩:=h2.sg.cells
 have c8:=Ext.cell c8
 have c9:=Ext.cell c9
 have c10:=Ext.cell c10
 have c11:=Ext.cell c11
 have c12:=Ext.cell c12
 have c13:=Ext.cell c13
 have s0:=Ext.cell s0
 have s1:=Ext.cell s1
 have s2:=Ext.cell s2
 have s3:=Ext.cell s3
 have s4:=Ext.cell s4
 have s5:=Ext.cell s5
 have s6:=Ext.cell s6
 clear c0 c1 c2 c3 c4 c5 c6 c7 c14
 refine wp_region_ext (by kernel_rfl) (by kernel_rfl) ?_
 repeat (go_big_quiet_step ((first|(go_at_call 58;exact hce _)|(go_at_call 123;exact hca _))))
 refine wpQuiet_nil ?_
 rintro _ ⟨u,rfl⟩
 have h3:=h2.step u.h
 obtain ⟨Wh3,hWh3⟩:∃ W2,u.W=W2:=⟨_,rfl⟩
 rw [hWh3] at h3 ⊢
 clear hWh3 u h2 c8 c9 c10 c11 c12 c13 s0 s1 s2 s3 s4 s5 s6
 clear hce hca ca
 obtain ⟨g1,HG1⟩:∃ g:Fl,Hid (g = { f with h1:=if ah=true then en else f.h1 }):=⟨_,rfl⟩
 go_step
 go_step
 go_cut [] (fun wr=>Hid (Fsz w g1 s (.slice a l c) zeroF wr))
 case first =>
  rcases ah with _|_
  ·have HF:=hidE (show Fsz w g1 s (.slice a l c) zeroF Wh3 by rw [HG1.out];exact h3)
   go_wp2_with fail
   go_meet
   case rel=>exact HF
  ·obtain ⟨c0,c1,c2,c3,c4,c5,c6,c7,c8,c9,c10,c11,c12,c13,c14⟩:=h3.fl.cells
   obtain ⟨s0,s1,s2,s3,s4,s5,s6⟩:=h3.sg.cells
   go_wp2_with (go_at_call 58;refine (HCE.out _).mono ?_;rintro e W4 ⟨rfl,b4⟩;have h4:=h3.step b4;have e9:=h4.fl.free 9;obtain ⟨c0,c1,c2,c3,c4,c5,c6,c7,c8,c9,c10,c11,c12,c13,c14⟩:=h4.fl.cells)
   obtain ⟨W5,hW5,h5⟩:=h4.put_h1 en
   try rw [hW5]
   have HF:=hidE (show Fsz w g1 s (.slice a l c) zeroF W5 by rw [HG1.out];exact h5)
   go_meet
   case rel=>exact HF
 case rest =>
  clear h3
  have h4:=hcut.out
  obtain ⟨W4,hW4⟩:∃ W4,wc=W4:=⟨_,rfl⟩
  rw [hW4] at h4 ⊢
  clear hW4 hcut
  obtain ⟨c0,c1,c2,c3,c4,c5,c6,c7,c8,c9,c10,c11,c12,c13,c14⟩:=h4.fl.cells
  obtain ⟨s0,s1,s2,s3,s4,s5,s6⟩:=h4.sg.cells
  have e11:=h4.fl.free 11
  go_upto_region 5 with fail
  obtain ⟨W5,hW5,h5⟩:=h4.put_w1 s.win
  rw [hW5]
  obtain ⟨g2,HG2⟩:∃ g:Fl,Hid (g = { g1 with w1:=s.win }):=⟨_,rfl⟩
  rw [← HG2.out] at h5
  clear hW5 h4 e11
  clear c0 c1 c2 c3 c4 c5 c6 c7 c8 c9 c10 c11 c12 c13 c14 s0 s1 s2 s3 s4 s5 s6
  obtain ⟨g3,HG3⟩:∃ g:Fl,Hid (g = { g2 with d1:=g2.d1 || fi }):=⟨_,rfl⟩
  go_cut [] (fun wr=>Hid (Fsz w g3 s (.slice a l c) zeroF wr))
  case first =>
   obtain ⟨dv,hdv⟩:∃ dv,g2.d1=dv:=⟨_,rfl⟩
   rw [hdv] at HG3
   obtain ⟨c0,c1,c2,c3,c4,c5,c6,c7,c8,c9,c10,c11,c12,c13,c14⟩:=h5.fl.cells
   obtain ⟨s0,s1,s2,s3,s4,s5,s6⟩:=h5.sg.cells
   have e13:=h5.fl.free 13
   rw [hdv] at c13
   have HDV:=hidE hdv
   clear hdv
   rcases dv with _|_
   ·go_wp2_with (go_at_call 83;refine (HC1.out _).mono ?_;rintro e W6 ⟨rfl,b6⟩;have h6:=h5.step b6;have e13:=h6.fl.free 13;obtain ⟨c0,c1,c2,c3,c4,c5,c6,c7,c8,c9,c10,c11,c12,c13,c14⟩:=h6.fl.cells)
    obtain ⟨W7,hW7,h7⟩:=h6.put_d1 fi
    try rw [hW7]
    have HF:=hidE (show Fsz w g3 s (.slice a l c) zeroF W7 by rw [HG3.out];simpa using h7)
    go_meet
    case rel=>exact HF
   ·go_wp2_with fail
    obtain ⟨W7,hW7,h7⟩:=h5.put_d1 true
    try rw [hW7]
    have HF:=hidE (show Fsz w g3 s (.slice a l c) zeroF W7 by rw [HG3.out];simpa using h7)
    go_meet
    case rel=>exact HF
  case rest =>
   clear h5
   have h6:=hcut.out
   obtain ⟨W6,hW6⟩:∃ W6,wc=W6:=⟨_,rfl⟩
   rw [hW6] at h6 ⊢
   clear hW6 hcut
   obtain ⟨z,HZ⟩:∃ z,Hid (z=stG g3.d0 g3.d1 g3.st):=⟨_,rfl⟩
   have HQ:=hidE (show q = { g3 with st:=z } by rw [HQ.out,HZ.out,HG3.out,HG2.out,HG1.out])
   clear HG1 HG2 HG3 HC1 HCE
   go_step
   go_step
   go_cut [] (fun wr=>Hid (Fsz w q s (.slice a l c) zeroF wr))
   case first =>
    obtain ⟨x,hx⟩:∃ x,g3.d0=x:=⟨_,rfl⟩
    obtain ⟨y,hy⟩:∃ y,g3.d1=y:=⟨_,rfl⟩
    rw [hx,hy] at HZ
    obtain ⟨c0,c1,c2,c3,c4,c5,c6,c7,c8,c9,c10,c11,c12,c13,c14⟩:=h6.fl.cells
    obtain ⟨s0,s1,s2,s3,s4,s5,s6⟩:=h6.sg.cells
    have e5:=h6.fl.free 5
    rw [hx] at c12
    rw [hy] at c13
    clear hx hy
    rcases x with _|_
    ·rcases y with _|_
     ·have HQ2:=hidE (show q=g3 by rw [HQ.out,show z=g3.st by rw [HZ.out];unfold stG;rw [if_neg (by decide),if_neg (fun h=>by cases h.1)]])
      clear HQ
      have HF:=hidE (show Fsz w q s (.slice a l c) zeroF W6 by rw [HQ2.out];exact h6)
      go_wp2_with fail
      go_meet
      case rel=>exact HF
     ·by_cases h4:g3.st=4
      ·have HQ2:=hidE (show q=g3 by rw [HQ.out,show z=g3.st by rw [HZ.out];unfold stG;rw [if_neg (by decide),if_neg (fun h=>h.2 h4)]])
       have e4:(g3.st != 4)=false:=by simp [h4]
       clear h4 HQ
       have HF:=hidE (show Fsz w q s (.slice a l c) zeroF W6 by rw [HQ2.out];exact h6)
       go_wp2_with fail
       go_meet
       case rel=>exact HF
      ·have HQ2:=hidE (show q = { g3 with st:=3 } by rw [HQ.out,show z=3 by rw [HZ.out];unfold stG;rw [if_neg (by decide),if_pos ⟨rfl,h4⟩]])
       have e4:(g3.st != 4)=true:=by simpa using h4
       clear h4 HQ
       go_wp2_with fail
       obtain ⟨W7,hW7,h7⟩:=h6.put_st 3
       try rw [hW7]
       have HF:=hidE (show Fsz w q s (.slice a l c) zeroF W7 by rw [HQ2.out];exact h7)
       go_meet
       case rel=>exact HF
    ·rcases y with _|_
     ·by_cases h4:g3.st=4
      ·have HQ2:=hidE (show q=g3 by rw [HQ.out,show z=g3.st by rw [HZ.out];unfold stG;rw [if_neg (by decide),if_neg (fun h=>h.2 h4)]])
       have e4:(g3.st != 4)=false:=by simp [h4]
       clear h4 HQ
       have HF:=hidE (show Fsz w q s (.slice a l c) zeroF W6 by rw [HQ2.out];exact h6)
       go_wp2_with fail
       go_meet
       case rel=>exact HF
      ·have HQ2:=hidE (show q = { g3 with st:=3 } by rw [HQ.out,show z=3 by rw [HZ.out];unfold stG;rw [if_neg (by decide),if_pos ⟨rfl,h4⟩]])
       have e4:(g3.st != 4)=true:=by simpa using h4
       clear h4 HQ
       go_wp2_with fail
       obtain ⟨W7,hW7,h7⟩:=h6.put_st 3
       try rw [hW7]
       have HF:=hidE (show Fsz w q s (.slice a l c) zeroF W7 by rw [HQ2.out];exact h7)
       go_meet
       case rel=>exact HF
     ·have HQ2:=hidE (show q = { g3 with st:=4 } by rw [HQ.out,show z=4 by rw [HZ.out];unfold stG;rw [if_pos (by decide)]])
      clear HQ
      go_wp2_with fail
      obtain ⟨W7,hW7,h7⟩:=h6.put_st 4
      try rw [hW7]
      have HF:=hidE (show Fsz w q s (.slice a l c) zeroF W7 by rw [HQ2.out];exact h7)
      go_meet
      case rel=>exact HF
   case rest =>
    clear h6 HQ HZ
    have h7:=hcut.out
    clear hcut
    obtain ⟨c0,c1,c2,c3,c4,c5,c6,c7,c8,c9,c10,c11,c12,c13,c14⟩:=h7.fl.cells
    obtain ⟨y0,y1,y2,y3,y4,y5,y6,y7,y8,y9,y10,y11,y12,y13,y14⟩:=h7.rs.frees
    obtain ⟨d0,d1,d2,d3,d4,d5,d6,d7,d8,d9,d10,d11,d12,d13,d14⟩:=h7.rs.cells
    go_wp2_with fail
    obtain ⟨W9,hW9,g9,b9⟩:=h7.fin (q:=q)
    first|rw [hW9]|(simp only at hW9;rw [hW9])
    clear hW9 c0 c1 c2 c3 c4 c5 c6 c7 c8 c9 c10 c11 c12 c13 c14 y0 y1 y2 y3 y4 y5 y6 y7 y8 y9 y10 y11 y12 y13 y14 d0 d1 d2 d3 d4 d5 d6 d7 d8 d9 d10 d11 d12 d13 d14
    obtain ⟨c0,c1,c2,c3,c4,c5,c6,c7,c8,c9,c10,c11,c12,c13,c14⟩:=g9.cells
    exact bodyPost_ret (v:=.tuple #[.agg #[.int .i64 q.key.kind,.int .i64 q.key.src,.int .i64 q.key.frm,.int .i64 q.key.dst,.int .i64 q.key.too,.int .i64 q.st,.int .i64 q.unt,.int .i64 q.stp,.int .i64 q.h0,.int .i64 q.h1,.int .i64 q.w0,.int .i64 q.w1,.bool q.d0,.bool q.d1,.int .i64 q.num],.bool r]) (by simp [results,Tryz.results109,go_sem,c0,c1,c2,c3,c4,c5,c6,c7,c8,c9,c10,c11,c12,c13,c14]) rfl ⟨rfl,b9⟩
end Go.Proofs.YtkhheooofcpfdaaGreatDoor
