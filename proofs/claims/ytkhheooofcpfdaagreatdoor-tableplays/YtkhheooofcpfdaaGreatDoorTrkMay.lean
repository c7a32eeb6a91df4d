/- What mayGoOn of package track returns, for every flow and segment whose numbers may be. -/
import Derived.Test.YtkhheooofcpfdaaGreatDoorMgM
import Derived.Test.YtkhheooofcpfdaaGreatDoorMgG
import Derived.Deep.DeepCutAuto
import Derived.Lib.MinMax
namespace Go.Proofs.YtkhheooofcpfdaaGreatDoor
open Go.RowKit
set_option linter.unusedVariables false
structure Fs2 (w:World) (f:Fl) (s:Sg) (bv:Value) (W:World):Prop where
 fl:FlAt W w.heap.size f
 sg:SgAt W (w.heap.size+1) s bv
 bel:Below w.heap.size w W
theorem Fs2.start (w:World) (f:Fl) (s:Sg) (bv:Value):Fs2 w f s bv ((w.alloc (.cells #[.int .i64 f.key.kind,.int .i64 f.key.src,.int .i64 f.key.frm,.int .i64 f.key.dst,.int .i64 f.key.too,.int .i64 f.st,.int .i64 f.unt,.int .i64 f.stp,.int .i64 f.h0,.int .i64 f.h1,.int .i64 f.w0,.int .i64 f.w1,.bool f.d0,.bool f.d1,.int .i64 f.num] 45)).alloc (.cells #[.int .i64 s.frm,.int .i64 s.too,.int .i64 s.seq,.int .i64 s.ack,.int .i64 s.win,.int .i64 s.flg,bv] 41)):=by
 have h1:=FlAt.new w f
 have s1:(w.alloc (.cells #[.int .i64 f.key.kind,.int .i64 f.key.src,.int .i64 f.key.frm,.int .i64 f.key.dst,.int .i64 f.key.too,.int .i64 f.st,.int .i64 f.unt,.int .i64 f.stp,.int .i64 f.h0,.int .i64 f.h1,.int .i64 f.w0,.int .i64 f.w1,.bool f.d0,.bool f.d1,.int .i64 f.num] 45)).heap.size=w.heap.size+1:=by simp
 have b1:Below w.heap.size w (w.alloc (.cells #[.int .i64 f.key.kind,.int .i64 f.key.src,.int .i64 f.key.frm,.int .i64 f.key.dst,.int .i64 f.key.too,.int .i64 f.st,.int .i64 f.unt,.int .i64 f.stp,.int .i64 f.h0,.int .i64 f.h1,.int .i64 f.w0,.int .i64 f.w1,.bool f.d0,.bool f.d1,.int .i64 f.num] 45)):=(Below.refl _ _).alloc (Nat.le_refl _) _
 generalize w.alloc (.cells #[.int .i64 f.key.kind,.int .i64 f.key.src,.int .i64 f.key.frm,.int .i64 f.key.dst,.int .i64 f.key.too,.int .i64 f.st,.int .i64 f.unt,.int .i64 f.stp,.int .i64 f.h0,.int .i64 f.h1,.int .i64 f.w0,.int .i64 f.w1,.bool f.d0,.bool f.d1,.int .i64 f.num] 45)=w1 at h1 s1 b1 ⊢
 have h2:=SgAt.new w1 s bv
 rw [s1] at h2
 exact ⟨h1.alloc _,h2,b1.alloc b1.size _⟩
theorem Fs2.step {w W W':World} {f:Fl} {s:Sg} {bv:Value} (h:Fs2 w f s bv W) (hb:Below W.heap.size W W'):Fs2 w f s bv W' :=
 ⟨h.fl.below h.fl.lt hb,h.sg.below h.sg.lt hb,h.bel.trans (hb.mono h.bel.size)⟩
theorem Fs2.drewN {w W:World} {f:Fl} {s:Sg} {bv:Value} (h:Fs2 w f s bv W) (n:Nat):Fs2 w f s bv (W.drewN n):=⟨h.fl.drewN n,h.sg.drewN n,below_drewN h.bel n⟩
theorem max1_is (n:Int):max1 n=max n 1:=by unfold max1;omega
theorem quietB {P:Program} {f:FuncId} {args:Array Value} {v:Value} (h:∀ W,Calls P f args W fun e w'=>e = .returned v∧w'=W):∀ W,Calls P f args W fun e w'=>e = .returned v∧Below W.heap.size W w':=fun W =>
 (h W).mono fun e w' ⟨h1,h2⟩=>⟨h1,h2 ▸ Below.refl _ _⟩
set_option maxRecDepth 100000 in
set_option maxHeartbeats 32000000 in
theorem mayGoOn_any (f:Fl) (s:Sg) (a:Option Addr) (l c:Nat) (side:Int) (w:World) (hs:side=0∨side=1) (h0:0≤s.flg) (h15:s.flg≤15) (hq0:0≤s.seq) (hq1:s.seq≤4294967295) (hl:s.body.length=l) (hl4:l≤4000)
  (hh0:0≤f.h0∧f.h0≤4294967295) (hh1:0≤f.h1∧f.h1≤4294967295) :
  Calls Tryz.prog 122 #[flV f,segV s (.slice a l c),.int .i64 side] w fun e w'=>e = .returned (.bool (goB f s side))∧Below w.heap.size w w':=by
 have h1:=Fs2.start w f s (.slice a l c)
 obtain ⟨W1,hW1⟩:∃ W1,(w.alloc (.cells #[.int .i64 f.key.kind,.int .i64 f.key.src,.int .i64 f.key.frm,.int .i64 f.key.dst,.int .i64 f.key.too,.int .i64 f.st,.int .i64 f.unt,.int .i64 f.stp,.int .i64 f.h0,.int .i64 f.h1,.int .i64 f.w0,.int .i64 f.w1,.bool f.d0,.bool f.d1,.int .i64 f.num] 45)).alloc (.cells #[.int .i64 s.frm,.int .i64 s.too,.int .i64 s.seq,.int .i64 s.ack,.int .i64 s.win,.int .i64 s.flg,.slice a l c] 41)=W1:=⟨_,rfl⟩
 rw [hW1] at h1
 have c2:=fun W=>has_any s 2 (.slice a l c) W h0 h15 (by omega)
 have c8:=fun W=>has_any s 8 (.slice a l c) W h0 h15 (by omega)
 have ce:=fun W=>end_any s a l c W h0 h15 hq0 hq1 hl hl4
 have er:=endI_range s
 obtain ⟨r,HR⟩:∃ r,Hid (r=goB f s side):=⟨_,rfl⟩
 rw [← HR.out]
 unfold goB at HR
 generalize flgB s 2=x2 at c2 HR
 generalize flgB s 8=x8 at c8 HR
 generalize endI s=en at ce er HR
 have HC2:=hidE c2
 have HC8:=hidE c8
 have HCE:=hidE ce
 unfold flV segV at *
 clear h0 h15 hq0 hq1 hl hl4 c2 c8 ce
 rcases hs with rfl|rfl
 ·have cn1:=quietB fun W=>near_any s.seq f.h0 (max1 f.w1) W
  have cn2:=quietB fun W=>near_any s.ack f.h1 (max1 f.w0) W
  have ca:=quietB fun W=>ahead_any en f.h0 W er hh0
  rw [show hiF f 0=f.h0 from rfl,show hiF f (1 - 0)=f.h1 from rfl,show wnF f (1 - 0)=f.w1 from rfl,show wnF f 0=f.w0 from rfl,show dnF f 0=f.d0 from rfl] at HR
  generalize nearB s.seq f.h0 (max1 f.w1)=n1 at cn1 HR
  generalize nearB s.ack f.h1 (max1 f.w0)=n2 at cn2 HR
  generalize ahB en f.h0=ah at ca HR
  rw [max1_is] at cn1 cn2
  obtain ⟨m1,hm1⟩:∃ m,max f.w1 1=m:=⟨_,rfl⟩
  obtain ⟨m2,hm2⟩:∃ m,max f.w0 1=m:=⟨_,rfl⟩
  rw [hm1] at cn1
  rw [hm2] at cn2
  clear hh0 hh1 er
  go_enter Tryz.func122,Tryz.ntmps122
  go_upto_region 1 with fail
  try rw [hW1]
  clear hW1
  go_upto_region 2 with fail
  rcases x2 with _|_
  rotate_left
  ·obtain rfl:r=false:=by simpa using HR.out
   clear HR
   have hcl:=Ext.call (w:=W1) HC2.out
   obtain ⟨c0,c1,c2,c3,c4,c5,c6,c7,c8,c9,c10,c11,c12,c13,c14⟩:=h1.fl.cells
   obtain ⟨s0,s1,s2,s3,s4,s5,s6⟩:=h1.sg.cells
   have c8:=Ext.cell c8
   have c9:=Ext.cell c9
   have c10:=Ext.cell c10
   have c11:=Ext.cell c11
   have c12:=Ext.cell c12
   have c13:=Ext.cell c13
   have s0:=Ext.cell s0
   have s1:=Ext.cell s1
   have s2:=Ext.cell s2
   have s3:=Ext.cell s3
   have s4:=Ext.cell s4
   have s5:=Ext.cell s5
   have s6:=Ext.cell s6
   clear c0 c1 c2 c3 c4 c5 c6 c7 c14
   refine wp_region_ext (by kernel_rfl) (by kernel_rfl) ?_
   repeat (go_big_quiet_step ((go_at_call 83;exact hcl _)))
   refine wpQuiet_nil ?_
   rintro _ ⟨u,rfl⟩
   have h2:=h1.step u.h
   obtain ⟨Wh2,hWh2⟩:∃ W2,u.W=W2:=⟨_,rfl⟩
   rw [hWh2] at h2 ⊢
   clear hWh2 u h1 c8 c9 c10 c11 c12 c13 s0 s1 s2 s3 s4 s5 s6
   go_wp2_with fail
   go_ret
   exact ⟨rfl,h2.bel⟩
  have hcl:=Ext.call (w:=W1) HC2.out
  have hcn:=Ext.call (w:=W1) cn1
  obtain ⟨c0,c1,c2,c3,c4,c5,c6,c7,c8,c9,c10,c11,c12,c13,c14⟩:=h1.fl.cells
  obtain ⟨s0,s1,s2,s3,s4,s5,s6⟩:=h1.sg.cells
  have c8:=Ext.cell c8
  have c9:=Ext.cell c9
  have c10:=Ext.cell c10
  have c11:=Ext.cell c11
  have c12:=Ext.cell c12
  have c13:=Ext.cell c13
  have s0:=Ext.cell s0
  have s1:=Ext.cell s1
  have s2:=Ext.cell s2
  have s3:=Ext.cell s3
  have s4:=Ext.cell s4
  have s5:=Ext.cell s5
  have s6:=Ext.cell s6
  clear c0 c1 c2 c3 c4 c5 c6 c7 c14
  refine wp_region_ext (by kernel_rfl) (by kernel_rfl) ?_
  repeat (go_big_quiet_step ((first|(go_at_call 83;exact hcl _)|(go_at_call 128;exact hcn _))))
  refine wpQuiet_nil ?_
  rintro _ ⟨u,rfl⟩
  have h2:=h1.step u.h
  obtain ⟨Wh2,hWh2⟩:∃ W2,u.W=W2:=⟨_,rfl⟩
  rw [hWh2] at h2 ⊢
  clear hWh2 u h1 c8 c9 c10 c11 c12 c13 s0 s1 s2 s3 s4 s5 s6
  clear hcl hcn
  rcases n1 with _|_
  ·obtain rfl:r=false:=by simpa using HR.out
   clear HR
   go_wp2_with fail
   go_ret
   exact ⟨rfl,h2.bel⟩
  go_upto_region 4 with fail
  rcases x8 with _|_
  rotate_left
  ·have hcl:=Ext.call (w:=Wh2) HC8.out
   have hcn:=Ext.call (w:=Wh2) cn2
   obtain ⟨c0,c1,c2,c3,c4,c5,c6,c7,c8,c9,c10,c11,c12,c13,c14⟩:=h2.fl.cells
   obtain ⟨s0,s1,s2,s3,s4,s5,s6⟩:=h2.sg.cells
   have c8:=Ext.cell c8
   have c9:=Ext.cell c9
   have c10:=Ext.cell c10
   have c11:=Ext.cell c11
   have c12:=Ext.cell c12
   have c13:=Ext.cell c13
   have s0:=Ext.cell s0
   have s1:=Ext.cell s1
   have s2:=Ext.cell s2
   have s3:=Ext.cell s3
   have s4:=Ext.cell s4
   have s5:=Ext.cell s5
   have s6:=Ext.cell s6
   clear c0 c1 c2 c3 c4 c5 c6 c7 c14
   refine wp_region_ext (by kernel_rfl) (by kernel_rfl) ?_
   repeat (go_big_quiet_step ((first|(go_at_call 83;exact hcl _)|(go_at_call 128;exact hcn _))))
   refine wpQuiet_nil ?_
   rintro _ ⟨u,rfl⟩
   have h3:=h2.step u.h
   obtain ⟨Wh3,hWh3⟩:∃ W2,u.W=W2:=⟨_,rfl⟩
   rw [hWh3] at h3 ⊢
   clear hWh3 u h2 c8 c9 c10 c11 c12 c13 s0 s1 s2 s3 s4 s5 s6
   clear hcl hcn
   rcases n2 with _|_
   ·obtain rfl:r=false:=by simpa using HR.out
    clear HR
    go_wp2_with fail
    go_ret
    exact ⟨rfl,h3.bel⟩
   go_upto_region 6 with fail
   obtain ⟨dv,hdv⟩:∃ dv,f.d0=dv:=⟨_,rfl⟩
   rcases dv with _|_
   ·obtain rfl:r=true:=by rw [HR.out,hdv];simp
    clear HR
    obtain ⟨c0,c1,c2,c3,c4,c5,c6,c7,c8,c9,c10,c11,c12,c13,c14⟩:=h3.fl.cells
    obtain ⟨s0,s1,s2,s3,s4,s5,s6⟩:=h3.sg.cells
    have c8:=Ext.cell c8
    have c9:=Ext.cell c9
    have c10:=Ext.cell c10
    have c11:=Ext.cell c11
    have c12:=Ext.cell c12
    have c13:=Ext.cell c13
    have s0:=Ext.cell s0
    have s1:=Ext.cell s1
    have s2:=Ext.cell s2
    have s3:=Ext.cell s3
    have s4:=Ext.cell s4
    have s5:=Ext.cell s5
    have s6:=Ext.cell s6
    clear c0 c1 c2 c3 c4 c5 c6 c7 c14
    refine wp_region_ext (by kernel_rfl) (by kernel_rfl) ?_
    repeat (go_big_quiet_step (fail))
    refine wpQuiet_nil ?_
    rintro _ ⟨u,rfl⟩
    have h4:=h3.step u.h
    obtain ⟨Wh4,hWh4⟩:∃ W2,u.W=W2:=⟨_,rfl⟩
    rw [hWh4] at h4 ⊢
    clear hWh4 u h3 c8 c9 c10 c11 c12 c13 s0 s1 s2 s3 s4 s5 s6
    go_wp2_with fail
    go_ret
    exact ⟨rfl,h4.bel⟩
   ·obtain rfl:r = !ah:=by rw [HR.out,hdv];simp
    clear HR
    have hce:=Ext.call (w:=Wh3) HCE.out
    have hca:=Ext.call (w:=Wh3) ca
    obtain ⟨c0,c1,c2,c3,c4,c5,c6,c7,c8,c9,c10,c11,c12,c13,c14⟩:=h3.fl.cells
    obtain ⟨s0,s1,s2,s3,s4,s5,s6⟩:=h3.sg.cells
    have c8:=Ext.cell c8
    have c9:=Ext.cell c9
    have c10:=Ext.cell c10
    have c11:=Ext.cell c11
    have c12:=Ext.cell c12
    have c13:=Ext.cell c13
    have s0:=Ext.cell s0
    have s1:=Ext.cell s1
    have s2:=Ext.cell s2
    have s3:=Ext.cell s3
    have s4:=Ext.cell s4
    have s5:=Ext.cell s5
    have s6:=Ext.cell s6
    clear c0 c1 c2 c3 c4 c5 c6 c7 c14
    refine wp_region_ext (by kernel_rfl) (by kernel_rfl) ?_
    repeat (go_big_quiet_step ((first|(go_at_call 58;exact hce _)|(go_at_call 123;exact hca _))))
    refine wpQuiet_nil ?_
    rintro _ ⟨u,rfl⟩
    have h4:=h3.step u.h
    obtain ⟨Wh4,hWh4⟩:∃ W2,u.W=W2:=⟨_,rfl⟩
    rw [hWh4] at h4 ⊢
    clear hWh4 u h3 c8 c9 c10 c11 c12 c13 s0 s1 s2 s3 s4 s5 s6
    go_wp2_with fail
    go_ret
    exact ⟨rfl,h4.bel⟩
  have hcl:=Ext.call (w:=Wh2) HC8.out
  obtain ⟨c0,c1,c2,c3,c4,c5,c6,c7,c8,c9,c10,c11,c12,c13,c14⟩:=h2.fl.cells
  obtain ⟨s0,s1,s2,s3,s4,s5,s6⟩:=h2.sg.cells
  have c8:=Ext.cell c8
  have c9:=Ext.cell c9
  have c10:=Ext.cell c10
  have c11:=Ext.cell c11
  have c12:=Ext.cell c12
  have c13:=Ext.cell c13
  have s0:=Ext.cell s0
  have s1:=Ext.cell s1
  have s2:=Ext.cell s2
  have s3:=Ext.cell s3
  have s4:=Ext.cell s4
  have s5:=Ext.cell s5
  have s6:=Ext.cell s6
  clear c0 c1 c2 c3 c4 c5 c6 c7 c14
  refine wp_region_ext (by kernel_rfl) (by kernel_rfl) ?_
  repeat (go_big_quiet_step ((go_at_call 83;exact hcl _)))
  refine wpQuiet_nil ?_
  rintro _ ⟨u,rfl⟩
  have h3:=h2.step u.h
  obtain ⟨Wh3,hWh3⟩:∃ W2,u.W=W2:=⟨_,rfl⟩
  rw [hWh3] at h3 ⊢
  clear hWh3 u h2 c8 c9 c10 c11 c12 c13 s0 s1 s2 s3 s4 s5 s6
  clear hcl
  go_upto_region 6 with fail
  obtain ⟨dv,hdv⟩:∃ dv,f.d0=dv:=⟨_,rfl⟩
  rcases dv with _|_
  ·obtain rfl:r=true:=by rw [HR.out,hdv];simp
   clear HR
   obtain ⟨c0,c1,c2,c3,c4,c5,c6,c7,c8,c9,c10,c11,c12,c13,c14⟩:=h3.fl.cells
   obtain ⟨s0,s1,s2,s3,s4,s5,s6⟩:=h3.sg.cells
   have c8:=Ext.cell c8
   have c9:=Ext.cell c9
   have c10:=Ext.cell c10
   have c11:=Ext.cell c11
   have c12:=Ext.cell c12
   have c13:=Ext.cell c13
   have s0:=Ext.cell s0
   have s1:=Ext.cell s1
   have s2:=Ext.cell s2
   have s3:=Ext.cell s3
   have s4:=Ext.cell s4
   have s5:=Ext.cell s5
   have s6:=Ext.cell s6
   clear c0 c1 c2 c3 c4 c5 c6 c7 c14
   refine wp_region_ext (by kernel_rfl) (by kernel_rfl) ?_
   repeat (go_big_quiet_step (fail))
   refine wpQuiet_nil ?_
   rintro _ ⟨u,rfl⟩
   have h4:=h3.step u.h
   obtain ⟨Wh4,hWh4⟩:∃ W2,u.W=W2:=⟨_,rfl⟩
   rw [hWh4] at h4 ⊢
   clear hWh4 u h3 c8 c9 c10 c11 c12 c13 s0 s1 s2 s3 s4 s5 s6
   go_wp2_with fail
   go_ret
   exact ⟨rfl,h4.bel⟩
  ·obtain rfl:r = !ah:=by rw [HR.out,hdv];simp
   clear HR
   have hce:=Ext.call (w:=Wh3) HCE.out
   have hca:=Ext.call (w:=Wh3) ca
   obtain ⟨c0,c1,c2,c3,c4,c5,c6,c7,c8,c9,c10,c11,c12,c13,c14⟩:=h3.fl.cells
   obtain ⟨s0,s1,s2,s3,s4,s5,s6⟩:=h3.sg.cells
   have c8:=Ext.cell c8
   have c9:=Ext.cell c9
   have c10:=Ext.cell c10
   have c11:=Ext.cell c11
   have c12:=Ext.cell c12
   have c13:=Ext.cell c13
   have s0:=Ext.cell s0
   have s1:=Ext.cell s1
   have s2:=Ext.cell s2
   have s3:=Ext.cell s3
   have s4:=Ext.cell s4
   have s5:=Ext.cell s5
   have s6:=Ext.cell s6
   clear c0 c1 c2 c3 c4 c5 c6 c7 c14
   refine wp_region_ext (by kernel_rfl) (by kernel_rfl) ?_
   repeat (go_big_quiet_step ((first|(go_at_call 58;exact hce _)|(go_at_call 123;exact hca _))))
   refine wpQuiet_nil ?_
   rintro _ ⟨u,rfl⟩
   have h4:=h3.step u.h
   obtain ⟨Wh4,hWh4⟩:∃ W2,u.W=W2:=⟨_,rfl⟩
   rw [hWh4] at h4 ⊢
   clear hWh4 u h3 c8 c9 c10 c11 c12 c13 s0 s1 s2 s3 s4 s5 s6
   go_wp2_with fail
   go_ret
   exact ⟨rfl,h4.bel⟩
 ·have cn1:=quietB fun W=>near_any s.seq f.h1 (max1 f.w0) W
  have cn2:=quietB fun W=>near_any s.ack f.h0 (max1 f.w1) W
  have ca:=quietB fun W=>ahead_any en f.h1 W er hh1
  rw [show hiF f 1=f.h1 from rfl,show hiF f (1 - 1)=f.h0 from rfl,show wnF f (1 - 1)=f.w0 from rfl,show wnF f 1=f.w1 from rfl,show dnF f 1=f.d1 from rfl] at HR
  generalize nearB s.seq f.h1 (max1 f.w0)=n1 at cn1 HR
  generalize nearB s.ack f.h0 (max1 f.w1)=n2 at cn2 HR
  generalize ahB en f.h1=ah at ca HR
  rw [max1_is] at cn1 cn2
  obtain ⟨m1,hm1⟩:∃ m,max f.w0 1=m:=⟨_,rfl⟩
  obtain ⟨m2,hm2⟩:∃ m,max f.w1 1=m:=⟨_,rfl⟩
  rw [hm1] at cn1
  rw [hm2] at cn2
  clear hh0 hh1 er
  go_enter Tryz.func122,Tryz.ntmps122
  go_upto_region 1 with fail
  try rw [hW1]
  clear hW1
  go_upto_region 2 with fail
  rcases x2 with _|_
  rotate_left
  ·obtain rfl:r=false:=by simpa using HR.out
   clear HR
   have hcl:=Ext.call (w:=W1) HC2.out
   obtain ⟨c0,c1,c2,c3,c4,c5,c6,c7,c8,c9,c10,c11,c12,c13,c14⟩:=h1.fl.cells
   obtain ⟨s0,s1,s2,s3,s4,s5,s6⟩:=h1.sg.cells
   have c8:=Ext.cell c8
   have c9:=Ext.cell c9
   have c10:=Ext.cell c10
   have c11:=Ext.cell c11
   have c12:=Ext.cell c12
   have c13:=Ext.cell c13
   have s0:=Ext.cell s0
   have s1:=Ext.cell s1
   have s2:=Ext.cell s2
   have s3:=Ext.cell s3
   have s4:=Ext.cell s4
   have s5:=Ext.cell s5
   have s6:=Ext.cell s6
   clear c0 c1 c2 c3 c4 c5 c6 c7 c14
   refine wp_region_ext (by kernel_rfl) (by kernel_rfl) ?_
   repeat (go_big_quiet_step ((go_at_call 83;exact hcl _)))
   refine wpQuiet_nil ?_
   rintro _ ⟨u,rfl⟩
   have h2:=h1.step u.h
   obtain ⟨Wh2,hWh2⟩:∃ W2,u.W=W2:=⟨_,rfl⟩
   rw [hWh2] at h2 ⊢
   clear hWh2 u h1 c8 c9 c10 c11 c12 c13 s0 s1 s2 s3 s4 s5 s6
   go_wp2_with fail
   go_ret
   exact ⟨rfl,h2.bel⟩
  have hcl:=Ext.call (w:=W1) HC2.out
  have hcn:=Ext.call (w:=W1) cn1
  obtain ⟨c0,c1,c2,c3,c4,c5,c6,c7,c8,c9,c10,c11,c12,c13,c14⟩:=h1.fl.cells
  obtain ⟨s0,s1,s2,s3,s4,s5,s6⟩:=h1.sg.cells
  have c8:=Ext.cell c8
  have c9:=Ext.cell c9
  have c10:=Ext.cell c10
  have c11:=Ext.cell c11
  have c12:=Ext.cell c12
  have c13:=Ext.cell c13
  have s0:=Ext.cell s0
  have s1:=Ext.cell s1
  have s2:=Ext.cell s2
  have s3:=Ext.cell s3
  have s4:=Ext.cell s4
  have s5:=Ext.cell s5
  have s6:=Ext.cell s6
  clear c0 c1 c2 c3 c4 c5 c6 c7 c14
  refine wp_region_ext (by kernel_rfl) (by kernel_rfl) ?_
  repeat (go_big_quiet_step ((first|(go_at_call 83;exact hcl _)|(go_at_call 128;exact hcn _))))
  refine wpQuiet_nil ?_
  rintro _ ⟨u,rfl⟩
  have h2:=h1.step u.h
  obtain ⟨Wh2,hWh2⟩:∃ W2,u.W=W2:=⟨_,rfl⟩
  rw [hWh2] at h2 ⊢
  clear hWh2 u h1 c8 c9 c10 c11 c12 c13 s0 s1 s2 s3 s4 s5 s6
  clear hcl hcn
  rcases n1 with _|_
  ·obtain rfl:r=false:=by simpa using HR.out
   clear HR
   go_wp2_with fail
   go_ret
   exact ⟨rfl,h2.bel⟩
  go_upto_region 4 with fail
  rcases x8 with _|_
  rotate_left
  ·have hcl:=Ext.call (w:=Wh2) HC8.out
   have hcn:=Ext.call (w:=Wh2) cn2
   obtain ⟨c0,c1,c2,c3,c4,c5,c6,c7,c8,c9,c10,c11,c12,c13,c14⟩:=h2.fl.cells
   obtain ⟨s0,s1,s2,s3,s4,s5,s6⟩:=h2.sg.cells
   have c8:=Ext.cell c8
   have c9:=Ext.cell c9
   have c10:=Ext.cell c10
   have c11:=Ext.cell c11
   have c12:=Ext.cell c12
   have c13:=Ext.cell c13
   have s0:=Ext.cell s0
   have s1:=Ext.cell s1
   have s2:=Ext.cell s2
   have s3:=Ext.cell s3
   have s4:=Ext.cell s4
   have s5:=Ext.cell s5
   have s6:=Ext.cell s6
   clear c0 c1 c2 c3 c4 c5 c6 c7 c14
   refine wp_region_ext (by kernel_rfl) (by kernel_rfl) ?_
   repeat (go_big_quiet_step ((first|(go_at_call 83;exact hcl _)|(go_at_call 128;exact hcn _))))
   refine wpQuiet_nil ?_
   rintro _ ⟨u,rfl⟩
   have h3:=h2.step u.h
   obtain ⟨Wh3,hWh3⟩:∃ W2,u.W=W2:=⟨_,rfl⟩
   rw [hWh3] at h3 ⊢
   clear hWh3 u h2 c8 c9 c10 c11 c12 c13 s0 s1 s2 s3 s4 s5 s6
   clear hcl hcn
   rcases n2 with _|_
   ·obtain rfl:r=false:=by simpa using HR.out
    clear HR
    go_wp2_with fail
    go_ret
    exact ⟨rfl,h3.bel⟩
   go_upto_region 6 with fail
   obtain ⟨dv,hdv⟩:∃ dv,f.d1=dv:=⟨_,rfl⟩
   rcases dv with _|_
   ·obtain rfl:r=true:=by rw [HR.out,hdv];simp
    clear HR
    obtain ⟨c0,c1,c2,c3,c4,c5,c6,c7,c8,c9,c10,c11,c12,c13,c14⟩:=h3.fl.cells
    obtain ⟨s0,s1,s2,s3,s4,s5,s6⟩:=h3.sg.cells
    have c8:=Ext.cell c8
    have c9:=Ext.cell c9
    have c10:=Ext.cell c10
    have c11:=Ext.cell c11
    have c12:=Ext.cell c12
    have c13:=Ext.cell c13
    have s0:=Ext.cell s0
    have s1:=Ext.cell s1
    have s2:=Ext.cell s2
    have s3:=Ext.cell s3
    have s4:=Ext.cell s4
    have s5:=Ext.cell s5
    have s6:=Ext.cell s6
    clear c0 c1 c2 c3 c4 c5 c6 c7 c14
    refine wp_region_ext (by kernel_rfl) (by kernel_rfl) ?_
    repeat (go_big_quiet_step (fail))
    refine wpQuiet_nil ?_
    rintro _ ⟨u,rfl⟩
    have h4:=h3.step u.h
    obtain ⟨Wh4,hWh4⟩:∃ W2,u.W=W2:=⟨_,rfl⟩
    rw [hWh4] at h4 ⊢
    clear hWh4 u h3 c8 c9 c10 c11 c12 c13 s0 s1 s2 s3 s4 s5 s6
    go_wp2_with fail
    go_ret
    exact ⟨rfl,h4.bel⟩
   ·obtain rfl:r = !ah:=by rw [HR.out,hdv];simp
    clear HR
    have hce:=Ext.call (w:=Wh3) HCE.out
    have hca:=Ext.call (w:=Wh3) ca
    obtain ⟨c0,c1,c2,c3,c4,c5,c6,c7,c8,c9,c10,c11,c12,c13,c14⟩:=h3.fl.cells
    obtain ⟨s0,s1,s2,s3,s4,s5,s6⟩:=h3.sg.cells
    have c8:=Ext.cell c8
    have c9:=Ext.cell c9
    have c10:=Ext.cell c10
    have c11:=Ext.cell c11
    have c12:=Ext.cell c12
    have c13:=Ext.cell c13
    have s0:=Ext.cell s0
    have s1:=Ext.cell s1
    have s2:=Ext.cell s2
    have s3:=Ext.cell s3
    have s4:=Ext.cell s4
    have s5:=Ext.cell s5
    have s6:=Ext.cell s6
    clear c0 c1 c2 c3 c4 c5 c6 c7 c14
    refine wp_region_ext (by kernel_rfl) (by kernel_rfl) ?_
    repeat (go_big_quiet_step ((first|(go_at_call 58;exact hce _)|(go_at_call 123;exact hca _))))
    refine wpQuiet_nil ?_
    rintro _ ⟨u,rfl⟩
    have h4:=h3.step u.h
    obtain ⟨Wh4,hWh4⟩:∃ W2,u.W=W2:=⟨_,rfl⟩
    rw [hWh4] at h4 ⊢
    clear hWh4 u h3 c8 c9 c10 c11 c12 c13 s0 s1 s2 s3 s4 s5 s6
    go_wp2_with fail
    go_ret
    exact ⟨rfl,h4.bel⟩
  have hcl:=Ext.call (w:=Wh2) HC8.out
  obtain ⟨c0,c1,c2,c3,c4,c5,c6,c7,c8,c9,c10,c11,c12,c13,c14⟩:=h2.fl.cells
  obtain ⟨s0,s1,s2,s3,s4,s5,s6⟩:=h2.sg.cells
  have c8:=Ext.cell c8
  have c9:=Ext.cell c9
  have c10:=Ext.cell c10
  have c11:=Ext.cell c11
  have c12:=Ext.cell c12
  have c13:=Ext.cell c13
  have s0:=Ext.cell s0
  have s1:=Ext.cell s1
  have s2:=Ext.cell s2
  have s3:=Ext.cell s3
  have s4:=Ext.cell s4
  have s5:=Ext.cell s5
  have s6:=Ext.cell s6
  clear c0 c1 c2 c3 c4 c5 c6 c7 c14
  refine wp_region_ext (by kernel_rfl) (by kernel_rfl) ?_
  repeat (go_big_quiet_step ((go_at_call 83;exact hcl _)))
  refine wpQuiet_nil ?_
  rintro _ ⟨u,rfl⟩
  have h3:=h2.step u.h
  obtain ⟨Wh3,hWh3⟩:∃ W2,u.W=W2:=⟨_,rfl⟩
  rw [hWh3] at h3 ⊢
  clear hWh3 u h2 c8 c9 c10 c11 c12 c13 s0 s1 s2 s3 s4 s5 s6
  clear hcl
  go_upto_region 6 with fail
  obtain ⟨dv,hdv⟩:∃ dv,f.d1=dv:=⟨_,rfl⟩
  rcases dv with _|_
  ·obtain rfl:r=true:=by rw [HR.out,hdv];simp
   clear HR
   obtain ⟨c0,c1,c2,c3,c4,c5,c6,c7,c8,c9,c10,c11,c12,c13,c14⟩:=h3.fl.cells
   obtain ⟨s0,s1,s2,s3,s4,s5,s6⟩:=h3.sg.cells
   have c8:=Ext.cell c8
   have c9:=Ext.cell c9
   have c10:=Ext.cell c10
   have c11:=Ext.cell c11
   have c12:=Ext.cell c12
   have c13:=Ext.cell c13
   have s0:=Ext.cell s0
   have s1:=Ext.cell s1
   have s2:=Ext.cell s2
   have s3:=Ext.cell s3
   have s4:=Ext.cell s4
   have s5:=Ext.cell s5
   have s6:=Ext.cell s6
   clear c0 c1 c2 c3 c4 c5 c6 c7 c14
   refine wp_region_ext (by kernel_rfl) (by kernel_rfl) ?_
   repeat (go_big_quiet_step (fail))
   refine wpQuiet_nil ?_
   rintro _ ⟨u,rfl⟩
   have h4:=h3.step u.h
   obtain ⟨Wh4,hWh4⟩:∃ W2,u.W=W2:=⟨_,rfl⟩
   rw [hWh4] at h4 ⊢
   clear hWh4 u h3 c8 c9 c10 c11 c12 c13 s0 s1 s2 s3 s4 s5 s6
   go_wp2_with fail
   go_ret
   exact ⟨rfl,h4.bel⟩
  ·obtain rfl:r = !ah:=by rw [HR.out,hdv];simp
   clear HR
   have hce:=Ext.call (w:=Wh3) HCE.out
   have hca:=Ext.call (w:=Wh3) ca
   obtain ⟨c0,c1,c2,c3,c4,c5,c6,c7,c8,c9,c10,c11,c12,c13,c14⟩:=h3.fl.cells
   obtain ⟨s0,s1,s2,s3,s4,s5,s6⟩:=h3.sg.cells
   have c8:=Ext.cell c8
   have c9:=Ext.cell c9
   have c10:=Ext.cell c10
   have c11:=Ext.cell c11
   have c12:=Ext.cell c12
   have c13:=Ext.cell c13
   have s0:=Ext.cell s0
   have s1:=Ext.cell s1
   have s2:=Ext.cell s2
   have s3:=Ext.cell s3
   have s4:=Ext.cell s4
   have s5:=Ext.cell s5
   have s6:=Ext.cell s6
   clear c0 c1 c2 c3 c4 c5 c6 c7 c14
   refine wp_region_ext (by kernel_rfl) (by kernel_rfl) ?_
   repeat (go_big_quiet_step ((first|(go_at_call 58;exact hce _)|(go_at_call 123;exact hca _))))
   refine wpQuiet_nil ?_
   rintro _ ⟨u,rfl⟩
   have h4:=h3.step u.h
   obtain ⟨Wh4,hWh4⟩:∃ W2,u.W=W2:=⟨_,rfl⟩
   rw [hWh4] at h4 ⊢
   clear hWh4 u h3 c8 c9 c10 c11 c12 c13 s0 s1 s2 s3 s4 s5 s6
   go_wp2_with fail
   go_ret
   exact ⟨rfl,h4.bel⟩
end Go.Proofs.YtkhheooofcpfdaaGreatDoor
