/- What the reference's CheckKey and Check return (package portref2), for every key and flow. -/
import Derived.Test.YtkhheooofcpfdaaGreatDoorMhQ
import Derived.Test.YtkhheooofcpfdaaGreatDoorTrkChk
namespace Go.Proofs.YtkhheooofcpfdaaGreatDoor
open Go.RowKit
set_option linter.unusedVariables false
set_option maxHeartbeats 8000000 in
theorem refCheckKey_any (k:Ky) (w:World):Calls Tryz.prog 65 #[keyV k] w fun e w'=>e = .returned (.int .i64 (if kyB k=true then 0 else 1))∧Below w.heap.size w w':=by
 have b1:Below w.heap.size w (w.alloc (.cells #[.int .i64 k.kind,.int .i64 k.src,.int .i64 k.frm,.int .i64 k.dst,.int .i64 k.too] 37)):=(Below.refl _ _).alloc (Nat.le_refl _) _
 have c1:=fun W=>refAddr_up k.src W
 have c2:=fun W=>refAddr_up k.dst W
 have c3:=fun W=>refWord_any k.frm W
 have c4:=fun W=>refWord_any k.too W
 obtain ⟨r,HR⟩:∃ r:Int,Hid (r=if kyB k=true then 0 else 1):=⟨_,rfl⟩
 rw [← HR.out]
 unfold kyB at HR
 rw [inR_up,inR_up,inR_up,inR_up] at HR
 generalize upB k.src 4294967295=x1 at c1 HR
 generalize upB k.dst 4294967295=x2 at c2 HR
 generalize upB k.frm 65535=x3 at c3 HR
 generalize upB k.too 65535=x4 at c4 HR
 have B1:=hidE b1
 have m0:True:=trivial
 unfold keyV
 clear b1
 by_cases h1:k.kind < 1
 ·obtain rfl:r=1:=by rw [HR.out,inR_no (by omega),if_neg (by simp)]
  clear HR
  go_enter Tryz.func65,Tryz.ntmps65
  go_wp2_with (first|(go_at_call 66;have m1:True:=m0;clear m0;refine (c1 _).mono ?_;rintro e w' ⟨rfl,rfl⟩)|(go_at_call 66;have m2:True:=m1;clear m1;refine (c2 _).mono ?_;rintro e w' ⟨rfl,rfl⟩)|(go_at_call 67;have m3:True:=m2;clear m2;refine (c3 _).mono ?_;rintro e w' ⟨rfl,rfl⟩)|(go_at_call 67;have m4:True:=m3;clear m3;refine (c4 _).mono ?_;rintro e w' ⟨rfl,rfl⟩))
  go_ret
  exact ⟨rfl,B1.out⟩
 by_cases h2:3 < k.kind
 ·obtain rfl:r=1:=by rw [HR.out,inR_no (by omega),if_neg (by simp)]
  clear HR
  go_enter Tryz.func65,Tryz.ntmps65
  go_wp2_with (first|(go_at_call 66;have m1:True:=m0;clear m0;refine (c1 _).mono ?_;rintro e w' ⟨rfl,rfl⟩)|(go_at_call 66;have m2:True:=m1;clear m1;refine (c2 _).mono ?_;rintro e w' ⟨rfl,rfl⟩)|(go_at_call 67;have m3:True:=m2;clear m2;refine (c3 _).mono ?_;rintro e w' ⟨rfl,rfl⟩)|(go_at_call 67;have m4:True:=m3;clear m3;refine (c4 _).mono ?_;rintro e w' ⟨rfl,rfl⟩))
  go_ret
  exact ⟨rfl,B1.out⟩
 have HR:Hid (r=if (true && x1 && x2 && x3 && x4)=true then 0 else 1):=by show r=_;rw [HR.out,inR_yes (by omega) (by omega)]
 rcases x1 with _|_
 ·obtain rfl:r=1:=by rw [HR.out,if_neg (by simp)]
  clear HR
  go_enter Tryz.func65,Tryz.ntmps65
  go_wp2_with (first|(go_at_call 66;have m1:True:=m0;clear m0;refine (c1 _).mono ?_;rintro e w' ⟨rfl,rfl⟩)|(go_at_call 66;have m2:True:=m1;clear m1;refine (c2 _).mono ?_;rintro e w' ⟨rfl,rfl⟩)|(go_at_call 67;have m3:True:=m2;clear m2;refine (c3 _).mono ?_;rintro e w' ⟨rfl,rfl⟩)|(go_at_call 67;have m4:True:=m3;clear m3;refine (c4 _).mono ?_;rintro e w' ⟨rfl,rfl⟩))
  go_ret
  exact ⟨rfl,B1.out⟩
 ·rcases x2 with _|_
  ·obtain rfl:r=1:=by rw [HR.out,if_neg (by simp)]
   clear HR
   go_enter Tryz.func65,Tryz.ntmps65
   go_wp2_with (first|(go_at_call 66;have m1:True:=m0;clear m0;refine (c1 _).mono ?_;rintro e w' ⟨rfl,rfl⟩)|(go_at_call 66;have m2:True:=m1;clear m1;refine (c2 _).mono ?_;rintro e w' ⟨rfl,rfl⟩)|(go_at_call 67;have m3:True:=m2;clear m2;refine (c3 _).mono ?_;rintro e w' ⟨rfl,rfl⟩)|(go_at_call 67;have m4:True:=m3;clear m3;refine (c4 _).mono ?_;rintro e w' ⟨rfl,rfl⟩))
   go_ret
   exact ⟨rfl,B1.out⟩
  ·rcases x3 with _|_
   ·obtain rfl:r=1:=by rw [HR.out,if_neg (by simp)]
    clear HR
    go_enter Tryz.func65,Tryz.ntmps65
    go_wp2_with (first|(go_at_call 66;have m1:True:=m0;clear m0;refine (c1 _).mono ?_;rintro e w' ⟨rfl,rfl⟩)|(go_at_call 66;have m2:True:=m1;clear m1;refine (c2 _).mono ?_;rintro e w' ⟨rfl,rfl⟩)|(go_at_call 67;have m3:True:=m2;clear m2;refine (c3 _).mono ?_;rintro e w' ⟨rfl,rfl⟩)|(go_at_call 67;have m4:True:=m3;clear m3;refine (c4 _).mono ?_;rintro e w' ⟨rfl,rfl⟩))
    go_ret
    exact ⟨rfl,B1.out⟩
   ·rcases x4 with _|_
    ·obtain rfl:r=1:=by rw [HR.out,if_neg (by simp)]
     clear HR
     go_enter Tryz.func65,Tryz.ntmps65
     go_wp2_with (first|(go_at_call 66;have m1:True:=m0;clear m0;refine (c1 _).mono ?_;rintro e w' ⟨rfl,rfl⟩)|(go_at_call 66;have m2:True:=m1;clear m1;refine (c2 _).mono ?_;rintro e w' ⟨rfl,rfl⟩)|(go_at_call 67;have m3:True:=m2;clear m2;refine (c3 _).mono ?_;rintro e w' ⟨rfl,rfl⟩)|(go_at_call 67;have m4:True:=m3;clear m3;refine (c4 _).mono ?_;rintro e w' ⟨rfl,rfl⟩))
     go_ret
     exact ⟨rfl,B1.out⟩
    ·obtain rfl:r=0:=by rw [HR.out,if_pos (by decide)]
     clear HR
     go_enter Tryz.func65,Tryz.ntmps65
     go_wp2_with (first|(go_at_call 66;have m1:True:=m0;clear m0;refine (c1 _).mono ?_;rintro e w' ⟨rfl,rfl⟩)|(go_at_call 66;have m2:True:=m1;clear m1;refine (c2 _).mono ?_;rintro e w' ⟨rfl,rfl⟩)|(go_at_call 67;have m3:True:=m2;clear m2;refine (c3 _).mono ?_;rintro e w' ⟨rfl,rfl⟩)|(go_at_call 67;have m4:True:=m3;clear m3;refine (c4 _).mono ?_;rintro e w' ⟨rfl,rfl⟩))
     go_ret
     exact ⟨rfl,B1.out⟩
theorem life_st {k st:Int} (hk:1≤k∧k≤3):lifeI k st=0 ↔ (st < 1∨4 < st∨(2 < st∧¬ k=1)):=by
 unfold lifeI
 repeat' split
 all_goals omega
set_option maxRecDepth 100000 in
set_option maxHeartbeats 16000000 in
theorem refCheck_any (f:Fl) (w:World):Calls Tryz.prog 38 #[flV f] w fun e w'=>e = .returned (.int .i64 (chkE f))∧Below w.heap.size w w':=by
 have b1:Below w.heap.size w (w.alloc (.cells #[.int .i64 f.key.kind,.int .i64 f.key.src,.int .i64 f.key.frm,.int .i64 f.key.dst,.int .i64 f.key.too,.int .i64 f.st,.int .i64 f.unt,.int .i64 f.stp,.int .i64 f.h0,.int .i64 f.h1,.int .i64 f.w0,.int .i64 f.w1,.bool f.d0,.bool f.d1,.int .i64 f.num] 45)):=(Below.refl _ _).alloc (Nat.le_refl _) _
 have p1:=FlAt.new w f
 obtain ⟨W1,hW1⟩:∃ W1,w.alloc (.cells #[.int .i64 f.key.kind,.int .i64 f.key.src,.int .i64 f.key.frm,.int .i64 f.key.dst,.int .i64 f.key.too,.int .i64 f.st,.int .i64 f.unt,.int .i64 f.stp,.int .i64 f.h0,.int .i64 f.h1,.int .i64 f.w0,.int .i64 f.w1,.bool f.d0,.bool f.d1,.int .i64 f.num] 45)=W1:=⟨_,rfl⟩
 rw [hW1] at b1 p1
 have hK:=refCheckKey_any f.key W1
 obtain ⟨r,HR⟩:∃ r,Hid (r=chkE f):=⟨_,rfl⟩
 rw [← HR.out]
 unfold chkE at HR
 generalize hx:kyB f.key=x at hK HR
 unfold flV keyV at *
 go_enter Tryz.func38,Tryz.ntmps38
 go_upto_region 1 with fail
 try rw [hW1]
 clear hW1
 obtain ⟨c0,c1,c2,c3,c4,c5,c6,c7,c8,c9,c10,c11,c12,c13,c14⟩:=p1.cells
 rcases x with _|_
 ·obtain rfl:r=1:=by rw [HR.out,if_pos (by simp)]
  rw [if_neg (by decide)] at hK
  clear HR
  go_wp2_with (go_at_call 65;refine hK.mono ?_;rintro e w2 ⟨rfl,b2⟩)
  go_ret
  exact ⟨rfl,b1.trans (b2.mono b1.size)⟩
 rw [if_pos rfl] at hK
 have hk:=(kyB_of hx).1
 go_upto_region 4 with (go_at_call 65;refine hK.mono ?_;rintro e w2 ⟨rfl,b2⟩)
 have p2:=p1.below p1.lt b2
 have B2:=hidE (b1.trans (b2.mono b1.size))
 clear hK p1 b1 b2 hx c0 c1 c2 c3 c4 c5 c6 c7 c8 c9 c10 c11 c12 c13 c14
 obtain ⟨c0,c1,c2,c3,c4,c5,c6,c7,c8,c9,c10,c11,c12,c13,c14⟩:=p2.cells
 have HR:Hid (r=if fiB f=false then 1 else if ¬ f.key.kind=1∧bareB f=false then 3 else if f.key.kind=3∧¬ f.key.frm=f.key.too then 3 else 0):=by
  show r=_;rw [HR.out,Bool.true_and]
 have bad:∀ {p:Prop},fiB f=false→r=1:=fun h=>by rw [HR.out,if_pos h]
 have HBAD:=hidE (show fiB f=false→r=1 from fun h=>by rw [HR.out,if_pos h])
 clear bad
 have n1:=fun W=>refNumber_any f.num W
 have n2:=fun W=>refAddr_up f.h0 W
 have n3:=fun W=>refAddr_up f.h1 W
 have n4:=fun W=>refWord_any f.w0 W
 have n5:=fun W=>refWord_any f.w1 W
 have m0:True:=trivial
 obtain ⟨t,ht⟩:∃ t,(f.key.kind == 1)=t:=⟨_,rfl⟩
 have HT:=hidE ht
 by_cases hl:lifeI f.key.kind f.st=0
 ·obtain rfl:r=1:=HBAD.out (by unfold fiB;rw [decide_eq_false (fun h=>h hl)];simp)
  have hst:=(life_st hk).1 hl
  clear HR HBAD hl HT
  by_cases s1:f.st < 1
  ·clear hst
   go_wp2_with fail
   go_ret
   exact ⟨rfl,B2.out⟩
  by_cases s4:4 < f.st
  ·clear hst
   go_wp2_with fail
   go_ret
   exact ⟨rfl,B2.out⟩
  ·have s2:2 < f.st:=by omega
   obtain rfl:t=false:=by rw [← ht];have:¬ f.key.kind=1:=(by omega);simpa using this
   clear hst
   go_wp2_with fail
   go_ret
   exact ⟨rfl,B2.out⟩
 have hst:¬ (f.st < 1∨4 < f.st∨(2 < f.st∧¬ f.key.kind=1)):=fun h=>hl ((life_st hk).2 h)
 have HR:Hid (r=if (true && (inR f.h0 0 4294967295 && inR f.w0 0 65535) && (inR f.h1 0 4294967295 && inR f.w1 0 65535) && inR f.unt 0 2000000 && inR f.stp 1 1000000 && inR f.num (-1) 200)=false then 1 else if ¬ f.key.kind=1∧bareB f=false then 3 else if f.key.kind=3∧¬ f.key.frm=f.key.too then 3 else 0):=by
  show r=_
  rw [HR.out]
  unfold fiB
  rw [decide_eq_true hl]
 rw [inR_up f.h0,inR_up f.h1,inR_up f.w0,inR_up f.w1] at HR
 generalize inR f.num (-1) 200=x1 at n1 HR
 generalize upB f.h0 4294967295=x2 at n2 HR
 generalize upB f.h1 4294967295=x3 at n3 HR
 generalize upB f.w0 65535=x4 at n4 HR
 generalize upB f.w1 65535=x5 at n5 HR
 have s1:¬ f.st < 1:=by omega
 have s4:¬ 4 < f.st:=by omega
 have hgo:t=true∨(t=false∧¬ 2 < f.st):=by
  rcases t with _|_
  ·right
   have:¬ f.key.kind=1:=by simpa using ht
   exact ⟨rfl,by omega⟩
  ·exact .inl rfl
 clear hst hl HBAD hk
 go_upto_region 5 with fail
 go_cut [36] (fun v wr=>v = .bool false∧wr=w2)
 case first =>
  rcases hgo with rfl|⟨rfl,h2⟩
  ·by_cases h2:2 < f.st
   ·go_wp2_with fail
    go_meet
    case rel=>exact ⟨rfl,rfl⟩
   ·go_wp2_with fail
    go_meet
    case rel=>exact ⟨rfl,rfl⟩
  ·go_wp2_with fail
   go_meet
   case rel=>exact ⟨rfl,rfl⟩
 case rest =>
 obtain ⟨rfl,hw⟩:=hcut
 subst hw
 clear hgo s1 s4
 have m0:True:=trivial
 go_upto_region 12 with (first|(go_at_call 48;have m1:True:=m0;clear m0;refine (n1 _).mono ?_;rintro e w' ⟨rfl,rfl⟩)|(go_at_call 66;have m2:True:=m1;clear m1;refine (n2 _).mono ?_;rintro e w' ⟨rfl,rfl⟩)|(go_at_call 66;have m3:True:=m2;clear m2;refine (n3 _).mono ?_;rintro e w' ⟨rfl,rfl⟩)|(go_at_call 67;have m4:True:=m3;clear m3;refine (n4 _).mono ?_;rintro e w' ⟨rfl,rfl⟩)|(go_at_call 67;have m5:True:=m4;clear m4;refine (n5 _).mono ?_;rintro e w' ⟨rfl,rfl⟩))
 have HB2:=B2
 by_cases u1:f.unt < 0
 ·obtain rfl:r=1:=by rw [HR.out,inR_no (n:=f.unt) (by omega),if_pos (by simp)]
  clear HR HT
  go_wp2_with fail
  go_ret
  exact ⟨rfl,B2.out⟩
 by_cases u2:2000000 < f.unt
 ·obtain rfl:r=1:=by rw [HR.out,inR_no (n:=f.unt) (by omega),if_pos (by simp)]
  clear HR HT
  go_wp2_with fail
  go_ret
  exact ⟨rfl,B2.out⟩
 by_cases p1:f.stp < 1
 ·obtain rfl:r=1:=by rw [HR.out,inR_no (n:=f.stp) (by omega),if_pos (by simp)]
  clear HR HT
  go_wp2_with fail
  go_ret
  exact ⟨rfl,B2.out⟩
 by_cases p3:1000000 < f.stp
 ·obtain rfl:r=1:=by rw [HR.out,inR_no (n:=f.stp) (by omega),if_pos (by simp)]
  clear HR HT
  go_wp2_with fail
  go_ret
  exact ⟨rfl,B2.out⟩
 rw [inR_yes (n:=f.unt) (by omega) (by omega),inR_yes (n:=f.stp) (by omega) (by omega)] at HR
 rcases x1 with _|_
 ·obtain rfl:r=1:=by rw [HR.out,if_pos (by simp)]
  clear HR HT
  go_wp2_with fail
  go_ret
  exact ⟨rfl,B2.out⟩
 rcases x2 with _|_
 ·obtain rfl:r=1:=by rw [HR.out,if_pos (by simp)]
  clear HR HT
  go_wp2_with fail
  go_ret
  exact ⟨rfl,B2.out⟩
 rcases x3 with _|_
 ·obtain rfl:r=1:=by rw [HR.out,if_pos (by simp)]
  clear HR HT
  go_wp2_with fail
  go_ret
  exact ⟨rfl,B2.out⟩
 rcases x4 with _|_
 ·obtain rfl:r=1:=by rw [HR.out,if_pos (by simp)]
  clear HR HT
  go_wp2_with fail
  go_ret
  exact ⟨rfl,B2.out⟩
 rcases x5 with _|_
 ·obtain rfl:r=1:=by rw [HR.out,if_pos (by simp)]
  clear HR HT
  go_wp2_with fail
  go_ret
  exact ⟨rfl,B2.out⟩
 have HR:Hid (r=if ¬ f.key.kind=1∧bareB f=false then 3 else if f.key.kind=3∧¬ f.key.frm=f.key.too then 3 else 0):=by show r=_;rw [HR.out,if_neg (by decide)]
 go_upto_region 14 with fail
 clear u1 u2 p1 p3
 rcases t with _|_
 rotate_left
 ·have k1:f.key.kind=1:=by simpa using HT.out
  obtain rfl:r=0:=by rw [HR.out,if_neg (fun h=>h.1 k1),if_neg (fun h=>by omega)]
  have e3:(f.key.kind == 3)=false:=by simp [k1]
  clear k1 HR HT ht
  go_wp2_with fail
  go_ret
  exact ⟨rfl,B2.out⟩
 have k1:¬ f.key.kind=1:=by simpa using HT.out
 have HNB:=hidE (show bareB f=false→r=3 from fun h=>by rw [HR.out,if_pos ⟨k1,h⟩])
 by_cases b0:f.h0=0
 rotate_left
 ·obtain rfl:r=3:=HNB.out (by unfold bareB;exact decide_eq_false fun h=>b0 (by simp [h]))
  have e0:(f.h0 != 0)=true:=by simpa using b0
  clear HR HT HNB ht k1 b0
  go_wp2_with fail
  go_ret
  exact ⟨rfl,B2.out⟩
 have e0:(f.h0 != 0)=false:=by simp [b0]
 by_cases b1:f.h1=0
 rotate_left
 ·obtain rfl:r=3:=HNB.out (by unfold bareB;exact decide_eq_false fun h=>b1 (by simp [h]))
  have e1:(f.h1 != 0)=true:=by simpa using b1
  clear HR HT HNB ht k1 b1
  go_wp2_with fail
  go_ret
  exact ⟨rfl,B2.out⟩
 have e1:(f.h1 != 0)=false:=by simp [b1]
 by_cases b2:f.w0=0
 rotate_left
 ·obtain rfl:r=3:=HNB.out (by unfold bareB;exact decide_eq_false fun h=>b2 (by simp [h]))
  have e2:(f.w0 != 0)=true:=by simpa using b2
  clear HR HT HNB ht k1 b2
  go_wp2_with fail
  go_ret
  exact ⟨rfl,B2.out⟩
 have e2:(f.w0 != 0)=false:=by simp [b2]
 by_cases b3:f.w1=0
 rotate_left
 ·obtain rfl:r=3:=HNB.out (by unfold bareB;exact decide_eq_false fun h=>b3 (by simp [h]))
  have e3:(f.w1 != 0)=true:=by simpa using b3
  clear HR HT HNB ht k1 b3
  go_wp2_with fail
  go_ret
  exact ⟨rfl,B2.out⟩
 have e3:(f.w1 != 0)=false:=by simp [b3]
 obtain ⟨y4,hy4⟩:∃ y,f.d0=y:=⟨_,rfl⟩
 rw [hy4] at c12
 rcases y4 with _|_
 rotate_left
 ·obtain rfl:r=3:=HNB.out (by unfold bareB;exact decide_eq_false fun h=>by rw [hy4] at h;simp at h)
  clear HR HT HNB ht k1 hy4 b0 b1 b2 b3
  go_wp2_with fail
  go_ret
  exact ⟨rfl,B2.out⟩
 obtain ⟨y5,hy5⟩:∃ y,f.d1=y:=⟨_,rfl⟩
 rw [hy5] at c13
 rcases y5 with _|_
 rotate_left
 ·obtain rfl:r=3:=HNB.out (by unfold bareB;exact decide_eq_false fun h=>by rw [hy5] at h;simp at h)
  clear HR HT HNB ht k1 hy5 b0 b1 b2 b3 hy4
  go_wp2_with fail
  go_ret
  exact ⟨rfl,B2.out⟩
 have HR:Hid (r=if f.key.kind=3∧¬ f.key.frm=f.key.too then 3 else 0):=by show r=_;rw [HR.out,if_neg (fun h=>by have:=h.2;unfold bareB at this;rw [decide_eq_true ⟨b0,b1,b2,b3,hy4,hy5⟩] at this;cases this)]
 clear b0 b1 b2 b3 hy4 hy5 HNB HT ht
 by_cases k3:f.key.kind=3
 ·have e6:(f.key.kind == 3)=true:=by simpa using k3
  by_cases hp:f.key.frm=f.key.too
  ·obtain rfl:r=0:=by rw [HR.out,if_neg (fun h=>h.2 hp)]
   have e7:(f.key.frm != f.key.too)=false:=by simp [hp]
   clear k1 k3 hp HR
   go_wp2_with fail
   go_ret
   exact ⟨rfl,B2.out⟩
  ·obtain rfl:r=3:=by rw [HR.out,if_pos ⟨k3,hp⟩]
   have e7:(f.key.frm != f.key.too)=true:=by simpa using hp
   clear k1 k3 hp HR
   go_wp2_with fail
   go_ret
   exact ⟨rfl,B2.out⟩
 ·obtain rfl:r=0:=by rw [HR.out,if_neg (fun h=>k3 h.1)]
  have e6:(f.key.kind == 3)=false:=by simpa using k3
  clear k1 k3 HR
  go_wp2_with fail
  go_ret
  exact ⟨rfl,B2.out⟩
end Go.Proofs.YtkhheooofcpfdaaGreatDoor
