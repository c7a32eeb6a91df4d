/- What isKey, fits, Check, ofKey and checkSaid of package track return, for every flow, key and segment, where the table of lives holds what the rows lay. -/
import Derived.Test.YtkhheooofcpfdaaGreatDoorMgD
import Derived.Test.YtkhheooofcpfdaaGreatDoorMgH
import Derived.Test.YtkhheooofcpfdaaGreatDoorMgC
namespace Go.Proofs.YtkhheooofcpfdaaGreatDoor
open Go.RowKit
set_option linter.unusedVariables false
theorem hidE {p:Prop} (h:p):Hid p:=h
set_option maxHeartbeats 4000000 in
theorem isKey_any (k:Ky) (w:World) :
  Calls Tryz.prog 68 #[keyV k] w fun e w'=>e = .returned (.bool (kyB k))∧Below w.heap.size w w':=by
 have b1:Below w.heap.size w (w.alloc (.cells #[.int .i64 k.kind,.int .i64 k.src,.int .i64 k.frm,.int .i64 k.dst,.int .i64 k.too] 37)):=(Below.refl _ _).alloc (Nat.le_refl _) _
 have c1:=fun W=>within_any k.kind 1 3 W
 have c2:=fun W=>within_any k.src 0 4294967295 W
 have c3:=fun W=>within_any k.dst 0 4294967295 W
 have c4:=fun W=>within_any k.frm 0 65535 W
 have c5:=fun W=>within_any k.too 0 65535 W
 obtain ⟨r,HR⟩:∃ r,Hid (r=kyB k):=⟨_,rfl⟩
 rw [← HR.out]
 unfold kyB at HR
 generalize inR k.kind 1 3=x1 at c1 HR
 generalize inR k.src 0 4294967295=x2 at c2 HR
 generalize inR k.dst 0 4294967295=x3 at c3 HR
 generalize inR k.frm 0 65535=x4 at c4 HR
 generalize inR k.too 0 65535=x5 at c5 HR
 have m0:True:=trivial
 unfold keyV
 rcases x1 with _|_
 ·obtain rfl:r=false:=by simpa using HR.out
  clear HR
  go_enter Tryz.func68,Tryz.ntmps68
  go_wp2_with (first|(go_at_call 56;have m1:True:=m0;clear m0;refine (c1 _).mono ?_;rintro e w' ⟨rfl,rfl⟩)|(go_at_call 56;have m2:True:=m1;clear m1;refine (c2 _).mono ?_;rintro e w' ⟨rfl,rfl⟩)|(go_at_call 56;have m3:True:=m2;clear m2;refine (c3 _).mono ?_;rintro e w' ⟨rfl,rfl⟩)|(go_at_call 56;have m4:True:=m3;clear m3;refine (c4 _).mono ?_;rintro e w' ⟨rfl,rfl⟩)|(go_at_call 56;have m5:True:=m4;clear m4;refine (c5 _).mono ?_;rintro e w' ⟨rfl,rfl⟩))
  go_ret
  exact ⟨rfl,b1⟩
 ·rcases x2 with _|_
  ·obtain rfl:r=false:=by simpa using HR.out
   clear HR
   go_enter Tryz.func68,Tryz.ntmps68
   go_wp2_with (first|(go_at_call 56;have m1:True:=m0;clear m0;refine (c1 _).mono ?_;rintro e w' ⟨rfl,rfl⟩)|(go_at_call 56;have m2:True:=m1;clear m1;refine (c2 _).mono ?_;rintro e w' ⟨rfl,rfl⟩)|(go_at_call 56;have m3:True:=m2;clear m2;refine (c3 _).mono ?_;rintro e w' ⟨rfl,rfl⟩)|(go_at_call 56;have m4:True:=m3;clear m3;refine (c4 _).mono ?_;rintro e w' ⟨rfl,rfl⟩)|(go_at_call 56;have m5:True:=m4;clear m4;refine (c5 _).mono ?_;rintro e w' ⟨rfl,rfl⟩))
   go_ret
   exact ⟨rfl,b1⟩
  ·rcases x3 with _|_
   ·obtain rfl:r=false:=by simpa using HR.out
    clear HR
    go_enter Tryz.func68,Tryz.ntmps68
    go_wp2_with (first|(go_at_call 56;have m1:True:=m0;clear m0;refine (c1 _).mono ?_;rintro e w' ⟨rfl,rfl⟩)|(go_at_call 56;have m2:True:=m1;clear m1;refine (c2 _).mono ?_;rintro e w' ⟨rfl,rfl⟩)|(go_at_call 56;have m3:True:=m2;clear m2;refine (c3 _).mono ?_;rintro e w' ⟨rfl,rfl⟩)|(go_at_call 56;have m4:True:=m3;clear m3;refine (c4 _).mono ?_;rintro e w' ⟨rfl,rfl⟩)|(go_at_call 56;have m5:True:=m4;clear m4;refine (c5 _).mono ?_;rintro e w' ⟨rfl,rfl⟩))
    go_ret
    exact ⟨rfl,b1⟩
   ·rcases x4 with _|_
    ·obtain rfl:r=false:=by simpa using HR.out
     clear HR
     go_enter Tryz.func68,Tryz.ntmps68
     go_wp2_with (first|(go_at_call 56;have m1:True:=m0;clear m0;refine (c1 _).mono ?_;rintro e w' ⟨rfl,rfl⟩)|(go_at_call 56;have m2:True:=m1;clear m1;refine (c2 _).mono ?_;rintro e w' ⟨rfl,rfl⟩)|(go_at_call 56;have m3:True:=m2;clear m2;refine (c3 _).mono ?_;rintro e w' ⟨rfl,rfl⟩)|(go_at_call 56;have m4:True:=m3;clear m3;refine (c4 _).mono ?_;rintro e w' ⟨rfl,rfl⟩)|(go_at_call 56;have m5:True:=m4;clear m4;refine (c5 _).mono ?_;rintro e w' ⟨rfl,rfl⟩))
     go_ret
     exact ⟨rfl,b1⟩
    ·rcases x5 with _|_
     ·obtain rfl:r=false:=by simpa using HR.out
      clear HR
      go_enter Tryz.func68,Tryz.ntmps68
      go_wp2_with (first|(go_at_call 56;have m1:True:=m0;clear m0;refine (c1 _).mono ?_;rintro e w' ⟨rfl,rfl⟩)|(go_at_call 56;have m2:True:=m1;clear m1;refine (c2 _).mono ?_;rintro e w' ⟨rfl,rfl⟩)|(go_at_call 56;have m3:True:=m2;clear m2;refine (c3 _).mono ?_;rintro e w' ⟨rfl,rfl⟩)|(go_at_call 56;have m4:True:=m3;clear m3;refine (c4 _).mono ?_;rintro e w' ⟨rfl,rfl⟩)|(go_at_call 56;have m5:True:=m4;clear m4;refine (c5 _).mono ?_;rintro e w' ⟨rfl,rfl⟩))
      go_ret
      exact ⟨rfl,b1⟩
     ·obtain rfl:r=true:=by simpa using HR.out
      clear HR
      go_enter Tryz.func68,Tryz.ntmps68
      go_wp2_with (first|(go_at_call 56;have m1:True:=m0;clear m0;refine (c1 _).mono ?_;rintro e w' ⟨rfl,rfl⟩)|(go_at_call 56;have m2:True:=m1;clear m1;refine (c2 _).mono ?_;rintro e w' ⟨rfl,rfl⟩)|(go_at_call 56;have m3:True:=m2;clear m2;refine (c3 _).mono ?_;rintro e w' ⟨rfl,rfl⟩)|(go_at_call 56;have m4:True:=m3;clear m3;refine (c4 _).mono ?_;rintro e w' ⟨rfl,rfl⟩)|(go_at_call 56;have m5:True:=m4;clear m4;refine (c5 _).mono ?_;rintro e w' ⟨rfl,rfl⟩))
      go_ret
      exact ⟨rfl,b1⟩
set_option maxHeartbeats 16000000 in
theorem fits_flow (f:Fl) (w:World) (hL:Lives w) :
  Calls Tryz.prog 69 #[flV f] w fun e w'=>e = .returned (.bool (fiB f))∧Below w.heap.size w w':=by
 have b1:Below w.heap.size w (w.alloc (.cells #[.int .i64 f.key.kind,.int .i64 f.key.src,.int .i64 f.key.frm,.int .i64 f.key.dst,.int .i64 f.key.too,.int .i64 f.st,.int .i64 f.unt,.int .i64 f.stp,.int .i64 f.h0,.int .i64 f.h1,.int .i64 f.w0,.int .i64 f.w1,.bool f.d0,.bool f.d1,.int .i64 f.num] 45)):=(Below.refl _ _).alloc (Nat.le_refl _) _
 have p1:=FlAt.new w f
 have cL:=life_any f.key.kind f.st _ (hL.below b1)
 obtain ⟨W1,hW1⟩:∃ W1,w.alloc (.cells #[.int .i64 f.key.kind,.int .i64 f.key.src,.int .i64 f.key.frm,.int .i64 f.key.dst,.int .i64 f.key.too,.int .i64 f.st,.int .i64 f.unt,.int .i64 f.stp,.int .i64 f.h0,.int .i64 f.h1,.int .i64 f.w0,.int .i64 f.w1,.bool f.d0,.bool f.d1,.int .i64 f.num] 45)=W1:=⟨_,rfl⟩
 rw [hW1] at b1 p1 cL
 clear hL
 have c1:=fun W=>within_any f.h0 0 4294967295 W
 have c2:=fun W=>within_any f.w0 0 65535 W
 have c3:=fun W=>within_any f.h1 0 4294967295 W
 have c4:=fun W=>within_any f.w1 0 65535 W
 have c5:=fun W=>within_any f.unt 0 2000000 W
 have c6:=fun W=>within_any f.stp 1 1000000 W
 have c7:=fun W=>within_any f.num (-1) 200 W
 obtain ⟨r,HR⟩:∃ r,Hid (r=fiB f):=⟨_,rfl⟩
 rw [← HR.out]
 unfold fiB at HR
 generalize inR f.h0 0 4294967295=x1 at c1 HR
 generalize inR f.w0 0 65535=x2 at c2 HR
 generalize inR f.h1 0 4294967295=x3 at c3 HR
 generalize inR f.w1 0 65535=x4 at c4 HR
 generalize inR f.unt 0 2000000=x5 at c5 HR
 generalize inR f.stp 1 1000000=x6 at c6 HR
 generalize inR f.num (-1) 200=x7 at c7 HR
 generalize lifeI f.key.kind f.st=lf at cL HR
 have m0:True:=trivial
 unfold flV
 by_cases h0:lf=0
 ·have e0:(lf == 0)=true:=by simpa using h0
  obtain rfl:r=false:=by rw [HR.out,h0];simp
  clear h0
  clear HR
  go_enter Tryz.func69,Tryz.ntmps69
  go_upto_region 1 with fail
  try rw [hW1]
  clear hW1
  obtain ⟨q0,q1,q2,q3,q4,q5,q6,q7,q8,q9,q10,q11,q12,q13,q14⟩:=p1.cells
  go_wp2_with (first|(go_at_call 56;have m1:True:=m0;clear m0;refine (c1 _).mono ?_;rintro e w' ⟨rfl,rfl⟩)|(go_at_call 56;have m2:True:=m1;clear m1;refine (c2 _).mono ?_;rintro e w' ⟨rfl,rfl⟩)|(go_at_call 56;have m3:True:=m2;clear m2;refine (c3 _).mono ?_;rintro e w' ⟨rfl,rfl⟩)|(go_at_call 56;have m4:True:=m3;clear m3;refine (c4 _).mono ?_;rintro e w' ⟨rfl,rfl⟩)|(go_at_call 56;have m5:True:=m4;clear m4;refine (c5 _).mono ?_;rintro e w' ⟨rfl,rfl⟩)|(go_at_call 56;have m6:True:=m5;clear m5;refine (c6 _).mono ?_;rintro e w' ⟨rfl,rfl⟩)|(go_at_call 56;have m7:True:=m6;clear m6;refine (c7 _).mono ?_;rintro e w' ⟨rfl,rfl⟩)|(go_at_call 84;refine cL.mono ?_;rintro e w' ⟨rfl,rfl⟩))
  go_ret
  exact ⟨rfl,b1⟩
 ·have e0:(lf == 0)=false:=by simpa using h0
  have HR:Hid (r=(true && (x1 && x2) && (x3 && x4) && x5 && x6 && x7)):=by
   show r=_
   rw [HR.out,decide_eq_true h0]
  clear h0
  rcases x1 with _|_
  ·obtain rfl:r=false:=by simpa using HR.out
   clear HR
   go_enter Tryz.func69,Tryz.ntmps69
   go_upto_region 1 with fail
   try rw [hW1]
   clear hW1
   obtain ⟨q0,q1,q2,q3,q4,q5,q6,q7,q8,q9,q10,q11,q12,q13,q14⟩:=p1.cells
   go_wp2_with (first|(go_at_call 56;have m1:True:=m0;clear m0;refine (c1 _).mono ?_;rintro e w' ⟨rfl,rfl⟩)|(go_at_call 56;have m2:True:=m1;clear m1;refine (c2 _).mono ?_;rintro e w' ⟨rfl,rfl⟩)|(go_at_call 56;have m3:True:=m2;clear m2;refine (c3 _).mono ?_;rintro e w' ⟨rfl,rfl⟩)|(go_at_call 56;have m4:True:=m3;clear m3;refine (c4 _).mono ?_;rintro e w' ⟨rfl,rfl⟩)|(go_at_call 56;have m5:True:=m4;clear m4;refine (c5 _).mono ?_;rintro e w' ⟨rfl,rfl⟩)|(go_at_call 56;have m6:True:=m5;clear m5;refine (c6 _).mono ?_;rintro e w' ⟨rfl,rfl⟩)|(go_at_call 56;have m7:True:=m6;clear m6;refine (c7 _).mono ?_;rintro e w' ⟨rfl,rfl⟩)|(go_at_call 84;refine cL.mono ?_;rintro e w' ⟨rfl,rfl⟩))
   refine wp_loop_rounds 1 ?_
   rw [rounds_succ]
   go_wp2_with (first|(go_at_call 56;have m1:True:=m0;clear m0;refine (c1 _).mono ?_;rintro e w' ⟨rfl,rfl⟩)|(go_at_call 56;have m2:True:=m1;clear m1;refine (c2 _).mono ?_;rintro e w' ⟨rfl,rfl⟩)|(go_at_call 56;have m3:True:=m2;clear m2;refine (c3 _).mono ?_;rintro e w' ⟨rfl,rfl⟩)|(go_at_call 56;have m4:True:=m3;clear m3;refine (c4 _).mono ?_;rintro e w' ⟨rfl,rfl⟩)|(go_at_call 56;have m5:True:=m4;clear m4;refine (c5 _).mono ?_;rintro e w' ⟨rfl,rfl⟩)|(go_at_call 56;have m6:True:=m5;clear m5;refine (c6 _).mono ?_;rintro e w' ⟨rfl,rfl⟩)|(go_at_call 56;have m7:True:=m6;clear m6;refine (c7 _).mono ?_;rintro e w' ⟨rfl,rfl⟩)|(go_at_call 84;refine cL.mono ?_;rintro e w' ⟨rfl,rfl⟩))
   go_ret
   exact ⟨rfl,b1⟩
  ·rcases x2 with _|_
   ·obtain rfl:r=false:=by simpa using HR.out
    clear HR
    go_enter Tryz.func69,Tryz.ntmps69
    go_upto_region 1 with fail
    try rw [hW1]
    clear hW1
    obtain ⟨q0,q1,q2,q3,q4,q5,q6,q7,q8,q9,q10,q11,q12,q13,q14⟩:=p1.cells
    go_wp2_with (first|(go_at_call 56;have m1:True:=m0;clear m0;refine (c1 _).mono ?_;rintro e w' ⟨rfl,rfl⟩)|(go_at_call 56;have m2:True:=m1;clear m1;refine (c2 _).mono ?_;rintro e w' ⟨rfl,rfl⟩)|(go_at_call 56;have m3:True:=m2;clear m2;refine (c3 _).mono ?_;rintro e w' ⟨rfl,rfl⟩)|(go_at_call 56;have m4:True:=m3;clear m3;refine (c4 _).mono ?_;rintro e w' ⟨rfl,rfl⟩)|(go_at_call 56;have m5:True:=m4;clear m4;refine (c5 _).mono ?_;rintro e w' ⟨rfl,rfl⟩)|(go_at_call 56;have m6:True:=m5;clear m5;refine (c6 _).mono ?_;rintro e w' ⟨rfl,rfl⟩)|(go_at_call 56;have m7:True:=m6;clear m6;refine (c7 _).mono ?_;rintro e w' ⟨rfl,rfl⟩)|(go_at_call 84;refine cL.mono ?_;rintro e w' ⟨rfl,rfl⟩))
    refine wp_loop_rounds 1 ?_
    rw [rounds_succ]
    go_wp2_with (first|(go_at_call 56;have m1:True:=m0;clear m0;refine (c1 _).mono ?_;rintro e w' ⟨rfl,rfl⟩)|(go_at_call 56;have m2:True:=m1;clear m1;refine (c2 _).mono ?_;rintro e w' ⟨rfl,rfl⟩)|(go_at_call 56;have m3:True:=m2;clear m2;refine (c3 _).mono ?_;rintro e w' ⟨rfl,rfl⟩)|(go_at_call 56;have m4:True:=m3;clear m3;refine (c4 _).mono ?_;rintro e w' ⟨rfl,rfl⟩)|(go_at_call 56;have m5:True:=m4;clear m4;refine (c5 _).mono ?_;rintro e w' ⟨rfl,rfl⟩)|(go_at_call 56;have m6:True:=m5;clear m5;refine (c6 _).mono ?_;rintro e w' ⟨rfl,rfl⟩)|(go_at_call 56;have m7:True:=m6;clear m6;refine (c7 _).mono ?_;rintro e w' ⟨rfl,rfl⟩)|(go_at_call 84;refine cL.mono ?_;rintro e w' ⟨rfl,rfl⟩))
    go_ret
    exact ⟨rfl,b1⟩
   ·rcases x3 with _|_
    ·obtain rfl:r=false:=by simpa using HR.out
     clear HR
     go_enter Tryz.func69,Tryz.ntmps69
     go_upto_region 1 with fail
     try rw [hW1]
     clear hW1
     obtain ⟨q0,q1,q2,q3,q4,q5,q6,q7,q8,q9,q10,q11,q12,q13,q14⟩:=p1.cells
     go_wp2_with (first|(go_at_call 56;have m1:True:=m0;clear m0;refine (c1 _).mono ?_;rintro e w' ⟨rfl,rfl⟩)|(go_at_call 56;have m2:True:=m1;clear m1;refine (c2 _).mono ?_;rintro e w' ⟨rfl,rfl⟩)|(go_at_call 56;have m3:True:=m2;clear m2;refine (c3 _).mono ?_;rintro e w' ⟨rfl,rfl⟩)|(go_at_call 56;have m4:True:=m3;clear m3;refine (c4 _).mono ?_;rintro e w' ⟨rfl,rfl⟩)|(go_at_call 56;have m5:True:=m4;clear m4;refine (c5 _).mono ?_;rintro e w' ⟨rfl,rfl⟩)|(go_at_call 56;have m6:True:=m5;clear m5;refine (c6 _).mono ?_;rintro e w' ⟨rfl,rfl⟩)|(go_at_call 56;have m7:True:=m6;clear m6;refine (c7 _).mono ?_;rintro e w' ⟨rfl,rfl⟩)|(go_at_call 84;refine cL.mono ?_;rintro e w' ⟨rfl,rfl⟩))
     refine wp_loop_rounds 2 ?_
     rw [rounds_succ]
     go_wp2_with (first|(go_at_call 56;have m1:True:=m0;clear m0;refine (c1 _).mono ?_;rintro e w' ⟨rfl,rfl⟩)|(go_at_call 56;have m2:True:=m1;clear m1;refine (c2 _).mono ?_;rintro e w' ⟨rfl,rfl⟩)|(go_at_call 56;have m3:True:=m2;clear m2;refine (c3 _).mono ?_;rintro e w' ⟨rfl,rfl⟩)|(go_at_call 56;have m4:True:=m3;clear m3;refine (c4 _).mono ?_;rintro e w' ⟨rfl,rfl⟩)|(go_at_call 56;have m5:True:=m4;clear m4;refine (c5 _).mono ?_;rintro e w' ⟨rfl,rfl⟩)|(go_at_call 56;have m6:True:=m5;clear m5;refine (c6 _).mono ?_;rintro e w' ⟨rfl,rfl⟩)|(go_at_call 56;have m7:True:=m6;clear m6;refine (c7 _).mono ?_;rintro e w' ⟨rfl,rfl⟩)|(go_at_call 84;refine cL.mono ?_;rintro e w' ⟨rfl,rfl⟩))
     rw [rounds_succ]
     go_wp2_with (first|(go_at_call 56;have m1:True:=m0;clear m0;refine (c1 _).mono ?_;rintro e w' ⟨rfl,rfl⟩)|(go_at_call 56;have m2:True:=m1;clear m1;refine (c2 _).mono ?_;rintro e w' ⟨rfl,rfl⟩)|(go_at_call 56;have m3:True:=m2;clear m2;refine (c3 _).mono ?_;rintro e w' ⟨rfl,rfl⟩)|(go_at_call 56;have m4:True:=m3;clear m3;refine (c4 _).mono ?_;rintro e w' ⟨rfl,rfl⟩)|(go_at_call 56;have m5:True:=m4;clear m4;refine (c5 _).mono ?_;rintro e w' ⟨rfl,rfl⟩)|(go_at_call 56;have m6:True:=m5;clear m5;refine (c6 _).mono ?_;rintro e w' ⟨rfl,rfl⟩)|(go_at_call 56;have m7:True:=m6;clear m6;refine (c7 _).mono ?_;rintro e w' ⟨rfl,rfl⟩)|(go_at_call 84;refine cL.mono ?_;rintro e w' ⟨rfl,rfl⟩))
     go_ret
     exact ⟨rfl,b1⟩
    ·rcases x4 with _|_
     ·obtain rfl:r=false:=by simpa using HR.out
      clear HR
      go_enter Tryz.func69,Tryz.ntmps69
      go_upto_region 1 with fail
      try rw [hW1]
      clear hW1
      obtain ⟨q0,q1,q2,q3,q4,q5,q6,q7,q8,q9,q10,q11,q12,q13,q14⟩:=p1.cells
      go_wp2_with (first|(go_at_call 56;have m1:True:=m0;clear m0;refine (c1 _).mono ?_;rintro e w' ⟨rfl,rfl⟩)|(go_at_call 56;have m2:True:=m1;clear m1;refine (c2 _).mono ?_;rintro e w' ⟨rfl,rfl⟩)|(go_at_call 56;have m3:True:=m2;clear m2;refine (c3 _).mono ?_;rintro e w' ⟨rfl,rfl⟩)|(go_at_call 56;have m4:True:=m3;clear m3;refine (c4 _).mono ?_;rintro e w' ⟨rfl,rfl⟩)|(go_at_call 56;have m5:True:=m4;clear m4;refine (c5 _).mono ?_;rintro e w' ⟨rfl,rfl⟩)|(go_at_call 56;have m6:True:=m5;clear m5;refine (c6 _).mono ?_;rintro e w' ⟨rfl,rfl⟩)|(go_at_call 56;have m7:True:=m6;clear m6;refine (c7 _).mono ?_;rintro e w' ⟨rfl,rfl⟩)|(go_at_call 84;refine cL.mono ?_;rintro e w' ⟨rfl,rfl⟩))
      refine wp_loop_rounds 2 ?_
      rw [rounds_succ]
      go_wp2_with (first|(go_at_call 56;have m1:True:=m0;clear m0;refine (c1 _).mono ?_;rintro e w' ⟨rfl,rfl⟩)|(go_at_call 56;have m2:True:=m1;clear m1;refine (c2 _).mono ?_;rintro e w' ⟨rfl,rfl⟩)|(go_at_call 56;have m3:True:=m2;clear m2;refine (c3 _).mono ?_;rintro e w' ⟨rfl,rfl⟩)|(go_at_call 56;have m4:True:=m3;clear m3;refine (c4 _).mono ?_;rintro e w' ⟨rfl,rfl⟩)|(go_at_call 56;have m5:True:=m4;clear m4;refine (c5 _).mono ?_;rintro e w' ⟨rfl,rfl⟩)|(go_at_call 56;have m6:True:=m5;clear m5;refine (c6 _).mono ?_;rintro e w' ⟨rfl,rfl⟩)|(go_at_call 56;have m7:True:=m6;clear m6;refine (c7 _).mono ?_;rintro e w' ⟨rfl,rfl⟩)|(go_at_call 84;refine cL.mono ?_;rintro e w' ⟨rfl,rfl⟩))
      rw [rounds_succ]
      go_wp2_with (first|(go_at_call 56;have m1:True:=m0;clear m0;refine (c1 _).mono ?_;rintro e w' ⟨rfl,rfl⟩)|(go_at_call 56;have m2:True:=m1;clear m1;refine (c2 _).mono ?_;rintro e w' ⟨rfl,rfl⟩)|(go_at_call 56;have m3:True:=m2;clear m2;refine (c3 _).mono ?_;rintro e w' ⟨rfl,rfl⟩)|(go_at_call 56;have m4:True:=m3;clear m3;refine (c4 _).mono ?_;rintro e w' ⟨rfl,rfl⟩)|(go_at_call 56;have m5:True:=m4;clear m4;refine (c5 _).mono ?_;rintro e w' ⟨rfl,rfl⟩)|(go_at_call 56;have m6:True:=m5;clear m5;refine (c6 _).mono ?_;rintro e w' ⟨rfl,rfl⟩)|(go_at_call 56;have m7:True:=m6;clear m6;refine (c7 _).mono ?_;rintro e w' ⟨rfl,rfl⟩)|(go_at_call 84;refine cL.mono ?_;rintro e w' ⟨rfl,rfl⟩))
      go_ret
      exact ⟨rfl,b1⟩
     ·rcases x5 with _|_
      ·obtain rfl:r=false:=by simpa using HR.out
       clear HR
       go_enter Tryz.func69,Tryz.ntmps69
       go_upto_region 1 with fail
       try rw [hW1]
       clear hW1
       obtain ⟨q0,q1,q2,q3,q4,q5,q6,q7,q8,q9,q10,q11,q12,q13,q14⟩:=p1.cells
       go_wp2_with (first|(go_at_call 56;have m1:True:=m0;clear m0;refine (c1 _).mono ?_;rintro e w' ⟨rfl,rfl⟩)|(go_at_call 56;have m2:True:=m1;clear m1;refine (c2 _).mono ?_;rintro e w' ⟨rfl,rfl⟩)|(go_at_call 56;have m3:True:=m2;clear m2;refine (c3 _).mono ?_;rintro e w' ⟨rfl,rfl⟩)|(go_at_call 56;have m4:True:=m3;clear m3;refine (c4 _).mono ?_;rintro e w' ⟨rfl,rfl⟩)|(go_at_call 56;have m5:True:=m4;clear m4;refine (c5 _).mono ?_;rintro e w' ⟨rfl,rfl⟩)|(go_at_call 56;have m6:True:=m5;clear m5;refine (c6 _).mono ?_;rintro e w' ⟨rfl,rfl⟩)|(go_at_call 56;have m7:True:=m6;clear m6;refine (c7 _).mono ?_;rintro e w' ⟨rfl,rfl⟩)|(go_at_call 84;refine cL.mono ?_;rintro e w' ⟨rfl,rfl⟩))
       refine wp_loop_rounds 3 ?_
       rw [rounds_succ]
       go_wp2_with (first|(go_at_call 56;have m1:True:=m0;clear m0;refine (c1 _).mono ?_;rintro e w' ⟨rfl,rfl⟩)|(go_at_call 56;have m2:True:=m1;clear m1;refine (c2 _).mono ?_;rintro e w' ⟨rfl,rfl⟩)|(go_at_call 56;have m3:True:=m2;clear m2;refine (c3 _).mono ?_;rintro e w' ⟨rfl,rfl⟩)|(go_at_call 56;have m4:True:=m3;clear m3;refine (c4 _).mono ?_;rintro e w' ⟨rfl,rfl⟩)|(go_at_call 56;have m5:True:=m4;clear m4;refine (c5 _).mono ?_;rintro e w' ⟨rfl,rfl⟩)|(go_at_call 56;have m6:True:=m5;clear m5;refine (c6 _).mono ?_;rintro e w' ⟨rfl,rfl⟩)|(go_at_call 56;have m7:True:=m6;clear m6;refine (c7 _).mono ?_;rintro e w' ⟨rfl,rfl⟩)|(go_at_call 84;refine cL.mono ?_;rintro e w' ⟨rfl,rfl⟩))
       rw [rounds_succ]
       go_wp2_with (first|(go_at_call 56;have m1:True:=m0;clear m0;refine (c1 _).mono ?_;rintro e w' ⟨rfl,rfl⟩)|(go_at_call 56;have m2:True:=m1;clear m1;refine (c2 _).mono ?_;rintro e w' ⟨rfl,rfl⟩)|(go_at_call 56;have m3:True:=m2;clear m2;refine (c3 _).mono ?_;rintro e w' ⟨rfl,rfl⟩)|(go_at_call 56;have m4:True:=m3;clear m3;refine (c4 _).mono ?_;rintro e w' ⟨rfl,rfl⟩)|(go_at_call 56;have m5:True:=m4;clear m4;refine (c5 _).mono ?_;rintro e w' ⟨rfl,rfl⟩)|(go_at_call 56;have m6:True:=m5;clear m5;refine (c6 _).mono ?_;rintro e w' ⟨rfl,rfl⟩)|(go_at_call 56;have m7:True:=m6;clear m6;refine (c7 _).mono ?_;rintro e w' ⟨rfl,rfl⟩)|(go_at_call 84;refine cL.mono ?_;rintro e w' ⟨rfl,rfl⟩))
       rw [rounds_succ]
       go_wp2_with (first|(go_at_call 56;have m1:True:=m0;clear m0;refine (c1 _).mono ?_;rintro e w' ⟨rfl,rfl⟩)|(go_at_call 56;have m2:True:=m1;clear m1;refine (c2 _).mono ?_;rintro e w' ⟨rfl,rfl⟩)|(go_at_call 56;have m3:True:=m2;clear m2;refine (c3 _).mono ?_;rintro e w' ⟨rfl,rfl⟩)|(go_at_call 56;have m4:True:=m3;clear m3;refine (c4 _).mono ?_;rintro e w' ⟨rfl,rfl⟩)|(go_at_call 56;have m5:True:=m4;clear m4;refine (c5 _).mono ?_;rintro e w' ⟨rfl,rfl⟩)|(go_at_call 56;have m6:True:=m5;clear m5;refine (c6 _).mono ?_;rintro e w' ⟨rfl,rfl⟩)|(go_at_call 56;have m7:True:=m6;clear m6;refine (c7 _).mono ?_;rintro e w' ⟨rfl,rfl⟩)|(go_at_call 84;refine cL.mono ?_;rintro e w' ⟨rfl,rfl⟩))
       go_ret
       exact ⟨rfl,b1⟩
      ·rcases x6 with _|_
       ·obtain rfl:r=false:=by simpa using HR.out
        clear HR
        go_enter Tryz.func69,Tryz.ntmps69
        go_upto_region 1 with fail
        try rw [hW1]
        clear hW1
        obtain ⟨q0,q1,q2,q3,q4,q5,q6,q7,q8,q9,q10,q11,q12,q13,q14⟩:=p1.cells
        go_wp2_with (first|(go_at_call 56;have m1:True:=m0;clear m0;refine (c1 _).mono ?_;rintro e w' ⟨rfl,rfl⟩)|(go_at_call 56;have m2:True:=m1;clear m1;refine (c2 _).mono ?_;rintro e w' ⟨rfl,rfl⟩)|(go_at_call 56;have m3:True:=m2;clear m2;refine (c3 _).mono ?_;rintro e w' ⟨rfl,rfl⟩)|(go_at_call 56;have m4:True:=m3;clear m3;refine (c4 _).mono ?_;rintro e w' ⟨rfl,rfl⟩)|(go_at_call 56;have m5:True:=m4;clear m4;refine (c5 _).mono ?_;rintro e w' ⟨rfl,rfl⟩)|(go_at_call 56;have m6:True:=m5;clear m5;refine (c6 _).mono ?_;rintro e w' ⟨rfl,rfl⟩)|(go_at_call 56;have m7:True:=m6;clear m6;refine (c7 _).mono ?_;rintro e w' ⟨rfl,rfl⟩)|(go_at_call 84;refine cL.mono ?_;rintro e w' ⟨rfl,rfl⟩))
        refine wp_loop_rounds 3 ?_
        rw [rounds_succ]
        go_wp2_with (first|(go_at_call 56;have m1:True:=m0;clear m0;refine (c1 _).mono ?_;rintro e w' ⟨rfl,rfl⟩)|(go_at_call 56;have m2:True:=m1;clear m1;refine (c2 _).mono ?_;rintro e w' ⟨rfl,rfl⟩)|(go_at_call 56;have m3:True:=m2;clear m2;refine (c3 _).mono ?_;rintro e w' ⟨rfl,rfl⟩)|(go_at_call 56;have m4:True:=m3;clear m3;refine (c4 _).mono ?_;rintro e w' ⟨rfl,rfl⟩)|(go_at_call 56;have m5:True:=m4;clear m4;refine (c5 _).mono ?_;rintro e w' ⟨rfl,rfl⟩)|(go_at_call 56;have m6:True:=m5;clear m5;refine (c6 _).mono ?_;rintro e w' ⟨rfl,rfl⟩)|(go_at_call 56;have m7:True:=m6;clear m6;refine (c7 _).mono ?_;rintro e w' ⟨rfl,rfl⟩)|(go_at_call 84;refine cL.mono ?_;rintro e w' ⟨rfl,rfl⟩))
        rw [rounds_succ]
        go_wp2_with (first|(go_at_call 56;have m1:True:=m0;clear m0;refine (c1 _).mono ?_;rintro e w' ⟨rfl,rfl⟩)|(go_at_call 56;have m2:True:=m1;clear m1;refine (c2 _).mono ?_;rintro e w' ⟨rfl,rfl⟩)|(go_at_call 56;have m3:True:=m2;clear m2;refine (c3 _).mono ?_;rintro e w' ⟨rfl,rfl⟩)|(go_at_call 56;have m4:True:=m3;clear m3;refine (c4 _).mono ?_;rintro e w' ⟨rfl,rfl⟩)|(go_at_call 56;have m5:True:=m4;clear m4;refine (c5 _).mono ?_;rintro e w' ⟨rfl,rfl⟩)|(go_at_call 56;have m6:True:=m5;clear m5;refine (c6 _).mono ?_;rintro e w' ⟨rfl,rfl⟩)|(go_at_call 56;have m7:True:=m6;clear m6;refine (c7 _).mono ?_;rintro e w' ⟨rfl,rfl⟩)|(go_at_call 84;refine cL.mono ?_;rintro e w' ⟨rfl,rfl⟩))
        rw [rounds_succ]
        go_wp2_with (first|(go_at_call 56;have m1:True:=m0;clear m0;refine (c1 _).mono ?_;rintro e w' ⟨rfl,rfl⟩)|(go_at_call 56;have m2:True:=m1;clear m1;refine (c2 _).mono ?_;rintro e w' ⟨rfl,rfl⟩)|(go_at_call 56;have m3:True:=m2;clear m2;refine (c3 _).mono ?_;rintro e w' ⟨rfl,rfl⟩)|(go_at_call 56;have m4:True:=m3;clear m3;refine (c4 _).mono ?_;rintro e w' ⟨rfl,rfl⟩)|(go_at_call 56;have m5:True:=m4;clear m4;refine (c5 _).mono ?_;rintro e w' ⟨rfl,rfl⟩)|(go_at_call 56;have m6:True:=m5;clear m5;refine (c6 _).mono ?_;rintro e w' ⟨rfl,rfl⟩)|(go_at_call 56;have m7:True:=m6;clear m6;refine (c7 _).mono ?_;rintro e w' ⟨rfl,rfl⟩)|(go_at_call 84;refine cL.mono ?_;rintro e w' ⟨rfl,rfl⟩))
        go_ret
        exact ⟨rfl,b1⟩
       ·rcases x7 with _|_
        ·obtain rfl:r=false:=by simpa using HR.out
         clear HR
         go_enter Tryz.func69,Tryz.ntmps69
         go_upto_region 1 with fail
         try rw [hW1]
         clear hW1
         obtain ⟨q0,q1,q2,q3,q4,q5,q6,q7,q8,q9,q10,q11,q12,q13,q14⟩:=p1.cells
         go_wp2_with (first|(go_at_call 56;have m1:True:=m0;clear m0;refine (c1 _).mono ?_;rintro e w' ⟨rfl,rfl⟩)|(go_at_call 56;have m2:True:=m1;clear m1;refine (c2 _).mono ?_;rintro e w' ⟨rfl,rfl⟩)|(go_at_call 56;have m3:True:=m2;clear m2;refine (c3 _).mono ?_;rintro e w' ⟨rfl,rfl⟩)|(go_at_call 56;have m4:True:=m3;clear m3;refine (c4 _).mono ?_;rintro e w' ⟨rfl,rfl⟩)|(go_at_call 56;have m5:True:=m4;clear m4;refine (c5 _).mono ?_;rintro e w' ⟨rfl,rfl⟩)|(go_at_call 56;have m6:True:=m5;clear m5;refine (c6 _).mono ?_;rintro e w' ⟨rfl,rfl⟩)|(go_at_call 56;have m7:True:=m6;clear m6;refine (c7 _).mono ?_;rintro e w' ⟨rfl,rfl⟩)|(go_at_call 84;refine cL.mono ?_;rintro e w' ⟨rfl,rfl⟩))
         refine wp_loop_rounds 3 ?_
         rw [rounds_succ]
         go_wp2_with (first|(go_at_call 56;have m1:True:=m0;clear m0;refine (c1 _).mono ?_;rintro e w' ⟨rfl,rfl⟩)|(go_at_call 56;have m2:True:=m1;clear m1;refine (c2 _).mono ?_;rintro e w' ⟨rfl,rfl⟩)|(go_at_call 56;have m3:True:=m2;clear m2;refine (c3 _).mono ?_;rintro e w' ⟨rfl,rfl⟩)|(go_at_call 56;have m4:True:=m3;clear m3;refine (c4 _).mono ?_;rintro e w' ⟨rfl,rfl⟩)|(go_at_call 56;have m5:True:=m4;clear m4;refine (c5 _).mono ?_;rintro e w' ⟨rfl,rfl⟩)|(go_at_call 56;have m6:True:=m5;clear m5;refine (c6 _).mono ?_;rintro e w' ⟨rfl,rfl⟩)|(go_at_call 56;have m7:True:=m6;clear m6;refine (c7 _).mono ?_;rintro e w' ⟨rfl,rfl⟩)|(go_at_call 84;refine cL.mono ?_;rintro e w' ⟨rfl,rfl⟩))
         rw [rounds_succ]
         go_wp2_with (first|(go_at_call 56;have m1:True:=m0;clear m0;refine (c1 _).mono ?_;rintro e w' ⟨rfl,rfl⟩)|(go_at_call 56;have m2:True:=m1;clear m1;refine (c2 _).mono ?_;rintro e w' ⟨rfl,rfl⟩)|(go_at_call 56;have m3:True:=m2;clear m2;refine (c3 _).mono ?_;rintro e w' ⟨rfl,rfl⟩)|(go_at_call 56;have m4:True:=m3;clear m3;refine (c4 _).mono ?_;rintro e w' ⟨rfl,rfl⟩)|(go_at_call 56;have m5:True:=m4;clear m4;refine (c5 _).mono ?_;rintro e w' ⟨rfl,rfl⟩)|(go_at_call 56;have m6:True:=m5;clear m5;refine (c6 _).mono ?_;rintro e w' ⟨rfl,rfl⟩)|(go_at_call 56;have m7:True:=m6;clear m6;refine (c7 _).mono ?_;rintro e w' ⟨rfl,rfl⟩)|(go_at_call 84;refine cL.mono ?_;rintro e w' ⟨rfl,rfl⟩))
         rw [rounds_succ]
         go_wp2_with (first|(go_at_call 56;have m1:True:=m0;clear m0;refine (c1 _).mono ?_;rintro e w' ⟨rfl,rfl⟩)|(go_at_call 56;have m2:True:=m1;clear m1;refine (c2 _).mono ?_;rintro e w' ⟨rfl,rfl⟩)|(go_at_call 56;have m3:True:=m2;clear m2;refine (c3 _).mono ?_;rintro e w' ⟨rfl,rfl⟩)|(go_at_call 56;have m4:True:=m3;clear m3;refine (c4 _).mono ?_;rintro e w' ⟨rfl,rfl⟩)|(go_at_call 56;have m5:True:=m4;clear m4;refine (c5 _).mono ?_;rintro e w' ⟨rfl,rfl⟩)|(go_at_call 56;have m6:True:=m5;clear m5;refine (c6 _).mono ?_;rintro e w' ⟨rfl,rfl⟩)|(go_at_call 56;have m7:True:=m6;clear m6;refine (c7 _).mono ?_;rintro e w' ⟨rfl,rfl⟩)|(go_at_call 84;refine cL.mono ?_;rintro e w' ⟨rfl,rfl⟩))
         go_ret
         exact ⟨rfl,b1⟩
        ·obtain rfl:r=true:=by simpa using HR.out
         clear HR
         go_enter Tryz.func69,Tryz.ntmps69
         go_upto_region 1 with fail
         try rw [hW1]
         clear hW1
         obtain ⟨q0,q1,q2,q3,q4,q5,q6,q7,q8,q9,q10,q11,q12,q13,q14⟩:=p1.cells
         go_wp2_with (first|(go_at_call 56;have m1:True:=m0;clear m0;refine (c1 _).mono ?_;rintro e w' ⟨rfl,rfl⟩)|(go_at_call 56;have m2:True:=m1;clear m1;refine (c2 _).mono ?_;rintro e w' ⟨rfl,rfl⟩)|(go_at_call 56;have m3:True:=m2;clear m2;refine (c3 _).mono ?_;rintro e w' ⟨rfl,rfl⟩)|(go_at_call 56;have m4:True:=m3;clear m3;refine (c4 _).mono ?_;rintro e w' ⟨rfl,rfl⟩)|(go_at_call 56;have m5:True:=m4;clear m4;refine (c5 _).mono ?_;rintro e w' ⟨rfl,rfl⟩)|(go_at_call 56;have m6:True:=m5;clear m5;refine (c6 _).mono ?_;rintro e w' ⟨rfl,rfl⟩)|(go_at_call 56;have m7:True:=m6;clear m6;refine (c7 _).mono ?_;rintro e w' ⟨rfl,rfl⟩)|(go_at_call 84;refine cL.mono ?_;rintro e w' ⟨rfl,rfl⟩))
         refine wp_loop_rounds 3 ?_
         rw [rounds_succ]
         go_wp2_with (first|(go_at_call 56;have m1:True:=m0;clear m0;refine (c1 _).mono ?_;rintro e w' ⟨rfl,rfl⟩)|(go_at_call 56;have m2:True:=m1;clear m1;refine (c2 _).mono ?_;rintro e w' ⟨rfl,rfl⟩)|(go_at_call 56;have m3:True:=m2;clear m2;refine (c3 _).mono ?_;rintro e w' ⟨rfl,rfl⟩)|(go_at_call 56;have m4:True:=m3;clear m3;refine (c4 _).mono ?_;rintro e w' ⟨rfl,rfl⟩)|(go_at_call 56;have m5:True:=m4;clear m4;refine (c5 _).mono ?_;rintro e w' ⟨rfl,rfl⟩)|(go_at_call 56;have m6:True:=m5;clear m5;refine (c6 _).mono ?_;rintro e w' ⟨rfl,rfl⟩)|(go_at_call 56;have m7:True:=m6;clear m6;refine (c7 _).mono ?_;rintro e w' ⟨rfl,rfl⟩)|(go_at_call 84;refine cL.mono ?_;rintro e w' ⟨rfl,rfl⟩))
         rw [rounds_succ]
         go_wp2_with (first|(go_at_call 56;have m1:True:=m0;clear m0;refine (c1 _).mono ?_;rintro e w' ⟨rfl,rfl⟩)|(go_at_call 56;have m2:True:=m1;clear m1;refine (c2 _).mono ?_;rintro e w' ⟨rfl,rfl⟩)|(go_at_call 56;have m3:True:=m2;clear m2;refine (c3 _).mono ?_;rintro e w' ⟨rfl,rfl⟩)|(go_at_call 56;have m4:True:=m3;clear m3;refine (c4 _).mono ?_;rintro e w' ⟨rfl,rfl⟩)|(go_at_call 56;have m5:True:=m4;clear m4;refine (c5 _).mono ?_;rintro e w' ⟨rfl,rfl⟩)|(go_at_call 56;have m6:True:=m5;clear m5;refine (c6 _).mono ?_;rintro e w' ⟨rfl,rfl⟩)|(go_at_call 56;have m7:True:=m6;clear m6;refine (c7 _).mono ?_;rintro e w' ⟨rfl,rfl⟩)|(go_at_call 84;refine cL.mono ?_;rintro e w' ⟨rfl,rfl⟩))
         rw [rounds_succ]
         go_wp2_with (first|(go_at_call 56;have m1:True:=m0;clear m0;refine (c1 _).mono ?_;rintro e w' ⟨rfl,rfl⟩)|(go_at_call 56;have m2:True:=m1;clear m1;refine (c2 _).mono ?_;rintro e w' ⟨rfl,rfl⟩)|(go_at_call 56;have m3:True:=m2;clear m2;refine (c3 _).mono ?_;rintro e w' ⟨rfl,rfl⟩)|(go_at_call 56;have m4:True:=m3;clear m3;refine (c4 _).mono ?_;rintro e w' ⟨rfl,rfl⟩)|(go_at_call 56;have m5:True:=m4;clear m4;refine (c5 _).mono ?_;rintro e w' ⟨rfl,rfl⟩)|(go_at_call 56;have m6:True:=m5;clear m5;refine (c6 _).mono ?_;rintro e w' ⟨rfl,rfl⟩)|(go_at_call 56;have m7:True:=m6;clear m6;refine (c7 _).mono ?_;rintro e w' ⟨rfl,rfl⟩)|(go_at_call 84;refine cL.mono ?_;rintro e w' ⟨rfl,rfl⟩))
         go_ret
         exact ⟨rfl,b1⟩
set_option maxHeartbeats 16000000 in
theorem check_any (f:Fl) (w:World) (hL:Lives w) :
  Calls Tryz.prog 39 #[flV f] w fun e w'=>e = .returned (errV (chkE f))∧Below w.heap.size w w':=by
 have b1:Below w.heap.size w (w.alloc (.cells #[.int .i64 f.key.kind,.int .i64 f.key.src,.int .i64 f.key.frm,.int .i64 f.key.dst,.int .i64 f.key.too,.int .i64 f.st,.int .i64 f.unt,.int .i64 f.stp,.int .i64 f.h0,.int .i64 f.h1,.int .i64 f.w0,.int .i64 f.w1,.bool f.d0,.bool f.d1,.int .i64 f.num] 45)):=(Below.refl _ _).alloc (Nat.le_refl _) _
 have p1:=FlAt.new w f
 obtain ⟨W1,hW1⟩:∃ W1,w.alloc (.cells #[.int .i64 f.key.kind,.int .i64 f.key.src,.int .i64 f.key.frm,.int .i64 f.key.dst,.int .i64 f.key.too,.int .i64 f.st,.int .i64 f.unt,.int .i64 f.stp,.int .i64 f.h0,.int .i64 f.h1,.int .i64 f.w0,.int .i64 f.w1,.bool f.d0,.bool f.d1,.int .i64 f.num] 45)=W1:=⟨_,rfl⟩
 rw [hW1] at b1 p1
 have hK:=isKey_any f.key W1
 obtain ⟨r,HR⟩:∃ r,Hid (r=errV (chkE f)):=⟨_,rfl⟩
 rw [← HR.out]
 have HL:=hidE hL
 have hn1:=Tryz.ar2Neq f.h0 f.h1 0 0
 have hn2:=Tryz.ar2Neq f.w0 f.w1 0 0
 have hn3:=Tryz.ab2Neq f.d0 f.d1 false false
 have hg1:=Tryz.ar2Guard
 have hg2:=Tryz.ab2Guard
 have EB:bareB f=((f.h0 == 0 && f.h1 == 0) && (f.w0 == 0 && f.w1 == 0) && (f.d0 == false && f.d1 == false)):=by
  unfold bareB
  rw [Bool.eq_iff_iff];simp [and_assoc]
 unfold chkE at HR
 rw [EB] at HR
 generalize (f.h0 == 0 && f.h1 == 0)=y1 at hn1 HR
 generalize (f.w0 == 0 && f.w1 == 0)=y2 at hn2 HR
 generalize (f.d0 == false && f.d1 == false)=y3 at hn3 HR
 generalize hx1:kyB f.key=x1 at hK HR
 generalize hx2:fiB f=x2 at HR
 have HX2:=hidE hx2
 unfold flV keyV at *
 clear hL hx1 hx2 EB
 rcases x1 with _|_
 ·obtain rfl:r = .iface 71 (.int .i64 1):=by rw [HR.out,if_pos (by simp)];rfl
  clear HR
  go_enter Tryz.func39,Tryz.ntmps39
  go_upto_region 1 with fail
  try rw [hW1]
  clear hW1
  obtain ⟨q0,q1,q2,q3,q4,q5,q6,q7,q8,q9,q10,q11,q12,q13,q14⟩:=p1.cells
  go_wp2_with (go_at_call 68;refine hK.mono ?_;rintro e w2 ⟨rfl,b2⟩)
  go_ret
  exact ⟨rfl,b1.trans (b2.mono b1.size)⟩
 have hF:=fun (W:World) (hb:Below w.heap.size w W)=>fits_flow f W (HL.out.below hb)
 rw [HX2.out] at hF
 unfold flV at hF
 rcases x2 with _|_
 ·obtain rfl:r = .iface 71 (.int .i64 1):=by rw [HR.out,if_pos (by simp)];rfl
  clear HR
  go_enter Tryz.func39,Tryz.ntmps39
  go_upto_region 1 with fail
  try rw [hW1]
  clear hW1
  obtain ⟨q0,q1,q2,q3,q4,q5,q6,q7,q8,q9,q10,q11,q12,q13,q14⟩:=p1.cells
  go_wp2_with (first
   | (go_at_call 68;refine hK.mono ?_;rintro e w2 ⟨rfl,b2⟩;have p2:=p1.below p1.lt b2;have b2:=b1.trans (b2.mono b1.size);obtain ⟨q0,q1,q2,q3,q4,q5,q6,q7,q8,q9,q10,q11,q12,q13,q14⟩:=p2.cells)
   | (go_at_call 69;refine (hF _ b2).mono ?_;rintro e w3 ⟨rfl,b3⟩;have b3:=b2.trans (b3.mono b2.size)))
  go_ret
  exact ⟨rfl,b3⟩
 have HR:Hid (r=errV (if ¬ f.key.kind=1∧(y1 && y2 && y3)=false then 3 else if f.key.kind=3∧¬ f.key.frm=f.key.too then 3 else 0)):=by
  show r=_
  rw [HR.out,if_neg (by decide)]
 go_enter Tryz.func39,Tryz.ntmps39
 go_upto_region 1 with fail
 try rw [hW1]
 clear hW1
 obtain ⟨q0,q1,q2,q3,q4,q5,q6,q7,q8,q9,q10,q11,q12,q13,q14⟩:=p1.cells
 go_upto_region 3 with (first
  | (go_at_call 68;refine hK.mono ?_;rintro e w2 ⟨rfl,b2⟩;have p2:=p1.below p1.lt b2;have b2:=b1.trans (b2.mono b1.size);obtain ⟨q0,q1,q2,q3,q4,q5,q6,q7,q8,q9,q10,q11,q12,q13,q14⟩:=p2.cells)
  | (go_at_call 69;refine (hF _ b2).mono ?_;rintro e w3 ⟨rfl,b3⟩;have p3:=p2.below p2.lt b3;have b3:=b2.trans (b3.mono b2.size)))
 have B3:=hidE b3
 clear hK hF b1 b2 p1 p2 q0 q1 q2 q3 q4 q5 q6 q7 q8 q9 q10 q11 q12 q13 q14 b3 HL HX2
 obtain ⟨q0,q1,q2,q3,q4,q5,q6,q7,q8,q9,q10,q11,q12,q13,q14⟩:=p3.cells
 by_cases k1:f.key.kind=1
 ·obtain rfl:r = .nilIface:=by rw [HR.out,if_neg (fun h=>h.1 k1),if_neg (fun h=>by omega)];rfl
  have e1:(f.key.kind != 1)=false:=by simp [k1]
  have e2:(f.key.kind == 3)=false:=by simp [k1]
  clear k1 HR
  go_wp2_with fail
  go_ret
  exact ⟨rfl,B3.out⟩
 have e1:(f.key.kind != 1)=true:=by simpa using k1
 rcases y1 with _|_
 ·obtain rfl:r = .iface 71 (.int .i64 3):=by rw [HR.out,if_pos ⟨k1,by simp⟩];rfl
  clear k1 HR
  go_wp2_with fail
  go_ret
  exact ⟨rfl,B3.out⟩
 rcases y2 with _|_
 ·obtain rfl:r = .iface 71 (.int .i64 3):=by rw [HR.out,if_pos ⟨k1,by simp⟩];rfl
  clear k1 HR
  go_wp2_with fail
  go_ret
  exact ⟨rfl,B3.out⟩
 rcases y3 with _|_
 ·obtain rfl:r = .iface 71 (.int .i64 3):=by rw [HR.out,if_pos ⟨k1,by simp⟩];rfl
  clear k1 HR
  go_wp2_with fail
  go_ret
  exact ⟨rfl,B3.out⟩
 by_cases k3:f.key.kind=3
 ·have e3:(f.key.kind == 3)=true:=by simpa using k3
  by_cases hp:f.key.frm=f.key.too
  ·obtain rfl:r = .nilIface:=by rw [HR.out,if_neg (fun h=>by simp at h),if_neg (fun h=>h.2 hp)];rfl
   have e4:(f.key.frm != f.key.too)=false:=by simp [hp]
   clear k1 k3 hp HR
   go_wp2_with fail
   go_ret
   exact ⟨rfl,B3.out⟩
  ·obtain rfl:r = .iface 71 (.int .i64 3):=by rw [HR.out,if_neg (fun h=>by simp at h),if_pos ⟨k3,hp⟩];rfl
   have e4:(f.key.frm != f.key.too)=true:=by simpa using hp
   clear k1 k3 hp HR
   go_wp2_with fail
   go_ret
   exact ⟨rfl,B3.out⟩
 ·have e3:(f.key.kind == 3)=false:=by simpa using k3
  obtain rfl:r = .nilIface:=by rw [HR.out,if_neg (fun h=>by simp at h),if_neg (fun h=>k3 h.1)];rfl
  clear k1 k3 HR
  go_wp2_with fail
  go_ret
  exact ⟨rfl,B3.out⟩
end Go.Proofs.YtkhheooofcpfdaaGreatDoor
