/- What the reference's Word, Size and Segment return (package portref1): the fault of a segment, for every kind, segment, source and destination. -/
import Derived.Test.YtkhheooofcpfdaaGreatDoorMgG
import Derived.Test.YtkhheooofcpfdaaGreatDoorMgD
namespace Go.Proofs.YtkhheooofcpfdaaGreatDoor
open Go.RowKit
set_option linter.unusedVariables false
theorem refWord_any (n:Int) (w:World) :
  Calls Tryz.prog 67 #[.int .i64 n] w fun e w'=>e = .returned (.bool (upB n 65535))∧w'=w:=by
 by_cases h0:0≤n
 ·by_cases h1:n≤65535
  ·rw [upB_yes h0 h1]
   go_enter Tryz.func67,Tryz.ntmps67
   go_wp2
   go_ret
   exact ⟨rfl,rfl⟩
  ·rw [show upB n 65535=false by simp [upB];omega]
   go_enter Tryz.func67,Tryz.ntmps67
   go_wp2
   go_ret
   exact ⟨rfl,rfl⟩
 ·rw [show upB n 65535=false by simp [upB];omega]
  go_enter Tryz.func67,Tryz.ntmps67
  go_wp2
  go_ret
  exact ⟨rfl,rfl⟩
theorem refAddr_up (n:Int) (w:World) :
  Calls Tryz.prog 66 #[.int .i64 n] w fun e w'=>e = .returned (.bool (upB n 4294967295))∧w'=w:=refAddr_any n w
theorem size1 (w:World):Calls Tryz.prog 78 #[.int .i64 1] w fun e w'=>e = .returned (.int .i64 17)∧w'=w:=by
 go_enter Tryz.func78,Tryz.ntmps78
 go_wp2
 go_ret
 exact ⟨rfl,rfl⟩
theorem size2 (w:World):Calls Tryz.prog 78 #[.int .i64 2] w fun e w'=>e = .returned (.int .i64 6)∧w'=w:=by
 go_enter Tryz.func78,Tryz.ntmps78
 go_wp2
 go_ret
 exact ⟨rfl,rfl⟩
theorem size3 (w:World):Calls Tryz.prog 78 #[.int .i64 3] w fun e w'=>e = .returned (.int .i64 8)∧w'=w:=by
 go_enter Tryz.func78,Tryz.ntmps78
 go_wp2
 go_ret
 exact ⟨rfl,rfl⟩
theorem upB_no {n m:Int} (h:upB n m=false):¬ (0≤n∧n≤m):=by simpa [upB] using h
theorem frm_no {k n:Int} (h:upB n 65535=false):frmB k n=false:=by
 have:=upB_no h
 unfold frmB
 split
 ·simp [upB];omega
 ·exact h
theorem seq_no {k n:Int} (h:upB n 4294967295=false):upB n (seqM k)=false:=by
 have:=upB_no h
 have:=(seqM_le k).1
 simp [upB];omega
set_option maxRecDepth 100000 in
set_option maxHeartbeats 20000000 in
theorem refSegment_raw (k f t q a n g src dst:Int) (ad:Option Addr) (l c:Nat) (w:World) (hl:l < 2 ^ 62) :
  Calls Tryz.prog 49 #[.int .i64 k,.agg #[.int .i64 f,.int .i64 t,.int .i64 q,.int .i64 a,.int .i64 n,.int .i64 g,.slice ad l c],.int .i64 src,.int .i64 dst] w fun e w' =>
   e = .returned (.int .i64 (if (isK k && upB src 4294967295 && upB dst 4294967295 && fitB k { frm:=f,too:=t,seq:=q,ack:=a,win:=n,flg:=g,body:=[] })=false then 1 else if lackB k { frm:=f,too:=t,seq:=q,ack:=a,win:=n,flg:=g,body:=[] }=true then 3 else if 4000 < l+hdN k then 4 else 0))∧Below w.heap.size w w':=by
 have b1:Below w.heap.size w (w.alloc (.cells #[.int .i64 f,.int .i64 t,.int .i64 q,.int .i64 a,.int .i64 n,.int .i64 g,.slice ad l c] 41)):=(Below.refl _ _).alloc (Nat.le_refl _) _
 have HB:Hid _:=b1
 clear b1
 obtain ⟨e0,HE⟩:∃ e0:Int,Hid (e0=if (isK k && upB src 4294967295 && upB dst 4294967295 && fitB k { frm:=f,too:=t,seq:=q,ack:=a,win:=n,flg:=g,body:=[] })=false then 1 else if lackB k { frm:=f,too:=t,seq:=q,ack:=a,win:=n,flg:=g,body:=[] }=true then 3 else if 4000 < l+hdN k then 4 else 0):=⟨_,rfl⟩
 rw [← HE.out]
 by_cases x0:k < 1
 ·as_aux_lemma =>
   have E1:Hid ((1:Int)=e0):=by show (1:Int)=e0;rw [HE.out,if_pos (show _=false from by rw [show isK k=false by simp [isK];omega];simp)]
   clear HE
   go_enter Tryz.func49,Tryz.ntmps49
   go_wp2_with (first
    | (go_at_call 66;refine (refAddr_up _ _).mono ?_;rintro e w' ⟨rfl,rfl⟩)
    | (go_at_call 67;refine (refWord_any _ _).mono ?_;rintro e w' ⟨rfl,rfl⟩))
   go_ret
   exact ⟨ret_int E1.out,HB.out⟩
 by_cases x1:3 < k
 ·as_aux_lemma =>
   have E1:Hid ((1:Int)=e0):=by show (1:Int)=e0;rw [HE.out,if_pos (show _=false from by rw [show isK k=false by simp [isK];omega];simp)]
   clear HE
   go_enter Tryz.func49,Tryz.ntmps49
   go_wp2_with (first
    | (go_at_call 66;refine (refAddr_up _ _).mono ?_;rintro e w' ⟨rfl,rfl⟩)
    | (go_at_call 67;refine (refWord_any _ _).mono ?_;rintro e w' ⟨rfl,rfl⟩))
   go_ret
   exact ⟨ret_int E1.out,HB.out⟩
 rcases xa:upB src 4294967295 with _|_
 ·as_aux_lemma =>
   have E1:Hid ((1:Int)=e0):=by show (1:Int)=e0;rw [HE.out,if_pos (show _=false from by simp [xa])]
   clear HE
   go_enter Tryz.func49,Tryz.ntmps49
   go_wp2_with (first
    | (go_at_call 66;refine (refAddr_up _ _).mono ?_;rintro e w' ⟨rfl,rfl⟩)
    | (go_at_call 67;refine (refWord_any _ _).mono ?_;rintro e w' ⟨rfl,rfl⟩))
   go_ret
   exact ⟨ret_int E1.out,HB.out⟩
 rcases xb:upB dst 4294967295 with _|_
 ·as_aux_lemma =>
   have E1:Hid ((1:Int)=e0):=by show (1:Int)=e0;rw [HE.out,if_pos (show _=false from by simp [xb])]
   clear HE
   go_enter Tryz.func49,Tryz.ntmps49
   go_wp2_with (first
    | (go_at_call 66;refine (refAddr_up _ _).mono ?_;rintro e w' ⟨rfl,rfl⟩)
    | (go_at_call 67;refine (refWord_any _ _).mono ?_;rintro e w' ⟨rfl,rfl⟩))
   go_ret
   exact ⟨ret_int E1.out,HB.out⟩
 rcases xc:upB f 65535 with _|_
 ·as_aux_lemma =>
   have E1:Hid ((1:Int)=e0):=by show (1:Int)=e0;rw [HE.out,if_pos (show _=false from by simp [fitB,frm_no xc])]
   clear HE
   go_enter Tryz.func49,Tryz.ntmps49
   go_wp2_with (first
    | (go_at_call 66;refine (refAddr_up _ _).mono ?_;rintro e w' ⟨rfl,rfl⟩)
    | (go_at_call 67;refine (refWord_any _ _).mono ?_;rintro e w' ⟨rfl,rfl⟩))
   go_ret
   exact ⟨ret_int E1.out,HB.out⟩
 rcases xd:upB t 65535 with _|_
 ·as_aux_lemma =>
   have E1:Hid ((1:Int)=e0):=by show (1:Int)=e0;rw [HE.out,if_pos (show _=false from by simp [fitB,xd])]
   clear HE
   go_enter Tryz.func49,Tryz.ntmps49
   go_wp2_with (first
    | (go_at_call 66;refine (refAddr_up _ _).mono ?_;rintro e w' ⟨rfl,rfl⟩)
    | (go_at_call 67;refine (refWord_any _ _).mono ?_;rintro e w' ⟨rfl,rfl⟩))
   go_ret
   exact ⟨ret_int E1.out,HB.out⟩
 rcases xe:upB n 65535 with _|_
 ·as_aux_lemma =>
   have E1:Hid ((1:Int)=e0):=by show (1:Int)=e0;rw [HE.out,if_pos (show _=false from by simp [fitB,xe])]
   clear HE
   go_enter Tryz.func49,Tryz.ntmps49
   go_wp2_with (first
    | (go_at_call 66;refine (refAddr_up _ _).mono ?_;rintro e w' ⟨rfl,rfl⟩)
    | (go_at_call 67;refine (refWord_any _ _).mono ?_;rintro e w' ⟨rfl,rfl⟩))
   go_ret
   exact ⟨ret_int E1.out,HB.out⟩
 rcases xf:upB q 4294967295 with _|_
 ·as_aux_lemma =>
   have E1:Hid ((1:Int)=e0):=by show (1:Int)=e0;rw [HE.out,if_pos (show _=false from by simp [fitB,seq_no xf])]
   clear HE
   go_enter Tryz.func49,Tryz.ntmps49
   go_wp2_with (first
    | (go_at_call 66;refine (refAddr_up _ _).mono ?_;rintro e w' ⟨rfl,rfl⟩)
    | (go_at_call 67;refine (refWord_any _ _).mono ?_;rintro e w' ⟨rfl,rfl⟩))
   go_ret
   exact ⟨ret_int E1.out,HB.out⟩
 rcases xg:upB a 4294967295 with _|_
 ·as_aux_lemma =>
   have E1:Hid ((1:Int)=e0):=by show (1:Int)=e0;rw [HE.out,if_pos (show _=false from by simp [fitB,xg])]
   clear HE
   go_enter Tryz.func49,Tryz.ntmps49
   go_wp2_with (first
    | (go_at_call 66;refine (refAddr_up _ _).mono ?_;rintro e w' ⟨rfl,rfl⟩)
    | (go_at_call 67;refine (refWord_any _ _).mono ?_;rintro e w' ⟨rfl,rfl⟩))
   go_ret
   exact ⟨ret_int E1.out,HB.out⟩
 by_cases x2:g < 0
 ·as_aux_lemma =>
   have E1:Hid ((1:Int)=e0):=by show (1:Int)=e0;rw [HE.out,if_pos (show _=false from by simp [fitB,show upB g 15=false by simp [upB];omega])]
   clear HE
   go_enter Tryz.func49,Tryz.ntmps49
   go_wp2_with (first
    | (go_at_call 66;refine (refAddr_up _ _).mono ?_;rintro e w' ⟨rfl,rfl⟩)
    | (go_at_call 67;refine (refWord_any _ _).mono ?_;rintro e w' ⟨rfl,rfl⟩))
   go_ret
   exact ⟨ret_int E1.out,HB.out⟩
 by_cases x3:15 < g
 ·as_aux_lemma =>
   have E1:Hid ((1:Int)=e0):=by show (1:Int)=e0;rw [HE.out,if_pos (show _=false from by simp [fitB,show upB g 15=false by simp [upB];omega])]
   clear HE
   go_enter Tryz.func49,Tryz.ntmps49
   go_wp2_with (first
    | (go_at_call 66;refine (refAddr_up _ _).mono ?_;rintro e w' ⟨rfl,rfl⟩)
    | (go_at_call 67;refine (refWord_any _ _).mono ?_;rintro e w' ⟨rfl,rfl⟩))
   go_ret
   exact ⟨ret_int E1.out,HB.out⟩
 have hk3:k=1∨k=2∨k=3:=by omega
 have xh:upB g 15=true:=upB_yes (by omega) (by omega)
 rcases hk3 with rfl|rfl|rfl
 ·have hfit:(isK 1 && upB src 4294967295 && upB dst 4294967295 && fitB 1 { frm:=f,too:=t,seq:=q,ack:=a,win:=n,flg:=g,body:=[] })=true:=by simp [isK,xa,xb,fitB,frmB,seqM,xc,xd,xe,xf,xg,xh]
  by_cases h4:4000 < l+17
  ·as_aux_lemma =>
    have E1:Hid ((4:Int)=e0):=by show (4:Int)=e0;rw [HE.out,hfit,if_neg (by simp),show lackB 1 { frm:=f,too:=t,seq:=q,ack:=a,win:=n,flg:=g,body:=[] }=false by simp [lackB],if_neg (by simp),show hdN 1=17 from rfl,if_pos h4]
    clear HE hfit
    go_enter Tryz.func49,Tryz.ntmps49
    go_upto_region 13 with (first
     | (go_at_call 66;refine (refAddr_up _ _).mono ?_;rintro e w' ⟨rfl,rfl⟩)
     | (go_at_call 67;refine (refWord_any _ _).mono ?_;rintro e w' ⟨rfl,rfl⟩))
    go_quiet ((go_at_call 78;refine (size1 _).mono ?_;rintro e w' ⟨rfl,rfl⟩;exact ⟨rfl,_,rfl⟩))
    go_wp2
    go_ret
    exact ⟨ret_int E1.out,below_drewN HB.out _⟩
  ·as_aux_lemma =>
    have E1:Hid ((0:Int)=e0):=by show (0:Int)=e0;rw [HE.out,hfit,if_neg (by simp),show lackB 1 { frm:=f,too:=t,seq:=q,ack:=a,win:=n,flg:=g,body:=[] }=false by simp [lackB],if_neg (by simp),show hdN 1=17 from rfl,if_neg h4]
    clear HE hfit
    go_enter Tryz.func49,Tryz.ntmps49
    go_upto_region 13 with (first
     | (go_at_call 66;refine (refAddr_up _ _).mono ?_;rintro e w' ⟨rfl,rfl⟩)
     | (go_at_call 67;refine (refWord_any _ _).mono ?_;rintro e w' ⟨rfl,rfl⟩))
    go_quiet ((go_at_call 78;refine (size1 _).mono ?_;rintro e w' ⟨rfl,rfl⟩;exact ⟨rfl,_,rfl⟩))
    go_wp2
    go_ret
    exact ⟨ret_int E1.out,below_drewN HB.out _⟩
 ·have hfit:(isK 2 && upB src 4294967295 && upB dst 4294967295 && fitB 2 { frm:=f,too:=t,seq:=q,ack:=a,win:=n,flg:=g,body:=[] })=true:=by simp [isK,xa,xb,fitB,frmB,seqM,xc,xd,xe,xf,xg,xh]
  by_cases za:a=0
  rotate_left
  ·as_aux_lemma =>
    have E1:Hid ((3:Int)=e0):=by show (3:Int)=e0;rw [HE.out,hfit,if_neg (by simp),if_pos (show lackB 2 { frm:=f,too:=t,seq:=q,ack:=a,win:=n,flg:=g,body:=[] }=true by simp [lackB,za])]
    have ya:(a != 0)=true:=by simpa using za
    clear HE hfit za
    go_enter Tryz.func49,Tryz.ntmps49
    go_wp2_with (first
     | (go_at_call 66;refine (refAddr_up _ _).mono ?_;rintro e w' ⟨rfl,rfl⟩)
     | (go_at_call 67;refine (refWord_any _ _).mono ?_;rintro e w' ⟨rfl,rfl⟩))
    go_ret
    exact ⟨ret_int E1.out,HB.out⟩
  have ya:(a != 0)=false:=by simp [za]
  by_cases zn:n=0
  rotate_left
  ·as_aux_lemma =>
    have E1:Hid ((3:Int)=e0):=by show (3:Int)=e0;rw [HE.out,hfit,if_neg (by simp),if_pos (show lackB 2 { frm:=f,too:=t,seq:=q,ack:=a,win:=n,flg:=g,body:=[] }=true by simp [lackB,zn])]
    have yn:(n != 0)=true:=by simpa using zn
    clear HE hfit zn za
    go_enter Tryz.func49,Tryz.ntmps49
    go_wp2_with (first
     | (go_at_call 66;refine (refAddr_up _ _).mono ?_;rintro e w' ⟨rfl,rfl⟩)
     | (go_at_call 67;refine (refWord_any _ _).mono ?_;rintro e w' ⟨rfl,rfl⟩))
    go_ret
    exact ⟨ret_int E1.out,HB.out⟩
  have yn:(n != 0)=false:=by simp [zn]
  by_cases zg:g=0
  rotate_left
  ·as_aux_lemma =>
    have E1:Hid ((3:Int)=e0):=by show (3:Int)=e0;rw [HE.out,hfit,if_neg (by simp),if_pos (show lackB 2 { frm:=f,too:=t,seq:=q,ack:=a,win:=n,flg:=g,body:=[] }=true by simp [lackB,zg])]
    have yg:(g != 0)=true:=by simpa using zg
    clear HE hfit zg za zn
    go_enter Tryz.func49,Tryz.ntmps49
    go_wp2_with (first
     | (go_at_call 66;refine (refAddr_up _ _).mono ?_;rintro e w' ⟨rfl,rfl⟩)
     | (go_at_call 67;refine (refWord_any _ _).mono ?_;rintro e w' ⟨rfl,rfl⟩))
    go_ret
    exact ⟨ret_int E1.out,HB.out⟩
  have yg:(g != 0)=false:=by simp [zg]
  by_cases zq:q=0
  rotate_left
  ·as_aux_lemma =>
    have E1:Hid ((3:Int)=e0):=by show (3:Int)=e0;rw [HE.out,hfit,if_neg (by simp),if_pos (show lackB 2 { frm:=f,too:=t,seq:=q,ack:=a,win:=n,flg:=g,body:=[] }=true by simp [lackB,zq])]
    have yq:(q != 0)=true:=by simpa using zq
    clear HE hfit zq za zn zg
    go_enter Tryz.func49,Tryz.ntmps49
    go_wp2_with (first
     | (go_at_call 66;refine (refAddr_up _ _).mono ?_;rintro e w' ⟨rfl,rfl⟩)
     | (go_at_call 67;refine (refWord_any _ _).mono ?_;rintro e w' ⟨rfl,rfl⟩))
    go_ret
    exact ⟨ret_int E1.out,HB.out⟩
  have yq:(q != 0)=false:=by simp [zq]
  by_cases h4:4000 < l+6
  ·as_aux_lemma =>
    have E1:Hid ((4:Int)=e0):=by show (4:Int)=e0;rw [HE.out,hfit,if_neg (by simp),show lackB 2 { frm:=f,too:=t,seq:=q,ack:=a,win:=n,flg:=g,body:=[] }=false by simp [lackB,za,zn,zg,zq],if_neg (by simp),show hdN 2=6 from rfl,if_pos h4]
    clear HE hfit za zn zg zq
    go_enter Tryz.func49,Tryz.ntmps49
    go_upto_region 13 with (first
     | (go_at_call 66;refine (refAddr_up _ _).mono ?_;rintro e w' ⟨rfl,rfl⟩)
     | (go_at_call 67;refine (refWord_any _ _).mono ?_;rintro e w' ⟨rfl,rfl⟩))
    go_quiet ((go_at_call 78;refine (size2 _).mono ?_;rintro e w' ⟨rfl,rfl⟩;exact ⟨rfl,_,rfl⟩))
    go_wp2
    go_ret
    exact ⟨ret_int E1.out,below_drewN HB.out _⟩
  ·as_aux_lemma =>
    have E1:Hid ((0:Int)=e0):=by show (0:Int)=e0;rw [HE.out,hfit,if_neg (by simp),show lackB 2 { frm:=f,too:=t,seq:=q,ack:=a,win:=n,flg:=g,body:=[] }=false by simp [lackB,za,zn,zg,zq],if_neg (by simp),show hdN 2=6 from rfl,if_neg h4]
    clear HE hfit za zn zg zq
    go_enter Tryz.func49,Tryz.ntmps49
    go_upto_region 13 with (first
     | (go_at_call 66;refine (refAddr_up _ _).mono ?_;rintro e w' ⟨rfl,rfl⟩)
     | (go_at_call 67;refine (refWord_any _ _).mono ?_;rintro e w' ⟨rfl,rfl⟩))
    go_quiet ((go_at_call 78;refine (size2 _).mono ?_;rintro e w' ⟨rfl,rfl⟩;exact ⟨rfl,_,rfl⟩))
    go_wp2
    go_ret
    exact ⟨ret_int E1.out,below_drewN HB.out _⟩
 ·by_cases x4:1 < f
  ·as_aux_lemma =>
    have E1:Hid ((1:Int)=e0):=by show (1:Int)=e0;rw [HE.out,if_pos (show _=false from by simp [fitB,frmB,show upB f 1=false by simp [upB];omega])]
    clear HE
    go_enter Tryz.func49,Tryz.ntmps49
    go_wp2_with (first
     | (go_at_call 66;refine (refAddr_up _ _).mono ?_;rintro e w' ⟨rfl,rfl⟩)
     | (go_at_call 67;refine (refWord_any _ _).mono ?_;rintro e w' ⟨rfl,rfl⟩))
    go_ret
    exact ⟨ret_int E1.out,HB.out⟩
  rcases xi:upB q 65535 with _|_
  ·as_aux_lemma =>
    have E1:Hid ((1:Int)=e0):=by show (1:Int)=e0;rw [HE.out,if_pos (show _=false from by simp [fitB,seqM,xi])]
    clear HE
    go_enter Tryz.func49,Tryz.ntmps49
    go_wp2_with (first
     | (go_at_call 66;refine (refAddr_up _ _).mono ?_;rintro e w' ⟨rfl,rfl⟩)
     | (go_at_call 67;refine (refWord_any _ _).mono ?_;rintro e w' ⟨rfl,rfl⟩))
    go_ret
    exact ⟨ret_int E1.out,HB.out⟩
  have y1:upB f 1=true:=by have:=of_upB xc;exact upB_yes (by omega) (by omega)
  have y2:=xi
  have hfit:(isK 3 && upB src 4294967295 && upB dst 4294967295 && fitB 3 { frm:=f,too:=t,seq:=q,ack:=a,win:=n,flg:=g,body:=[] })=true:=by simp [isK,xa,xb,fitB,frmB,seqM,xd,xe,xg,xh,y1,y2]
  by_cases za:a=0
  rotate_left
  ·as_aux_lemma =>
    have E1:Hid ((3:Int)=e0):=by show (3:Int)=e0;rw [HE.out,hfit,if_neg (by simp),if_pos (show lackB 3 { frm:=f,too:=t,seq:=q,ack:=a,win:=n,flg:=g,body:=[] }=true by simp [lackB,za])]
    have ya:(a != 0)=true:=by simpa using za
    clear HE hfit za
    go_enter Tryz.func49,Tryz.ntmps49
    go_wp2_with (first
     | (go_at_call 66;refine (refAddr_up _ _).mono ?_;rintro e w' ⟨rfl,rfl⟩)
     | (go_at_call 67;refine (refWord_any _ _).mono ?_;rintro e w' ⟨rfl,rfl⟩))
    go_ret
    exact ⟨ret_int E1.out,HB.out⟩
  have ya:(a != 0)=false:=by simp [za]
  by_cases zn:n=0
  rotate_left
  ·as_aux_lemma =>
    have E1:Hid ((3:Int)=e0):=by show (3:Int)=e0;rw [HE.out,hfit,if_neg (by simp),if_pos (show lackB 3 { frm:=f,too:=t,seq:=q,ack:=a,win:=n,flg:=g,body:=[] }=true by simp [lackB,zn])]
    have yn:(n != 0)=true:=by simpa using zn
    clear HE hfit zn za
    go_enter Tryz.func49,Tryz.ntmps49
    go_wp2_with (first
     | (go_at_call 66;refine (refAddr_up _ _).mono ?_;rintro e w' ⟨rfl,rfl⟩)
     | (go_at_call 67;refine (refWord_any _ _).mono ?_;rintro e w' ⟨rfl,rfl⟩))
    go_ret
    exact ⟨ret_int E1.out,HB.out⟩
  have yn:(n != 0)=false:=by simp [zn]
  by_cases zg:g=0
  rotate_left
  ·as_aux_lemma =>
    have E1:Hid ((3:Int)=e0):=by show (3:Int)=e0;rw [HE.out,hfit,if_neg (by simp),if_pos (show lackB 3 { frm:=f,too:=t,seq:=q,ack:=a,win:=n,flg:=g,body:=[] }=true by simp [lackB,zg])]
    have yg:(g != 0)=true:=by simpa using zg
    clear HE hfit zg za zn
    go_enter Tryz.func49,Tryz.ntmps49
    go_wp2_with (first
     | (go_at_call 66;refine (refAddr_up _ _).mono ?_;rintro e w' ⟨rfl,rfl⟩)
     | (go_at_call 67;refine (refWord_any _ _).mono ?_;rintro e w' ⟨rfl,rfl⟩))
    go_ret
    exact ⟨ret_int E1.out,HB.out⟩
  have yg:(g != 0)=false:=by simp [zg]
  by_cases h4:4000 < l+8
  ·as_aux_lemma =>
    have E1:Hid ((4:Int)=e0):=by show (4:Int)=e0;rw [HE.out,hfit,if_neg (by simp),show lackB 3 { frm:=f,too:=t,seq:=q,ack:=a,win:=n,flg:=g,body:=[] }=false by simp [lackB,za,zn,zg],if_neg (by simp),show hdN 3=8 from rfl,if_pos h4]
    clear HE hfit za zn zg
    go_enter Tryz.func49,Tryz.ntmps49
    go_upto_region 13 with (first
     | (go_at_call 66;refine (refAddr_up _ _).mono ?_;rintro e w' ⟨rfl,rfl⟩)
     | (go_at_call 67;refine (refWord_any _ _).mono ?_;rintro e w' ⟨rfl,rfl⟩))
    go_quiet ((go_at_call 78;refine (size3 _).mono ?_;rintro e w' ⟨rfl,rfl⟩;exact ⟨rfl,_,rfl⟩))
    go_wp2
    go_ret
    exact ⟨ret_int E1.out,below_drewN HB.out _⟩
  ·as_aux_lemma =>
    have E1:Hid ((0:Int)=e0):=by show (0:Int)=e0;rw [HE.out,hfit,if_neg (by simp),show lackB 3 { frm:=f,too:=t,seq:=q,ack:=a,win:=n,flg:=g,body:=[] }=false by simp [lackB,za,zn,zg],if_neg (by simp),show hdN 3=8 from rfl,if_neg h4]
    clear HE hfit za zn zg
    go_enter Tryz.func49,Tryz.ntmps49
    go_upto_region 13 with (first
     | (go_at_call 66;refine (refAddr_up _ _).mono ?_;rintro e w' ⟨rfl,rfl⟩)
     | (go_at_call 67;refine (refWord_any _ _).mono ?_;rintro e w' ⟨rfl,rfl⟩))
    go_quiet ((go_at_call 78;refine (size3 _).mono ?_;rintro e w' ⟨rfl,rfl⟩;exact ⟨rfl,_,rfl⟩))
    go_wp2
    go_ret
    exact ⟨ret_int E1.out,below_drewN HB.out _⟩
theorem refSegment_any (k:Int) (s:Sg) (src dst:Int) (bv:Value) (w:World) (hb:Bytes w bv s.body) :
  Calls Tryz.prog 49 #[.int .i64 k,segV s bv,.int .i64 src,.int .i64 dst] w fun e w'=>e = .returned (.int .i64 (sgErr k s src dst))∧Below w.heap.size w w':=by
 have hl:s.body.length < 2 ^ 62:=by
  rcases hb with ⟨h,_⟩|⟨b,off,len,cap,_,h1,h2,h3,h4,_⟩
  ·rw [h];simp
  ·rw [h4];exact h3
 obtain ⟨ad,c,rfl⟩:=len_body hb
 exact refSegment_raw k s.frm s.too s.seq s.ack s.win s.flg src dst ad s.body.length c w hl
end Go.Proofs.YtkhheooofcpfdaaGreatDoor
namespace Go.Proofs.YtkhheooofcpfdaaGreatDoor
open Go.RowKit
set_option linter.unusedVariables false
theorem inR_up (n m:Int):inR n 0 m=upB n m:=rfl
set_option maxHeartbeats 8000000 in
theorem refLife_any (k s:Int) (w:World):Calls Tryz.prog 51 #[.int .i64 k,.int .i64 s] w fun e w'=>e = .returned (.int .i64 (lifeI k s))∧w'=w:=by
 by_cases k1:k=1
 ·obtain rfl:k=1:=k1
  by_cases s1:s=1
  ·have hs:=s1
   clear s1
   obtain rfl:s=1:=hs
   rw [show lifeI 1 1=30 from rfl]
   go_enter Tryz.func51,Tryz.ntmps51
   go_wp2
   go_ret
   exact ⟨rfl,rfl⟩
  by_cases s2:s=2
  ·have hs:=s2
   clear s2
   obtain rfl:s=2:=hs
   rw [show lifeI 1 2=300 from rfl]
   go_enter Tryz.func51,Tryz.ntmps51
   go_wp2
   go_ret
   exact ⟨rfl,rfl⟩
  by_cases s3:s=3
  ·have hs:=s3
   clear s3
   obtain rfl:s=3:=hs
   rw [show lifeI 1 3=60 from rfl]
   go_enter Tryz.func51,Tryz.ntmps51
   go_wp2
   go_ret
   exact ⟨rfl,rfl⟩
  by_cases s4:s=4
  ·have hs:=s4
   clear s4
   obtain rfl:s=4:=hs
   rw [show lifeI 1 4=10 from rfl]
   go_enter Tryz.func51,Tryz.ntmps51
   go_wp2
   go_ret
   exact ⟨rfl,rfl⟩
  rw [show lifeI 1 s=0 by unfold lifeI;rw [if_pos rfl,if_neg s1,if_neg s2,if_neg s3,if_neg s4]]
  have f1:(s == 1)=false:=by simpa using s1
  have f2:(s == 2)=false:=by simpa using s2
  have f3:(s == 3)=false:=by simpa using s3
  have f4:(s == 4)=false:=by simpa using s4
  clear s1 s2 s3 s4
  go_enter Tryz.func51,Tryz.ntmps51
  go_wp2
  go_ret
  exact ⟨rfl,rfl⟩
 by_cases k2:k=2
 ·obtain rfl:k=2:=k2
  by_cases s1:s=1
  ·have hs:=s1
   clear s1
   obtain rfl:s=1:=hs
   rw [show lifeI 2 1=30 from rfl]
   go_enter Tryz.func51,Tryz.ntmps51
   go_wp2
   go_ret
   exact ⟨rfl,rfl⟩
  by_cases s2:s=2
  ·have hs:=s2
   clear s2
   obtain rfl:s=2:=hs
   rw [show lifeI 2 2=60 from rfl]
   go_enter Tryz.func51,Tryz.ntmps51
   go_wp2
   go_ret
   exact ⟨rfl,rfl⟩
  by_cases s3:s=3
  ·have hs:=s3
   clear s3
   obtain rfl:s=3:=hs
   rw [show lifeI 2 3=0 from rfl]
   go_enter Tryz.func51,Tryz.ntmps51
   go_wp2
   go_ret
   exact ⟨rfl,rfl⟩
  by_cases s4:s=4
  ·have hs:=s4
   clear s4
   obtain rfl:s=4:=hs
   rw [show lifeI 2 4=0 from rfl]
   go_enter Tryz.func51,Tryz.ntmps51
   go_wp2
   go_ret
   exact ⟨rfl,rfl⟩
  rw [show lifeI 2 s=0 by unfold lifeI;rw [if_neg (by decide),if_pos rfl,if_neg s1,if_neg s2]]
  have f1:(s == 1)=false:=by simpa using s1
  have f2:(s == 2)=false:=by simpa using s2
  have f3:(s == 3)=false:=by simpa using s3
  have f4:(s == 4)=false:=by simpa using s4
  clear s1 s2 s3 s4
  go_enter Tryz.func51,Tryz.ntmps51
  go_wp2
  go_ret
  exact ⟨rfl,rfl⟩
 by_cases k3:k=3
 ·obtain rfl:k=3:=k3
  by_cases s1:s=1
  ·have hs:=s1
   clear s1
   obtain rfl:s=1:=hs
   rw [show lifeI 3 1=10 from rfl]
   go_enter Tryz.func51,Tryz.ntmps51
   go_wp2
   go_ret
   exact ⟨rfl,rfl⟩
  by_cases s2:s=2
  ·have hs:=s2
   clear s2
   obtain rfl:s=2:=hs
   rw [show lifeI 3 2=20 from rfl]
   go_enter Tryz.func51,Tryz.ntmps51
   go_wp2
   go_ret
   exact ⟨rfl,rfl⟩
  by_cases s3:s=3
  ·have hs:=s3
   clear s3
   obtain rfl:s=3:=hs
   rw [show lifeI 3 3=0 from rfl]
   go_enter Tryz.func51,Tryz.ntmps51
   go_wp2
   go_ret
   exact ⟨rfl,rfl⟩
  by_cases s4:s=4
  ·have hs:=s4
   clear s4
   obtain rfl:s=4:=hs
   rw [show lifeI 3 4=0 from rfl]
   go_enter Tryz.func51,Tryz.ntmps51
   go_wp2
   go_ret
   exact ⟨rfl,rfl⟩
  rw [show lifeI 3 s=0 by unfold lifeI;rw [if_neg (by decide),if_neg (by decide),if_pos rfl,if_neg s1,if_neg s2]]
  have f1:(s == 1)=false:=by simpa using s1
  have f2:(s == 2)=false:=by simpa using s2
  have f3:(s == 3)=false:=by simpa using s3
  have f4:(s == 4)=false:=by simpa using s4
  clear s1 s2 s3 s4
  go_enter Tryz.func51,Tryz.ntmps51
  go_wp2
  go_ret
  exact ⟨rfl,rfl⟩
 by_cases s1:s=1
 ·have hs:=s1
  clear s1
  obtain rfl:s=1:=hs
  rw [show lifeI k 1=0 from by unfold lifeI;rw [if_neg k1,if_neg k2,if_neg k3]]
  have e1:(k == 1)=false:=by simpa using k1
  have e2:(k == 2)=false:=by simpa using k2
  have e3:(k == 3)=false:=by simpa using k3
  clear k1 k2 k3
  go_enter Tryz.func51,Tryz.ntmps51
  go_wp2
  go_ret
  exact ⟨rfl,rfl⟩
 by_cases s2:s=2
 ·have hs:=s2
  clear s2
  obtain rfl:s=2:=hs
  rw [show lifeI k 2=0 from by unfold lifeI;rw [if_neg k1,if_neg k2,if_neg k3]]
  have e1:(k == 1)=false:=by simpa using k1
  have e2:(k == 2)=false:=by simpa using k2
  have e3:(k == 3)=false:=by simpa using k3
  clear k1 k2 k3
  go_enter Tryz.func51,Tryz.ntmps51
  go_wp2
  go_ret
  exact ⟨rfl,rfl⟩
 by_cases s3:s=3
 ·have hs:=s3
  clear s3
  obtain rfl:s=3:=hs
  rw [show lifeI k 3=0 from by unfold lifeI;rw [if_neg k1,if_neg k2,if_neg k3]]
  have e1:(k == 1)=false:=by simpa using k1
  have e2:(k == 2)=false:=by simpa using k2
  have e3:(k == 3)=false:=by simpa using k3
  clear k1 k2 k3
  go_enter Tryz.func51,Tryz.ntmps51
  go_wp2
  go_ret
  exact ⟨rfl,rfl⟩
 by_cases s4:s=4
 ·have hs:=s4
  clear s4
  obtain rfl:s=4:=hs
  rw [show lifeI k 4=0 from by unfold lifeI;rw [if_neg k1,if_neg k2,if_neg k3]]
  have e1:(k == 1)=false:=by simpa using k1
  have e2:(k == 2)=false:=by simpa using k2
  have e3:(k == 3)=false:=by simpa using k3
  clear k1 k2 k3
  go_enter Tryz.func51,Tryz.ntmps51
  go_wp2
  go_ret
  exact ⟨rfl,rfl⟩
 rw [show lifeI k s=0 by unfold lifeI;rw [if_neg k1,if_neg k2,if_neg k3]]
 have f1:(s == 1)=false:=by simpa using s1
 have f2:(s == 2)=false:=by simpa using s2
 have f3:(s == 3)=false:=by simpa using s3
 have f4:(s == 4)=false:=by simpa using s4
 have e1:(k == 1)=false:=by simpa using k1
 have e2:(k == 2)=false:=by simpa using k2
 have e3:(k == 3)=false:=by simpa using k3
 clear k1 k2 k3
 clear s1 s2 s3 s4
 go_enter Tryz.func51,Tryz.ntmps51
 go_wp2
 go_ret
 exact ⟨rfl,rfl⟩
theorem refNumber_any (n:Int) (w:World):Calls Tryz.prog 48 #[.int .i64 n] w fun e w'=>e = .returned (.bool (inR n (-1) 200))∧w'=w:=by
 by_cases h0:(-1)≤n
 ·by_cases h1:n≤200
  ·rw [inR_yes h0 h1]
   go_enter Tryz.func48,Tryz.ntmps48
   go_wp2
   go_ret
   exact ⟨rfl,rfl⟩
  ·rw [inR_no (by omega)]
   go_enter Tryz.func48,Tryz.ntmps48
   go_wp2
   go_ret
   exact ⟨rfl,rfl⟩
 ·rw [inR_no (by omega)]
  go_enter Tryz.func48,Tryz.ntmps48
  go_wp2
  go_ret
  exact ⟨rfl,rfl⟩
theorem refTime_any (n:Int) (w:World):Calls Tryz.prog 47 #[.int .i64 n] w fun e w'=>e = .returned (.bool (inR n 0 1000000))∧w'=w:=by
 by_cases h0:0≤n
 ·by_cases h1:n≤1000000
  ·rw [inR_yes h0 h1]
   go_enter Tryz.func47,Tryz.ntmps47
   go_wp2
   go_ret
   exact ⟨rfl,rfl⟩
  ·rw [inR_no (by omega)]
   go_enter Tryz.func47,Tryz.ntmps47
   go_wp2
   go_ret
   exact ⟨rfl,rfl⟩
 ·rw [inR_no (by omega)]
  go_enter Tryz.func47,Tryz.ntmps47
  go_wp2
  go_ret
  exact ⟨rfl,rfl⟩
set_option maxHeartbeats 8000000 in
theorem refSaid_any (k:Ky) (s:Sg) (bv:Value) (side:Int) (w:World) (hs:side=0∨side=1) :
  Calls Tryz.prog 50 #[keyV k,segV s bv,.int .i64 side] w fun e w'=>e = .returned (.bool (ofB (if side=0 then k else turnK k) s side))∧Below w.heap.size w w':=by
 have b1:Below w.heap.size w ((w.alloc (.cells #[.int .i64 k.kind,.int .i64 k.src,.int .i64 k.frm,.int .i64 k.dst,.int .i64 k.too] 37)).alloc (.cells #[.int .i64 s.frm,.int .i64 s.too,.int .i64 s.seq,.int .i64 s.ack,.int .i64 s.win,.int .i64 s.flg,bv] 41)):=((Below.refl _ _).alloc (Nat.le_refl _) _).alloc (by simp) _
 have B1:Hid _:=b1
 obtain ⟨r,HR⟩:∃ r,Hid (r=ofB (if side=0 then k else turnK k) s side):=⟨_,rfl⟩
 rw [← HR.out]
 unfold keyV segV
 clear b1
 rcases hs with rfl|rfl
 ·have HR:Hid (r=ofB k s 0):=HR
  unfold ofB at HR
  by_cases hk:k.kind=3
  ·have HR:Hid (r=decide (s.frm=0∧s.too=k.frm∧s.too=k.too)):=by show r=_;rw [HR.out,if_pos (show k.kind=3 from hk)]
   have e0:(k.kind == 3)=true:=by simpa using hk
   clear hk
   by_cases h1:s.too=k.frm
   ·have e1:(s.too == k.frm)=true:=by simpa using h1
    by_cases h2:s.too=k.too
    ·have e2:(s.too == k.too)=true:=by simpa using h2
     by_cases h3:s.frm=0
     ·have e3:(s.frm == 0)=true:=by simpa using h3
      obtain rfl:r=true:=by rw [HR.out];exact decide_eq_true ⟨h3,h1,h2⟩
      clear h1 h2 h3 HR
      go_enter Tryz.func50,Tryz.ntmps50
      go_wp2
      go_ret
      exact ⟨rfl,B1.out⟩
     ·have e3:(s.frm == 0)=false:=by simpa using h3
      obtain rfl:r=false:=by rw [HR.out];exact decide_eq_false fun h=>h3 h.1
      clear h1 h2 h3 HR
      go_enter Tryz.func50,Tryz.ntmps50
      go_wp2
      go_ret
      exact ⟨rfl,B1.out⟩
    ·have e2:(s.too == k.too)=false:=by simpa using h2
     obtain rfl:r=false:=by rw [HR.out];exact decide_eq_false fun h=>h2 h.2.2
     clear h1 h2 HR
     go_enter Tryz.func50,Tryz.ntmps50
     go_wp2
     go_ret
     exact ⟨rfl,B1.out⟩
   ·have e1:(s.too == k.frm)=false:=by simpa using h1
    obtain rfl:r=false:=by rw [HR.out];exact decide_eq_false fun h=>h1 h.2.1
    clear h1 HR
    go_enter Tryz.func50,Tryz.ntmps50
    go_wp2
    go_ret
    exact ⟨rfl,B1.out⟩
  ·have HR:Hid (r=decide (s.frm=k.frm∧s.too=k.too)):=by show r=_;rw [HR.out,if_neg (show ¬ k.kind=3 from hk)]
   have e0:(k.kind == 3)=false:=by simpa using hk
   clear hk
   by_cases h1:s.frm=k.frm
   ·have e1:(s.frm == k.frm)=true:=by simpa using h1
    by_cases h2:s.too=k.too
    ·have e2:(s.too == k.too)=true:=by simpa using h2
     obtain rfl:r=true:=by rw [HR.out];exact decide_eq_true ⟨h1,h2⟩
     clear h1 h2 HR
     go_enter Tryz.func50,Tryz.ntmps50
     go_wp2
     go_ret
     exact ⟨rfl,B1.out⟩
    ·have e2:(s.too == k.too)=false:=by simpa using h2
     obtain rfl:r=false:=by rw [HR.out];exact decide_eq_false fun h=>h2 h.2
     clear h1 h2 HR
     go_enter Tryz.func50,Tryz.ntmps50
     go_wp2
     go_ret
     exact ⟨rfl,B1.out⟩
   ·have e1:(s.frm == k.frm)=false:=by simpa using h1
    obtain rfl:r=false:=by rw [HR.out];exact decide_eq_false fun h=>h1 h.1
    clear h1 HR
    go_enter Tryz.func50,Tryz.ntmps50
    go_wp2
    go_ret
    exact ⟨rfl,B1.out⟩
 ·have HR:Hid (r=ofB (turnK k) s 1):=HR
  unfold ofB at HR
  by_cases hk:k.kind=3
  ·have HR:Hid (r=decide (s.frm=1∧s.too=k.too∧s.too=k.frm)):=by show r=_;rw [HR.out,if_pos (show (turnK k).kind=3 from hk)];rfl
   have e0:(k.kind == 3)=true:=by simpa using hk
   clear hk
   by_cases h1:s.too=k.frm
   ·have e1:(s.too == k.frm)=true:=by simpa using h1
    by_cases h2:s.too=k.too
    ·have e2:(s.too == k.too)=true:=by simpa using h2
     by_cases h3:s.frm=1
     ·have e3:(s.frm == 1)=true:=by simpa using h3
      obtain rfl:r=true:=by rw [HR.out];exact decide_eq_true ⟨h3,h2,h1⟩
      clear h1 h2 h3 HR
      go_enter Tryz.func50,Tryz.ntmps50
      go_wp2
      go_ret
      exact ⟨rfl,B1.out⟩
     ·have e3:(s.frm == 1)=false:=by simpa using h3
      obtain rfl:r=false:=by rw [HR.out];exact decide_eq_false fun h=>h3 h.1
      clear h1 h2 h3 HR
      go_enter Tryz.func50,Tryz.ntmps50
      go_wp2
      go_ret
      exact ⟨rfl,B1.out⟩
    ·have e2:(s.too == k.too)=false:=by simpa using h2
     obtain rfl:r=false:=by rw [HR.out];exact decide_eq_false fun h=>h2 h.2.1
     clear h1 h2 HR
     go_enter Tryz.func50,Tryz.ntmps50
     go_wp2
     go_ret
     exact ⟨rfl,B1.out⟩
   ·have e1:(s.too == k.frm)=false:=by simpa using h1
    obtain rfl:r=false:=by rw [HR.out];exact decide_eq_false fun h=>h1 h.2.2
    clear h1 HR
    go_enter Tryz.func50,Tryz.ntmps50
    go_wp2
    go_ret
    exact ⟨rfl,B1.out⟩
  ·have HR:Hid (r=decide (s.frm=k.too∧s.too=k.frm)):=by show r=_;rw [HR.out,if_neg (show ¬ (turnK k).kind=3 from hk)];rfl
   have e0:(k.kind == 3)=false:=by simpa using hk
   clear hk
   by_cases h1:s.frm=k.too
   ·have e1:(s.frm == k.too)=true:=by simpa using h1
    by_cases h2:s.too=k.frm
    ·have e2:(s.too == k.frm)=true:=by simpa using h2
     obtain rfl:r=true:=by rw [HR.out];exact decide_eq_true ⟨h1,h2⟩
     clear h1 h2 HR
     go_enter Tryz.func50,Tryz.ntmps50
     go_wp2
     go_ret
     exact ⟨rfl,B1.out⟩
    ·have e2:(s.too == k.frm)=false:=by simpa using h2
     obtain rfl:r=false:=by rw [HR.out];exact decide_eq_false fun h=>h2 h.2
     clear h1 h2 HR
     go_enter Tryz.func50,Tryz.ntmps50
     go_wp2
     go_ret
     exact ⟨rfl,B1.out⟩
   ·have e1:(s.frm == k.too)=false:=by simpa using h1
    obtain rfl:r=false:=by rw [HR.out];exact decide_eq_false fun h=>h1 h.1
    clear h1 HR
    go_enter Tryz.func50,Tryz.ntmps50
    go_wp2
    go_ret
    exact ⟨rfl,B1.out⟩
theorem refFlag_any (s:Sg) (f:Int) (bv:Value) (w:World) (h0:0≤s.flg) (h1:s.flg≤15) (hf:f=1∨f=2∨f=4∨f=8) :
  Calls Tryz.prog 79 #[segV s bv,.int .i64 f] w fun e w'=>e = .returned (.bool (flgB s f))∧Below w.heap.size w w':=by
 have b1:Below w.heap.size w (w.alloc (.cells #[.int .i64 s.frm,.int .i64 s.too,.int .i64 s.seq,.int .i64 s.ack,.int .i64 s.win,.int .i64 s.flg,bv] 41)):=(Below.refl _ _).alloc (Nat.le_refl _) _
 unfold segV
 rcases hf with rfl|rfl|rfl|rfl
 ·obtain ⟨z,hz⟩:∃ z,s.flg / 1 % 2=z:=⟨_,rfl⟩
  rw [show flgB s 1=(z == 1) by rw [← hz];rfl]
  have hz1:s.flg % 2=z:=by rw [← hz];omega
  go_enter Tryz.func79,Tryz.ntmps79
  go_wp2
  go_ret
  exact ⟨by first|rfl|(rw [← hz];rfl)|(rw [← hz];simp),b1⟩
 ·obtain ⟨z,hz⟩:∃ z,s.flg / 2 % 2=z:=⟨_,rfl⟩
  rw [show flgB s 2=(z == 1) by rw [← hz];rfl]
  go_enter Tryz.func79,Tryz.ntmps79
  go_wp2
  go_ret
  exact ⟨by first|rfl|(rw [← hz];rfl)|(rw [← hz];simp),b1⟩
 ·obtain ⟨z,hz⟩:∃ z,s.flg / 4 % 2=z:=⟨_,rfl⟩
  rw [show flgB s 4=(z == 1) by rw [← hz];rfl]
  go_enter Tryz.func79,Tryz.ntmps79
  go_wp2
  go_ret
  exact ⟨by first|rfl|(rw [← hz];rfl)|(rw [← hz];simp),b1⟩
 ·obtain ⟨z,hz⟩:∃ z,s.flg / 8 % 2=z:=⟨_,rfl⟩
  rw [show flgB s 8=(z == 1) by rw [← hz];rfl]
  go_enter Tryz.func79,Tryz.ntmps79
  go_wp2
  go_ret
  exact ⟨by first|rfl|(rw [← hz];rfl)|(rw [← hz];simp),b1⟩
set_option maxHeartbeats 4000000 in
theorem refEnd_any (s:Sg) (a:Option Addr) (l c:Nat) (w:World) (h0:0≤s.flg) (h1:s.flg≤15) (hq0:0≤s.seq) (hq1:s.seq≤4294967295) (hl:s.body.length=l) (hl4:l≤4000) :
  Calls Tryz.prog 52 #[segV s (.slice a l c)] w fun e w'=>e = .returned (.int .i64 (endI s))∧Below w.heap.size w w':=by
 have hp:=SgAt.new w s (.slice a l c)
 have b1:Below w.heap.size w (w.alloc (.cells #[.int .i64 s.frm,.int .i64 s.too,.int .i64 s.seq,.int .i64 s.ack,.int .i64 s.win,.int .i64 s.flg,.slice a l c] 41)):=(Below.refl _ _).alloc (Nat.le_refl _) _
 obtain ⟨W1,hW1⟩:∃ W1,w.alloc (.cells #[.int .i64 s.frm,.int .i64 s.too,.int .i64 s.seq,.int .i64 s.ack,.int .i64 s.win,.int .i64 s.flg,.slice a l c] 41)=W1:=⟨_,rfl⟩
 rw [hW1] at hp b1
 have hS:=fun W=>refFlag_any s 2 (.slice a l c) W h0 h1 (by omega)
 have hF:=fun W=>refFlag_any s 1 (.slice a l c) W h0 h1 (by omega)
 have HN:Hid (endI s=(s.seq+(l:Int)+bI (flgB s 2)+bI (flgB s 1)) % 4294967296):=by show endI s=_;unfold endI;rw [hl]
 obtain ⟨n,hn⟩:∃ n,endI s=n:=⟨_,rfl⟩
 rw [hn] at HN ⊢
 clear hn h0 h1 hl
 unfold segV at *
 go_enter Tryz.func52,Tryz.ntmps52
 go_upto_region 1 with fail
 try rw [hW1]
 clear hW1
 obtain ⟨c0,c1,c2,c3,c4,c5,c6⟩:=hp.cells
 generalize flgB s 2=x at *
 generalize flgB s 1=y at *
 go_upto_region 3 with (go_at_call 79;refine (hS _).mono ?_;rintro e w2 ⟨rfl,b2⟩)
 have p2:=hp.below hp.lt b2
 have b2':=b1.trans (b2.mono b1.size)
 clear c0 c1 c2 c3 c4 c5 c6 hp b1 b2 hS
 obtain ⟨c0,c1,c2,c3,c4,c5,c6⟩:=p2.cells
 go_upto_region 4 with (go_at_call 79;refine (hF _).mono ?_;rintro e w3 ⟨rfl,b3⟩)
 have B3:Hid (Below w.heap.size w w3):=b2'.trans (b3.mono b2'.size)
 clear c0 c1 c2 c3 c4 c5 c6 p2 b2' b3 hF
 rcases x with _|_ <;> rcases y with _|_
 ·have E:Hid ((s.seq+(l:Int)) % 4294967296=n):=by show _=n;rw [HN.out];simp [bI]
  clear HN
  go_wp2_with fail
  go_ret
  exact ⟨ret_int E.out,B3.out⟩
 ·have E:Hid ((s.seq+(l:Int)+1) % 4294967296=n):=by show _=n;rw [HN.out];simp [bI]
  clear HN
  go_wp2_with fail
  go_ret
  exact ⟨ret_int E.out,B3.out⟩
 ·have E:Hid ((s.seq+(l:Int)+1) % 4294967296=n):=by show _=n;rw [HN.out];simp [bI]
  clear HN
  go_wp2_with fail
  go_ret
  exact ⟨ret_int E.out,B3.out⟩
 ·have E:Hid ((s.seq+(l:Int)+1+1) % 4294967296=n):=by show _=n;rw [HN.out];simp [bI]
  clear HN
  go_wp2_with fail
  go_ret
  exact ⟨ret_int E.out,B3.out⟩
theorem refBeyond_any (a b:Int) (w:World) (ha:0≤a∧a≤4294967295) (hb:0≤b∧b≤4294967295) :
  Calls Tryz.prog 86 #[.int .i64 a,.int .i64 b] w fun e w'=>e = .returned (.bool (ahB a b))∧w'=w:=by
 obtain ⟨z,hz⟩:∃ z,(a - b+4294967296) % 4294967296=z:=⟨_,rfl⟩
 have hr:0≤z:=by omega
 by_cases h1:0 < z
 ·by_cases h2:z < 2147483648
  ·rw [show ahB a b=true by unfold ahB;exact decide_eq_true (by omega)]
   go_enter Tryz.func86,Tryz.ntmps86
   go_wp2
   go_ret
   exact ⟨rfl,rfl⟩
  ·rw [show ahB a b=false by unfold ahB;exact decide_eq_false (by omega)]
   go_enter Tryz.func86,Tryz.ntmps86
   go_wp2
   go_ret
   exact ⟨rfl,rfl⟩
 ·rw [show ahB a b=false by unfold ahB;exact decide_eq_false (by omega)]
  go_enter Tryz.func86,Tryz.ntmps86
  go_wp2
  go_ret
  exact ⟨rfl,rfl⟩
end Go.Proofs.YtkhheooofcpfdaaGreatDoor
