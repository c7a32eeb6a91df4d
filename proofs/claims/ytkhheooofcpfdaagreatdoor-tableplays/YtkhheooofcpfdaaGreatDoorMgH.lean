/- What check of package seg returns, for every kind, segment, source and destination: its error. -/
import Derived.Test.YtkhheooofcpfdaaGreatDoorMgD
namespace Go.Proofs.YtkhheooofcpfdaaGreatDoor
open Go.RowKit
set_option linter.unusedVariables false
theorem fits_any (k:Int) (f t q a n g:Int) (ad:Option Addr) (l c:Nat) (w:World) :
  Calls Tryz.prog 119 #[.int .i64 k,.agg #[.int .i64 f,.int .i64 t,.int .i64 q,.int .i64 a,.int .i64 n,.int .i64 g,.slice ad l c]] w fun e w'=>e = .returned (.bool (fitB k { frm:=f,too:=t,seq:=q,ack:=a,win:=n,flg:=g,body:=[] }))∧Below w.heap.size w w':=fits_raw k f t q a n g ad l c w
set_option maxRecDepth 100000 in
set_option maxHeartbeats 20000000 in
theorem sgCheck_raw (k f t q a n g src dst:Int) (ad:Option Addr) (l c:Nat) (w:World) (hl:l≤9223372036854775807) :
  Calls Tryz.prog 103 #[.int .i64 k,.agg #[.int .i64 f,.int .i64 t,.int .i64 q,.int .i64 a,.int .i64 n,.int .i64 g,.slice ad l c],.int .i64 src,.int .i64 dst] w fun e w' =>
   e = .returned (if (isK k && upB src 4294967295 && upB dst 4294967295 && fitB k { frm:=f,too:=t,seq:=q,ack:=a,win:=n,flg:=g,body:=[] })=false then .iface 71 (.int .i64 1) else if lackB k { frm:=f,too:=t,seq:=q,ack:=a,win:=n,flg:=g,body:=[] }=true then .iface 71 (.int .i64 3) else if 4000 < l+hdN k then .iface 71 (.int .i64 4) else .nilIface)∧Below w.heap.size w w':=by
 have b1:Below w.heap.size w (w.alloc (.cells #[.int .i64 f,.int .i64 t,.int .i64 q,.int .i64 a,.int .i64 n,.int .i64 g,.slice ad l c] 41)):=(Below.refl _ _).alloc (Nat.le_refl _) _
 have hf:=fits_any k f t q a n g ad l c (w.alloc (.cells #[.int .i64 f,.int .i64 t,.int .i64 q,.int .i64 a,.int .i64 n,.int .i64 g,.slice ad l c] 41))
 have hp:=SgAt.new w { frm:=f,too:=t,seq:=q,ack:=a,win:=n,flg:=g,body:=[] } (.slice ad l c)
 obtain ⟨FB,hFB⟩:∃ b,b=fitB k { frm:=f,too:=t,seq:=q,ack:=a,win:=n,flg:=g,body:=[] }:=⟨_,rfl⟩
 rw [← hFB] at hf ⊢
 have HB:Hid _:=b1
 clear b1 hFB
 rcases h0:isK k with _|_
 ·rw [show (false && upB src 4294967295 && upB dst 4294967295 && FB)=false by simp,if_pos rfl]
  clear hf hp
  go_enter Tryz.func103,Tryz.ntmps103
  go_wp2_with (first
  | (go_at_call 117;refine (isKind_any _ _).mono ?_;rintro e w' ⟨rfl,rfl⟩)
  | (go_at_call 118;refine (sgAddr_any _ _).mono ?_;rintro e w' ⟨rfl,rfl⟩)
  | (go_at_call 119;refine hf.mono ?_;rintro e w2 ⟨rfl,bw2⟩))
  go_ret
  exact ⟨rfl,HB.out⟩
 rcases h1:upB src 4294967295 with _|_
 ·rw [show (true && false && upB dst 4294967295 && FB)=false by simp,if_pos rfl]
  clear hf hp
  go_enter Tryz.func103,Tryz.ntmps103
  go_wp2_with (first
  | (go_at_call 117;refine (isKind_any _ _).mono ?_;rintro e w' ⟨rfl,rfl⟩)
  | (go_at_call 118;refine (sgAddr_any _ _).mono ?_;rintro e w' ⟨rfl,rfl⟩)
  | (go_at_call 119;refine hf.mono ?_;rintro e w2 ⟨rfl,bw2⟩))
  go_ret
  exact ⟨rfl,HB.out⟩
 rcases h2:upB dst 4294967295 with _|_
 ·rw [show (true && true && false && FB)=false by simp,if_pos rfl]
  clear hf hp
  go_enter Tryz.func103,Tryz.ntmps103
  go_wp2_with (first
  | (go_at_call 117;refine (isKind_any _ _).mono ?_;rintro e w' ⟨rfl,rfl⟩)
  | (go_at_call 118;refine (sgAddr_any _ _).mono ?_;rintro e w' ⟨rfl,rfl⟩)
  | (go_at_call 119;refine hf.mono ?_;rintro e w2 ⟨rfl,bw2⟩))
  go_ret
  exact ⟨rfl,HB.out⟩
 rcases FB with _|_
 ·rw [show (true && true && true && false)=false by simp,if_pos rfl]
  clear hp
  go_enter Tryz.func103,Tryz.ntmps103
  go_wp2_with (first
  | (go_at_call 117;refine (isKind_any _ _).mono ?_;rintro e w' ⟨rfl,rfl⟩)
  | (go_at_call 118;refine (sgAddr_any _ _).mono ?_;rintro e w' ⟨rfl,rfl⟩)
  | (go_at_call 119;refine hf.mono ?_;rintro e w2 ⟨rfl,bw2⟩))
  go_ret
  exact ⟨rfl,HB.out.trans (bw2.mono HB.out.size)⟩
 rw [show (true && true && true && true)=true by simp,if_neg (by simp)]
 rcases isK_of h0 with rfl|rfl|rfl
 ·rw [show lackB 1 { frm:=f,too:=t,seq:=q,ack:=a,win:=n,flg:=g,body:=[] }=false by simp [lackB],if_neg (by simp)]
  by_cases h4:4000 < l+17
  ·rw [show hdN 1=17 from rfl,if_pos h4]
   go_enter Tryz.func103,Tryz.ntmps103
   go_upto_region 3 with (first
  | (go_at_call 117;refine (isKind_any _ _).mono ?_;rintro e w' ⟨rfl,rfl⟩)
  | (go_at_call 118;refine (sgAddr_any _ _).mono ?_;rintro e w' ⟨rfl,rfl⟩)
  | (go_at_call 119;refine hf.mono ?_;rintro e w2 ⟨rfl,bw2⟩))
   have bw:=HB.out.trans (bw2.mono HB.out.size)
   obtain ⟨c0,c1,c2,c3,c4,c5,c6⟩:=(hp.below hp.lt bw2).cells
   simp only at c0 c1 c2 c3 c4 c5 c6
   have BW:Hid _:=bw
   clear bw bw2 HB hp hf
   go_upto_region 6 with fail
   go_quiet ((go_at_call 120;refine (head1 _).mono ?_;rintro e w' ⟨rfl,rfl⟩;exact ⟨rfl,_,rfl⟩))
   go_wp2
   go_ret
   exact ⟨rfl,below_drewN BW.out _⟩
  ·rw [show hdN 1=17 from rfl,if_neg h4]
   go_enter Tryz.func103,Tryz.ntmps103
   go_upto_region 3 with (first
  | (go_at_call 117;refine (isKind_any _ _).mono ?_;rintro e w' ⟨rfl,rfl⟩)
  | (go_at_call 118;refine (sgAddr_any _ _).mono ?_;rintro e w' ⟨rfl,rfl⟩)
  | (go_at_call 119;refine hf.mono ?_;rintro e w2 ⟨rfl,bw2⟩))
   have bw:=HB.out.trans (bw2.mono HB.out.size)
   obtain ⟨c0,c1,c2,c3,c4,c5,c6⟩:=(hp.below hp.lt bw2).cells
   simp only at c0 c1 c2 c3 c4 c5 c6
   have BW:Hid _:=bw
   clear bw bw2 HB hp hf
   go_upto_region 6 with fail
   go_quiet ((go_at_call 120;refine (head1 _).mono ?_;rintro e w' ⟨rfl,rfl⟩;exact ⟨rfl,_,rfl⟩))
   go_wp2
   go_ret
   exact ⟨rfl,below_drewN BW.out _⟩
 ·by_cases xq:q=0
  rotate_left
  ·rw [if_pos (show lackB 2 { frm:=f,too:=t,seq:=q,ack:=a,win:=n,flg:=g,body:=[] }=true by simp [lackB,xq])]
   have yq:(q != 0)=true:=by simpa using xq
   clear xq
   go_enter Tryz.func103,Tryz.ntmps103
   go_upto_region 3 with (first
  | (go_at_call 117;refine (isKind_any _ _).mono ?_;rintro e w' ⟨rfl,rfl⟩)
  | (go_at_call 118;refine (sgAddr_any _ _).mono ?_;rintro e w' ⟨rfl,rfl⟩)
  | (go_at_call 119;refine hf.mono ?_;rintro e w2 ⟨rfl,bw2⟩))
   have bw:=HB.out.trans (bw2.mono HB.out.size)
   obtain ⟨c0,c1,c2,c3,c4,c5,c6⟩:=(hp.below hp.lt bw2).cells
   simp only at c0 c1 c2 c3 c4 c5 c6
   have BW:Hid _:=bw
   clear bw bw2 HB hp hf
   go_wp2
   go_ret
   exact ⟨rfl,BW.out⟩
  have yq:(q != 0)=false:=by simp [xq]
  by_cases xa:a=0
  rotate_left
  ·rw [if_pos (show lackB 2 { frm:=f,too:=t,seq:=q,ack:=a,win:=n,flg:=g,body:=[] }=true by simp [lackB,xa])]
   have ya:(a != 0)=true:=by simpa using xa
   clear xq xa
   go_enter Tryz.func103,Tryz.ntmps103
   go_upto_region 3 with (first
  | (go_at_call 117;refine (isKind_any _ _).mono ?_;rintro e w' ⟨rfl,rfl⟩)
  | (go_at_call 118;refine (sgAddr_any _ _).mono ?_;rintro e w' ⟨rfl,rfl⟩)
  | (go_at_call 119;refine hf.mono ?_;rintro e w2 ⟨rfl,bw2⟩))
   have bw:=HB.out.trans (bw2.mono HB.out.size)
   obtain ⟨c0,c1,c2,c3,c4,c5,c6⟩:=(hp.below hp.lt bw2).cells
   simp only at c0 c1 c2 c3 c4 c5 c6
   have BW:Hid _:=bw
   clear bw bw2 HB hp hf
   go_wp2
   go_ret
   exact ⟨rfl,BW.out⟩
  have ya:(a != 0)=false:=by simp [xa]
  by_cases xn:n=0
  rotate_left
  ·rw [if_pos (show lackB 2 { frm:=f,too:=t,seq:=q,ack:=a,win:=n,flg:=g,body:=[] }=true by simp [lackB,xn])]
   have yn:(n != 0)=true:=by simpa using xn
   clear xq xa xn
   go_enter Tryz.func103,Tryz.ntmps103
   go_upto_region 3 with (first
  | (go_at_call 117;refine (isKind_any _ _).mono ?_;rintro e w' ⟨rfl,rfl⟩)
  | (go_at_call 118;refine (sgAddr_any _ _).mono ?_;rintro e w' ⟨rfl,rfl⟩)
  | (go_at_call 119;refine hf.mono ?_;rintro e w2 ⟨rfl,bw2⟩))
   have bw:=HB.out.trans (bw2.mono HB.out.size)
   obtain ⟨c0,c1,c2,c3,c4,c5,c6⟩:=(hp.below hp.lt bw2).cells
   simp only at c0 c1 c2 c3 c4 c5 c6
   have BW:Hid _:=bw
   clear bw bw2 HB hp hf
   go_wp2
   go_ret
   exact ⟨rfl,BW.out⟩
  have yn:(n != 0)=false:=by simp [xn]
  by_cases xg:g=0
  rotate_left
  ·rw [if_pos (show lackB 2 { frm:=f,too:=t,seq:=q,ack:=a,win:=n,flg:=g,body:=[] }=true by simp [lackB,xg])]
   have yg:(g != 0)=true:=by simpa using xg
   clear xq xa xn xg
   go_enter Tryz.func103,Tryz.ntmps103
   go_upto_region 3 with (first
  | (go_at_call 117;refine (isKind_any _ _).mono ?_;rintro e w' ⟨rfl,rfl⟩)
  | (go_at_call 118;refine (sgAddr_any _ _).mono ?_;rintro e w' ⟨rfl,rfl⟩)
  | (go_at_call 119;refine hf.mono ?_;rintro e w2 ⟨rfl,bw2⟩))
   have bw:=HB.out.trans (bw2.mono HB.out.size)
   obtain ⟨c0,c1,c2,c3,c4,c5,c6⟩:=(hp.below hp.lt bw2).cells
   simp only at c0 c1 c2 c3 c4 c5 c6
   have BW:Hid _:=bw
   clear bw bw2 HB hp hf
   go_wp2
   go_ret
   exact ⟨rfl,BW.out⟩
  have yg:(g != 0)=false:=by simp [xg]
  rw [show lackB 2 { frm:=f,too:=t,seq:=q,ack:=a,win:=n,flg:=g,body:=[] }=false by simp [lackB,xq,xa,xn,xg],if_neg (by simp)]
  by_cases h4:4000 < l+6
  ·rw [show hdN 2=6 from rfl,if_pos h4]
   clear xq xa xn xg
   go_enter Tryz.func103,Tryz.ntmps103
   go_upto_region 3 with (first
  | (go_at_call 117;refine (isKind_any _ _).mono ?_;rintro e w' ⟨rfl,rfl⟩)
  | (go_at_call 118;refine (sgAddr_any _ _).mono ?_;rintro e w' ⟨rfl,rfl⟩)
  | (go_at_call 119;refine hf.mono ?_;rintro e w2 ⟨rfl,bw2⟩))
   have bw:=HB.out.trans (bw2.mono HB.out.size)
   obtain ⟨c0,c1,c2,c3,c4,c5,c6⟩:=(hp.below hp.lt bw2).cells
   simp only at c0 c1 c2 c3 c4 c5 c6
   have BW:Hid _:=bw
   clear bw bw2 HB hp hf
   go_upto_region 6 with fail
   go_quiet ((go_at_call 120;refine (head2 _).mono ?_;rintro e w' ⟨rfl,rfl⟩;exact ⟨rfl,_,rfl⟩))
   go_wp2
   go_ret
   exact ⟨rfl,below_drewN BW.out _⟩
  ·rw [show hdN 2=6 from rfl,if_neg h4]
   clear xq xa xn xg
   go_enter Tryz.func103,Tryz.ntmps103
   go_upto_region 3 with (first
  | (go_at_call 117;refine (isKind_any _ _).mono ?_;rintro e w' ⟨rfl,rfl⟩)
  | (go_at_call 118;refine (sgAddr_any _ _).mono ?_;rintro e w' ⟨rfl,rfl⟩)
  | (go_at_call 119;refine hf.mono ?_;rintro e w2 ⟨rfl,bw2⟩))
   have bw:=HB.out.trans (bw2.mono HB.out.size)
   obtain ⟨c0,c1,c2,c3,c4,c5,c6⟩:=(hp.below hp.lt bw2).cells
   simp only at c0 c1 c2 c3 c4 c5 c6
   have BW:Hid _:=bw
   clear bw bw2 HB hp hf
   go_upto_region 6 with fail
   go_quiet ((go_at_call 120;refine (head2 _).mono ?_;rintro e w' ⟨rfl,rfl⟩;exact ⟨rfl,_,rfl⟩))
   go_wp2
   go_ret
   exact ⟨rfl,below_drewN BW.out _⟩
 ·by_cases xa:a=0
  rotate_left
  ·rw [if_pos (show lackB 3 { frm:=f,too:=t,seq:=q,ack:=a,win:=n,flg:=g,body:=[] }=true by simp [lackB,xa])]
   have ya:(a != 0)=true:=by simpa using xa
   clear xa
   go_enter Tryz.func103,Tryz.ntmps103
   go_upto_region 3 with (first
  | (go_at_call 117;refine (isKind_any _ _).mono ?_;rintro e w' ⟨rfl,rfl⟩)
  | (go_at_call 118;refine (sgAddr_any _ _).mono ?_;rintro e w' ⟨rfl,rfl⟩)
  | (go_at_call 119;refine hf.mono ?_;rintro e w2 ⟨rfl,bw2⟩))
   have bw:=HB.out.trans (bw2.mono HB.out.size)
   obtain ⟨c0,c1,c2,c3,c4,c5,c6⟩:=(hp.below hp.lt bw2).cells
   simp only at c0 c1 c2 c3 c4 c5 c6
   have BW:Hid _:=bw
   clear bw bw2 HB hp hf
   go_wp2
   go_ret
   exact ⟨rfl,BW.out⟩
  have ya:(a != 0)=false:=by simp [xa]
  by_cases xn:n=0
  rotate_left
  ·rw [if_pos (show lackB 3 { frm:=f,too:=t,seq:=q,ack:=a,win:=n,flg:=g,body:=[] }=true by simp [lackB,xn])]
   have yn:(n != 0)=true:=by simpa using xn
   clear xa xn
   go_enter Tryz.func103,Tryz.ntmps103
   go_upto_region 3 with (first
  | (go_at_call 117;refine (isKind_any _ _).mono ?_;rintro e w' ⟨rfl,rfl⟩)
  | (go_at_call 118;refine (sgAddr_any _ _).mono ?_;rintro e w' ⟨rfl,rfl⟩)
  | (go_at_call 119;refine hf.mono ?_;rintro e w2 ⟨rfl,bw2⟩))
   have bw:=HB.out.trans (bw2.mono HB.out.size)
   obtain ⟨c0,c1,c2,c3,c4,c5,c6⟩:=(hp.below hp.lt bw2).cells
   simp only at c0 c1 c2 c3 c4 c5 c6
   have BW:Hid _:=bw
   clear bw bw2 HB hp hf
   go_wp2
   go_ret
   exact ⟨rfl,BW.out⟩
  have yn:(n != 0)=false:=by simp [xn]
  by_cases xg:g=0
  rotate_left
  ·rw [if_pos (show lackB 3 { frm:=f,too:=t,seq:=q,ack:=a,win:=n,flg:=g,body:=[] }=true by simp [lackB,xg])]
   have yg:(g != 0)=true:=by simpa using xg
   clear xa xn xg
   go_enter Tryz.func103,Tryz.ntmps103
   go_upto_region 3 with (first
  | (go_at_call 117;refine (isKind_any _ _).mono ?_;rintro e w' ⟨rfl,rfl⟩)
  | (go_at_call 118;refine (sgAddr_any _ _).mono ?_;rintro e w' ⟨rfl,rfl⟩)
  | (go_at_call 119;refine hf.mono ?_;rintro e w2 ⟨rfl,bw2⟩))
   have bw:=HB.out.trans (bw2.mono HB.out.size)
   obtain ⟨c0,c1,c2,c3,c4,c5,c6⟩:=(hp.below hp.lt bw2).cells
   simp only at c0 c1 c2 c3 c4 c5 c6
   have BW:Hid _:=bw
   clear bw bw2 HB hp hf
   go_wp2
   go_ret
   exact ⟨rfl,BW.out⟩
  have yg:(g != 0)=false:=by simp [xg]
  rw [show lackB 3 { frm:=f,too:=t,seq:=q,ack:=a,win:=n,flg:=g,body:=[] }=false by simp [lackB,xa,xn,xg],if_neg (by simp)]
  by_cases h4:4000 < l+8
  ·rw [show hdN 3=8 from rfl,if_pos h4]
   clear xa xn xg
   go_enter Tryz.func103,Tryz.ntmps103
   go_upto_region 3 with (first
  | (go_at_call 117;refine (isKind_any _ _).mono ?_;rintro e w' ⟨rfl,rfl⟩)
  | (go_at_call 118;refine (sgAddr_any _ _).mono ?_;rintro e w' ⟨rfl,rfl⟩)
  | (go_at_call 119;refine hf.mono ?_;rintro e w2 ⟨rfl,bw2⟩))
   have bw:=HB.out.trans (bw2.mono HB.out.size)
   obtain ⟨c0,c1,c2,c3,c4,c5,c6⟩:=(hp.below hp.lt bw2).cells
   simp only at c0 c1 c2 c3 c4 c5 c6
   have BW:Hid _:=bw
   clear bw bw2 HB hp hf
   go_upto_region 6 with fail
   go_quiet ((go_at_call 120;refine (head3 _).mono ?_;rintro e w' ⟨rfl,rfl⟩;exact ⟨rfl,_,rfl⟩))
   go_wp2
   go_ret
   exact ⟨rfl,below_drewN BW.out _⟩
  ·rw [show hdN 3=8 from rfl,if_neg h4]
   clear xa xn xg
   go_enter Tryz.func103,Tryz.ntmps103
   go_upto_region 3 with (first
  | (go_at_call 117;refine (isKind_any _ _).mono ?_;rintro e w' ⟨rfl,rfl⟩)
  | (go_at_call 118;refine (sgAddr_any _ _).mono ?_;rintro e w' ⟨rfl,rfl⟩)
  | (go_at_call 119;refine hf.mono ?_;rintro e w2 ⟨rfl,bw2⟩))
   have bw:=HB.out.trans (bw2.mono HB.out.size)
   obtain ⟨c0,c1,c2,c3,c4,c5,c6⟩:=(hp.below hp.lt bw2).cells
   simp only at c0 c1 c2 c3 c4 c5 c6
   have BW:Hid _:=bw
   clear bw bw2 HB hp hf
   go_upto_region 6 with fail
   go_quiet ((go_at_call 120;refine (head3 _).mono ?_;rintro e w' ⟨rfl,rfl⟩;exact ⟨rfl,_,rfl⟩))
   go_wp2
   go_ret
   exact ⟨rfl,below_drewN BW.out _⟩
theorem sgCheck_any (k:Int) (s:Sg) (src dst:Int) (bv:Value) (w:World) (hb:Bytes w bv s.body) :
  Calls Tryz.prog 103 #[.int .i64 k,segV s bv,.int .i64 src,.int .i64 dst] w fun e w'=>e = .returned (errV (sgErr k s src dst))∧Below w.heap.size w w':=by
 have hl:s.body.length≤9223372036854775807:=by
  rcases hb with ⟨h,_⟩|⟨b,off,len,cap,_,h1,h2,h3,h4,_⟩
  ·rw [h];simp
  ·rw [h4];omega
 obtain ⟨ad,c,rfl⟩:=len_body hb
 refine (sgCheck_raw k s.frm s.too s.seq s.ack s.win s.flg src dst ad s.body.length c w hl).mono ?_
 rintro e w' ⟨rfl,hw⟩
 refine ⟨?_,hw⟩
 show Ending.returned (if (isK k && upB src 4294967295 && upB dst 4294967295 && fitB k s)=false then .iface 71 (.int .i64 1) else if lackB k s=true then .iface 71 (.int .i64 3) else if 4000 < s.body.length+hdN k then .iface 71 (.int .i64 4) else .nilIface)=_
 unfold errV sgErr
 congr 1
 by_cases h:(isK k && upB src 4294967295 && upB dst 4294967295 && fitB k s)=false
 ·rw [if_pos h,if_pos h,if_neg (by decide)]
 ·rw [if_neg h,if_neg h]
  by_cases h2:lackB k s=true
  ·rw [if_pos h2,if_pos h2,if_neg (by decide)]
  ·rw [if_neg h2,if_neg h2]
   by_cases h3:4000 < s.body.length+hdN k
   ·rw [if_pos h3,if_pos h3,if_neg (by decide)]
   ·rw [if_neg h3,if_neg h3,if_pos rfl]
end Go.Proofs.YtkhheooofcpfdaaGreatDoor
namespace Go.Proofs.YtkhheooofcpfdaaGreatDoor
open Go.RowKit
set_option linter.unusedVariables false
theorem errV_no {e:Int} (h:¬ e=0):errV e = .iface 71 (.int .i64 e):=if_neg h
theorem errV_ok:errV 0 = .nilIface:=if_pos rfl
set_option maxRecDepth 100000 in
set_option maxHeartbeats 8000000 in
theorem sumOf_any (k src dst:Int) (vf vb:Value) (F B:List Int) (w:World) (hf:Bytes w vf F) (hb:Bytes w vb B) (hF:F.length≤5000) (hB:B.length≤5000) :
  Calls Tryz.prog 106 #[.int .i64 k,vf,vb,.int .i64 src,.int .i64 dst] w fun e w'=>e = .returned (.int .i64 (psum k F B src dst))∧Below w.heap.size w w':=by
 have HF:Hid (Bytes w vf F):=hf
 have HB:Hid (Bytes w vb B):=hb
 have s0:=Grows.nil w w.heap.size (Nat.le_refl _)
 have h0:=s0.write4 src (by simp)
 clear hf hb
 go_enter Tryz.func106,Tryz.ntmps106
 go_wp2_with fail
 refine h0.mono ?_
 rintro e w1 ⟨v1,rfl,s1⟩
 have h1:=s1.write4 dst (by simp [b4L])
 clear h0 s0
 go_wp2_with fail
 refine h1.mono ?_
 rintro e w2 ⟨v2,rfl,s2⟩
 have h2:=s2.write2 k (by simp [b4L])
 clear h1 s1
 go_wp2_with fail
 refine h2.mono ?_
 rintro e w3 ⟨v3,rfl,s3⟩
 clear h2 s2
 go_upto_region 6 with (at_builtin;refine wpList_append_bytes rfl (.tmp 21) (.tmp 22) rfl w.heap.size _ _ rfl s3.1 _ F rfl (HF.out.below (Nat.le_refl _) s3.2.1) (by simp [b4L,b2L];omega) s3.2.2 ?_;intro v4 w4 o4 g4)
 have s4:=s3.app o4 g4
 have h4:=s4.write2 0 (by simp [b4L,b2L];omega)
 clear o4 g4 s3
 go_wp2_with fail
 refine h4.mono ?_
 rintro e w5 ⟨v5,rfl,s5⟩
 clear h4 s4
 go_upto_region 8 with (at_builtin;refine wpList_append_bytes rfl (.tmp 26) (.tmp 27) rfl w.heap.size _ _ rfl s5.1 _ B rfl (HB.out.below (Nat.le_refl _) s5.2.1) (by simp [b4L,b2L];omega) s5.2.2 ?_;intro v6 w6 o6 g6)
 have s6:=s5.app o6 g6
 rw [show []++b4L src++b4L dst++b2L k++F++b2L 0++B=psL k F B src dst from rfl] at s6
 have hs:=sum_same (s6.1.bytes (by rw [psL_length];omega))
 have bw:=s6.2.1
 clear o6 g6 s5 s6
 go_wp2_with (go_at_call 121;refine hs.mono ?_;rintro e w7 ⟨rfl,hw7⟩)
 go_ret
 exact ⟨rfl,below_same bw hw7⟩
set_option maxRecDepth 100000 in
set_option maxHeartbeats 8000000 in
theorem front_raw (k f t q a n g:Int) (ad:Option Addr) (l c:Nat) (w:World) (hk:isK k=true) :
  Calls Tryz.prog 104 #[.int .i64 k,.agg #[.int .i64 f,.int .i64 t,.int .i64 q,.int .i64 a,.int .i64 n,.int .i64 g,.slice ad l c]] w fun e w' =>
   ∃ v,e = .returned v∧OwnB w' w.heap.size v (frontL k { frm:=f,too:=t,seq:=q,ack:=a,win:=n,flg:=g,body:=[] })∧Below w.heap.size w w':=by
 have hp:=SgAt.new w { frm:=f,too:=t,seq:=q,ack:=a,win:=n,flg:=g,body:=[] } (.slice ad l c)
 have b1:Below w.heap.size w (w.alloc (.cells #[.int .i64 f,.int .i64 t,.int .i64 q,.int .i64 a,.int .i64 n,.int .i64 g,.slice ad l c] 41)):=(Below.refl _ _).alloc (Nat.le_refl _) _
 obtain ⟨w1,hw1⟩:∃ w1,w.alloc (.cells #[.int .i64 f,.int .i64 t,.int .i64 q,.int .i64 a,.int .i64 n,.int .i64 g,.slice ad l c] 41)=w1:=⟨_,rfl⟩
 have s0:=Grows.nil w1 w1.heap.size (Nat.le_refl _)
 rw [hw1] at hp b1
 have hlt:=hp.lt
 have fin:∀ {wi:World} {v:Value} {L:List Int},Grows w1 w1.heap.size wi v L→OwnB wi w.heap.size v L∧Below w.heap.size w wi:=by
  intro wi v L h
  refine ⟨⟨⟨h.1.1.1,?_⟩,h.1.2⟩,b1.trans (h.2.1.mono b1.size)⟩
  rcases h.1.1.2 with h0|⟨k,cp,cur,h1,h2,h3⟩
  ·exact .inl h0
  ·exact .inr ⟨k,cp,cur,h1,by omega,h3⟩
 have cs:∀ {wi:World} {v:Value} {L:List Int},Grows w1 w1.heap.size wi v L→SgAt wi w.heap.size { frm:=f,too:=t,seq:=q,ack:=a,win:=n,flg:=g,body:=[] } (.slice ad l c):=fun h=>hp.below hlt h.2.1
 have FIN:Hid (∀ {wi:World} {v:Value} {L:List Int},Grows w1 w1.heap.size wi v L→OwnB wi w.heap.size v L∧Below w.heap.size w wi):=fin
 have CS:Hid (∀ {wi:World} {v:Value} {L:List Int},Grows w1 w1.heap.size wi v L→SgAt wi w.heap.size { frm:=f,too:=t,seq:=q,ack:=a,win:=n,flg:=g,body:=[] } (.slice ad l c)):=cs
 clear fin cs b1
 rcases isK_of hk with rfl|rfl|rfl
 ·as_aux_lemma =>
   go_enter Tryz.func104,Tryz.ntmps104
   go_upto_region 4 with fail
   try rw [hw1]
   clear hw1
   obtain ⟨c0,c1,c2,c3,c4,c5,c6⟩:=hp.cells
   have h0:=s0.write2 f (by simp)
   go_wp2_with fail
   refine h0.mono ?_
   rintro e w2 ⟨v2,rfl,s2⟩
   clear h0 s0 c0 c1 c2 c3 c4 c5 c6
   obtain ⟨c0,c1,c2,c3,c4,c5,c6⟩:=(CS.out s2).cells
   have h1:=s2.write2 t (by simp [b2L])
   go_wp2_with fail
   refine h1.mono ?_
   rintro e w3 ⟨v3,rfl,s3⟩
   clear h1 s2 c0 c1 c2 c3 c4 c5 c6
   obtain ⟨c0,c1,c2,c3,c4,c5,c6⟩:=(CS.out s3).cells
   have h2:=s3.write4 q (by simp [b2L])
   go_wp2_with fail
   refine h2.mono ?_
   rintro e w4 ⟨v4,rfl,s4⟩
   clear h2 s3 c0 c1 c2 c3 c4 c5 c6
   obtain ⟨c0,c1,c2,c3,c4,c5,c6⟩:=(CS.out s4).cells
   have h3:=s4.write4 a (by simp [b2L,b4L])
   go_wp2_with fail
   refine h3.mono ?_
   rintro e w5 ⟨v5,rfl,s5⟩
   clear h3 s4 c0 c1 c2 c3 c4 c5 c6
   obtain ⟨c0,c1,c2,c3,c4,c5,c6⟩:=(CS.out s5).cells
   have h4:=s5.write1 g (by simp [b2L,b4L])
   go_wp2_with fail
   refine h4.mono ?_
   rintro e w6 ⟨v6,rfl,s6⟩
   clear h4 s5 c0 c1 c2 c3 c4 c5 c6
   obtain ⟨c0,c1,c2,c3,c4,c5,c6⟩:=(CS.out s6).cells
   have h5:=s6.write2 n (by simp [b1L,b2L,b4L])
   go_wp2_with fail
   refine h5.mono ?_
   rintro e w7 ⟨v7,rfl,s7⟩
   clear h5 s6 c0 c1 c2 c3 c4 c5 c6
   go_wp2_with fail
   go_ret
   exact ⟨_,rfl,(FIN.out s7).1,(FIN.out s7).2⟩
 ·as_aux_lemma =>
   go_enter Tryz.func104,Tryz.ntmps104
   go_upto_region 11 with fail
   try rw [hw1]
   clear hw1
   obtain ⟨c0,c1,c2,c3,c4,c5,c6⟩:=hp.cells
   have h0:=s0.write2 f (by simp)
   go_wp2_with fail
   refine h0.mono ?_
   rintro e w2 ⟨v2,rfl,s2⟩
   clear h0 s0 c0 c1 c2 c3 c4 c5 c6
   obtain ⟨c0,c1,c2,c3,c4,c5,c6⟩:=(CS.out s2).cells
   have h1:=s2.write2 t (by simp [b2L])
   go_wp2_with fail
   refine h1.mono ?_
   rintro e w3 ⟨v3,rfl,s3⟩
   clear h1 s2 c0 c1 c2 c3 c4 c5 c6
   go_wp2_with fail
   go_ret
   exact ⟨_,rfl,(FIN.out s3).1,(FIN.out s3).2⟩
 ·as_aux_lemma =>
   go_enter Tryz.func104,Tryz.ntmps104
   go_upto_region 14 with fail
   try rw [hw1]
   clear hw1
   obtain ⟨c0,c1,c2,c3,c4,c5,c6⟩:=hp.cells
   have h0:=s0.write1 f (by simp)
   go_wp2_with fail
   refine h0.mono ?_
   rintro e w2 ⟨v2,rfl,s2⟩
   clear h0 s0 c0 c1 c2 c3 c4 c5 c6
   obtain ⟨c0,c1,c2,c3,c4,c5,c6⟩:=(CS.out s2).cells
   have h1:=s2.write2 t (by simp [b1L])
   go_wp2_with fail
   refine h1.mono ?_
   rintro e w3 ⟨v3,rfl,s3⟩
   clear h1 s2 c0 c1 c2 c3 c4 c5 c6
   obtain ⟨c0,c1,c2,c3,c4,c5,c6⟩:=(CS.out s3).cells
   have h2:=s3.write2 q (by simp [b1L,b2L])
   go_wp2_with fail
   refine h2.mono ?_
   rintro e w4 ⟨v4,rfl,s4⟩
   clear h2 s3 c0 c1 c2 c3 c4 c5 c6
   have h3:=s4.write1 0 (by simp [b1L,b2L])
   go_wp2_with fail
   refine h3.mono ?_
   rintro e w5 ⟨v5,rfl,s5⟩
   clear h3 s4
   go_wp2_with fail
   go_ret
   exact ⟨_,rfl,(FIN.out s5).1,(FIN.out s5).2⟩
theorem front_any (k:Int) (s:Sg) (ad:Option Addr) (l c:Nat) (w:World) (hk:isK k=true) :
  Calls Tryz.prog 104 #[.int .i64 k,segV s (.slice ad l c)] w fun e w'=>∃ v,e = .returned v∧OwnB w' w.heap.size v (frontL k s)∧Below w.heap.size w w':=front_raw k s.frm s.too s.seq s.ack s.win s.flg ad l c w hk
set_option maxHeartbeats 4000000 in
theorem sgEncode_no (k:Int) (s:Sg) (src dst:Int) (ad:Option Addr) (l c:Nat) (w:World) (hb:Bytes w (.slice ad l c) s.body) (he:¬ sgErr k s src dst=0) :
  Calls Tryz.prog 81 #[.int .i64 k,segV s (.slice ad l c),.int .i64 src,.int .i64 dst] w fun e w'=>e = .returned (.tuple #[.slice none 0 0,.iface 71 (.int .i64 (sgErr k s src dst))])∧Below w.heap.size w w':=by
 have b1:Below w.heap.size w (w.alloc (.cells #[.int .i64 s.frm,.int .i64 s.too,.int .i64 s.seq,.int .i64 s.ack,.int .i64 s.win,.int .i64 s.flg,.slice ad l c] 41)):=(Below.refl _ _).alloc (Nat.le_refl _) _
 have hc:=sgCheck_any k s src dst _ _ (hb.below (Nat.le_refl _) b1)
 rw [errV_no he] at hc
 generalize sgErr k s src dst=e0 at hc ⊢
 unfold segV at *
 clear he hb
 go_enter Tryz.func81,Tryz.ntmps81
 go_wp2_with (go_at_call 103;refine hc.mono ?_;rintro e wa ⟨rfl,hwa⟩)
 go_ret2
 exact ⟨rfl,b1.trans (hwa.mono b1.size)⟩
set_option maxRecDepth 100000 in
set_option maxHeartbeats 8000000 in
theorem sgEncode_ok (k:Int) (s:Sg) (src dst:Int) (ad:Option Addr) (l c:Nat) (w:World) (hl:s.body.length=l) (hb:Bytes w (.slice ad l c) s.body) (he:sgErr k s src dst=0) :
  Calls Tryz.prog 81 #[.int .i64 k,segV s (.slice ad l c),.int .i64 src,.int .i64 dst] w fun e w'=>∃ v,e = .returned (.tuple #[v,.nilIface])∧OwnB w' w.heap.size v (segL k s src dst)∧Below w.heap.size w w':=by
 obtain ⟨hk,_,_,_,_,h4⟩:=sgErr_ok he
 have hp:=SgAt.new w s (.slice ad l c)
 have b1:Below w.heap.size w (w.alloc (.cells #[.int .i64 s.frm,.int .i64 s.too,.int .i64 s.seq,.int .i64 s.ack,.int .i64 s.win,.int .i64 s.flg,.slice ad l c] 41)):=(Below.refl _ _).alloc (Nat.le_refl _) _
 have hc:=sgCheck_any k s src dst _ _ (hb.below (Nat.le_refl _) b1)
 rw [he,errV_ok] at hc
 have HB:Hid (Bytes w (.slice ad l c) s.body):=hb
 have HK:Hid (isK k=true):=hk
 have hbl:s.body.length≤4000:=by omega
 have HL:Hid (s.body.length≤4000):=hbl
 unfold segV at *
 clear he hb hk h4 hbl hl
 go_enter Tryz.func81,Tryz.ntmps81
 go_upto_region 4 with (go_at_call 103;refine hc.mono ?_;rintro e w1 ⟨rfl,hw1⟩)
 have p1:=hp.below hp.lt hw1
 have e1:Below w.heap.size w w1:=b1.trans (hw1.mono b1.size)
 have hlt:=p1.lt
 obtain ⟨c0,c1,c2,c3,c4,c5,c6⟩:=p1.cells
 have hf:=front_any k s ad l c w1 HK.out
 unfold segV at hf
 clear hc hp b1 hw1
 go_wp2_with fail
 refine hf.mono ?_
 rintro e w2 ⟨v2,rfl,o2,bw2⟩
 have p2:=p1.below p1.lt bw2
 have e2:Below w.heap.size w w2:=e1.trans (bw2.mono e1.size)
 clear c0 c1 c2 c3 c4 c5 c6 hf
 have c6:=p2.cells.2.2.2.2.2.2
 have hFl:(frontL k s).length≤5000:=by have:=frontL_length s HK.out;have:=hdN_ge HK.out;omega
 have hs:=sumOf_any k src dst v2 (.slice ad l c) (frontL k s) s.body w2 (o2.bytes (by omega)) (HB.out.below (Nat.le_refl _) e2) hFl (by have:=HL.out;omega)
 go_wp2_with fail
 refine hs.mono ?_
 rintro e w3 ⟨rfl,bw3⟩
 have p3:=p2.below p2.lt bw3
 have e3:Below w.heap.size w w3:=e2.trans (bw3.mono e2.size)
 have o3:=o2.stay (Nat.le_refl _) bw3
 have z3:w1.heap.size≤w3.heap.size:=Nat.le_trans bw2.size bw3.size
 have g3:Grows w3 w1.heap.size w3 v2 (frontL k s):=⟨o3,Below.refl _ _,z3⟩
 have hw:=g3.write2 (psum k (frontL k s) s.body src dst) (by omega)
 clear c6 hs o2 bw2 bw3 p1 p2 o3
 go_wp2_with fail
 refine hw.mono ?_
 rintro e w4 ⟨v4,rfl,g4⟩
 have p4:=p3.below hlt g4.2.1
 have e4:Below w.heap.size w w4:=e3.trans (g4.2.1.mono e1.size)
 have c6:=p4.cells.2.2.2.2.2.2
 have hbb:=HB.out.below (Nat.le_refl _) e4
 have hlb:(frontL k s++b2L (psum k (frontL k s) s.body src dst)).length+s.body.length≤140737488355328:=by
  have:=HL.out
  rw [List.length_append];simp only [b2L,List.length_cons,List.length_nil];omega
 obtain ⟨X,HX⟩:∃ X,Hid (X=frontL k s++b2L (psum k (frontL k s) s.body src dst)):=⟨_,rfl⟩
 rw [← HX.out] at g4 hlb
 clear hw g3 p3 e3 hFl
 go_wp2_with (at_builtin;refine wpList_append_bytes rfl (.tmp 32) (.tmp 34) rfl w1.heap.size _ X rfl g4.1 _ s.body rfl hbb hlb g4.2.2 ?_;intro v5 w5 o5 g5)
 go_ret2
 have g6:=g4.app o5 g5
 refine ⟨_,rfl,?_,e4.grown g5 (Nat.le_trans e1.size g4.2.2) (fun k hk=>Nat.le_trans e1.size (g4.1.block_ge k hk))⟩
 rw [HX.out] at o5
 refine ⟨⟨o5.1.1,?_⟩,o5.2⟩
 rcases o5.1.2 with h0|⟨k,cp,cur,h1,h2,h3⟩
 ·exact .inl h0
 ·exact .inr ⟨k,cp,cur,h1,Nat.le_trans e1.size h2,h3⟩
def segW (k:Int) (s:Sg) (src dst:Int):List Int:=if sgErr k s src dst=0 then segL k s src dst else []
theorem sgEncode_any (k:Int) (s:Sg) (src dst:Int) (bv:Value) (w:World) (hb:Bytes w bv s.body) :
  Calls Tryz.prog 81 #[.int .i64 k,segV s bv,.int .i64 src,.int .i64 dst] w fun e w'=>∃ v,e = .returned (.tuple #[v,errV (sgErr k s src dst)])∧OwnB w' w.heap.size v (segW k s src dst)∧Below w.heap.size w w':=by
 obtain ⟨ad,c,rfl⟩:=len_body hb
 by_cases he:sgErr k s src dst=0
 ·refine (sgEncode_ok k s src dst ad _ c w rfl hb he).mono ?_
  rintro e w' ⟨v,rfl,ho,hw⟩
  refine ⟨v,by rw [he,errV_ok],?_,hw⟩
  unfold segW;rw [if_pos he];exact ho
 ·refine (sgEncode_no k s src dst ad _ c w hb he).mono ?_
  rintro e w' ⟨rfl,hw⟩
  refine ⟨_,by rw [errV_no he],?_,hw⟩
  unfold segW;rw [if_neg he];exact OwnB.nil _ _
end Go.Proofs.YtkhheooofcpfdaaGreatDoor
